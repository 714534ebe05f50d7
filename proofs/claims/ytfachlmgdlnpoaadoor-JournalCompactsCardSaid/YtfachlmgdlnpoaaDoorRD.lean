/- The records of a half. Records, laid in a half. Disks, logs, records, as arguments; the tables of the sum. Plain words: what the reference of sha reck -/
import Derived.Test.YtfachlmgdlnpoaaDoorTie
import Derived.Test.YtfachlmgdlnpoaaDoorCards
import Derived.Lib.LaidTab
import Derived.Deep.Strs
import Derived.ChangeSame
import Derived.Stop.LaidErr
import Derived.MakeChecks
import Derived.Deep.DeepHandedRow
import Derived.Lay
import Derived.LaidLaws
import Derived.SevenTiedAt
import Derived.Laws.MakeOwn
import Derived.Deep.AppendLies
import Derived.Deep.RegionLaw
import Derived.Test.YtfachlmgdlnpoaaDoorRC
namespace Go.Proofs.YtfachlmgdlnpoaaDoor
open Go.RowKit
set_option linter.unusedVariables false
set_option linter.unusedSimpArgs false
set_option maxRecDepth 8000
set_option maxHeartbeats 2000000

abbrev U6 := List Int × Value
abbrev YV (r : U6) : List Value := [r.2]
def Ya (L : List Nat) (w : World) (rs : List U6) : Prop := ∀ r ∈ rs, QD 1 L w r.2 (Vw r.1)
def Hv (base : Nat) (L : List Nat) (rs : List U6) (u : Value) (W : World) : Prop := (u = .slice none 0 0 /\ rs = []) \/ ∃ D, base <= D /\ D ∉ L /\ Y5 1 W u (rs.map YV) D /\ Ya (D :: L) W rs
section
variable {base : Nat} {L L' : List Nat} {rs : List U6} {u : Value} {w w' : World}
theorem Hv.nil : Hv base L [] (.slice none 0 0) w := .inl ⟨rfl, rfl⟩
theorem Hv.below (h : Hv base L rs u w) (hb : Below w.heap.size w w') : Hv base L rs u w' := by
 rcases h with h | ⟨D, h1, h2, h3, h4⟩
 . exact .inl h
 . exact .inr ⟨D, h1, h2, h3.below hb, fun r hr => (h4 r hr).below hb⟩
theorem Hv.more (h : Hv base L rs u w) (hb : Below w.heap.size w w') {B : Nat} (hB : w.heap.size <= B) : Hv base (B :: L) rs u w' := by
  rcases h with h | ⟨D, h1, h2, h3, h4⟩
  . exact .inl h
  . have hlt := h3.lt
    exact .inr ⟨D, h1, fun e => by rcases List.mem_cons.1 e with e | e; omega; exact h2 e, h3.below hb, fun r hr => ((h4 r hr).more hb hB).less fun x hx => by simp only [List.mem_cons] at hx ⊢; rcases hx with h | h | h <;> simp [h]⟩
theorem Hv.chgL (h : Hv base L rs u w) {B : Nat} (g : Vg B w w') (hB : B ∈ L) : Hv base L rs u w' := by
 rcases h with h | ⟨D, h1, h2, h3, h4⟩
 . exact .inl h
 . exact .inr ⟨D, h1, h2, h3.chgL g (fun e => h2 (e ▸ hB)), fun r hr => (h4 r hr).chgL g (.tail _ hB)⟩
theorem Hv.ltD (h : Hv base L rs u w) : ∀ {w' rs' D}, Y5 1 w' u rs' D -> D < w.heap.size := fun {w' rs' D} hD => by
 rcases h with ⟨rfl, _⟩ | ⟨B, hB, _, hO, _⟩
 . obtain ⟨_, _, cap, sp, e, _⟩ := hD; cases e
 . exact Zv.ltD (.inr ⟨B, hB, hO⟩) hD
theorem Hv.rd (h : Hv base L rs u w) {L0 : List Nat} (hL0 : ∀ x ∈ L0, x < base) (hl : ∀ x, x ∈ L0 -> x ∈ L) : QD 1 L0 w u (rs.map YV) /\ Ya L0 w rs := by
 rcases h with ⟨rfl, rfl⟩ | ⟨D, h1, h2, h3, h4⟩
 . exact ⟨QD.nil (by decide), fun r hr => by cases hr⟩
 . exact ⟨h3.rd (fun e => by have := hL0 D e; omega), fun r hr => (h4 r hr).less fun x hx => .tail _ (hl x hx)⟩
end
section
variable {P : Program} {ops : Array Oper} {o : Oper} {N : Nat} {f : Fl} {w : World}
theorem Qc2 {t bytes base n0 : Nat} {x y : Operand} {u v2 dv : Value} {rs : List U6} {z : List Int} {L : List Nat} {Cs : List (Nat × List Value)} (ho : o.op = .call { callee := .builtin .append, args := #[x, y], argTypes := #[t, t] }) (ht : Hq P t 1 bytes = true) (hx : ev f x = some u) (hy : ev f y = some v2)
    (h : Hv base L rs u w) (h2 : QD 1 [] w v2 [[dv]]) (hn : Zv 1 n0 (Vw z) dv w) (hLn : ∀ x ∈ L, x < n0) (hDn : ∀ {w' rs' D}, Y5 1 w' u rs' D -> D < n0) (hm : rs.length + 1 <= maxLen) (hby : (rs.length + 1) * bytes <= 140737488355328) (hb : base <= w.heap.size) (hL : LL L w) (hC : ∀ c ∈ Cs, Xc w c.1 c.2 /\ c.1 ∈ L) (hw : QP ops o f = some true := by rfl) : DR P ops o N f w fun u' W => Hv base L (rs ++ [(z, dv)]) u' W /\ Below base w W /\ w.heap.size <= W.heap.size /\ ∀ c ∈ Cs, Xc W c.1 c.2 := fun a ha => by
  have hone : ∀ r ∈ [[dv]], ∀ u ∈ r, u.oneCell' = true := fun r hr u hu => by
    rw [List.mem_singleton.1 hr] at hu
    rw [List.mem_singleton.1 hu]
    exact (hn.rd (L := []) (fun x hx => by cases hx)).one
  rcases h with ⟨rfl, rfl⟩ | ⟨D, h1, hDL, hO, hrs⟩
  . refine QK.mono (JM (rs := []) (L := []) ho ht hx hy (QD.nil (by decide)) h2 (by simp) (by simpa using hm) (by simpa using hby) hw a ha) fun v W ⟨k1, k2, k3⟩ => ⟨.inr ⟨w.heap.size, hb, fun e => Nat.lt_irrefl _ (hL _ e), k1, fun r hr => ?_⟩, k2.mono hb, Nat.le_of_lt k3, fun c hc => (hC c hc).1.below k2⟩
    rw [List.nil_append, List.mem_singleton] at hr
    subst hr
    exact (hn.rd hLn).more k2 (Nat.le_refl _)
  . refine QK.mono (Vx ho ht hx hy hO h2 hone (by rw [List.length_map]; exact hm) (by rw [List.length_map]; exact hby) hw a ha) fun v W ⟨B', k1, k2⟩ => ⟨.inr ⟨B', k2.le h1 hb, ?_, ?_, fun r hr => ?_⟩, k2.from_base h1 hb, k2.size, fun c hc => (hC c hc).1.grow k2 (fun e => hDL (e ▸ (hC c hc).2))⟩
    . intro e
      have := k2.new
      rcases this with rfl | hh
      . exact hDL e
      . have := hL _ e; omega
    . rw [List.map_append]; exact k1
    . rcases List.mem_append.1 hr with hr | hr
      . exact (hrs r hr).grow k2
      . rw [List.mem_singleton] at hr
        subst hr
        exact (hn.rd (L := D :: L) (fun x hx => by rcases List.mem_cons.1 hx with h | h; exact h ▸ hDn hO; exact hLn x h)).grow k2
end
def Z5 (pg : Nat -> Option Pg) (sz n : Nat) (gen : Int) : Nat -> Nat -> List (List Int) -> Option (List (List Int) × Nat)
 | 0, _, _ => none
 | f + 1, k, l => if k < 1 + n then (match Uf pg sz k gen with
   | none => none
   | some (out, k') => if 1 + n < k' then none else Z5 pg sz n gen f k' (l ++ [out])) else some (l, k)
def Yd (pg : Nat -> Option Pg) (sz : Nat) (gen : Int) : Nat -> Nat -> List (List Int) -> List (List Int) × Nat
 | 0, k, l => (l, k)
 | f + 1, k, l => match Uf pg sz k gen with
  | none => (l, k)
  | some (out, k') => Yd pg sz gen f k' (l ++ [out])
def ZV (pg : Nat -> Option Pg) (sz : Nat) : Option (List (List Int) × Int × Nat) := match pg 0 with
 | none => none
 | some p => match VH p with
  | none => none
  | some n => if (sz : Int) - 1 < n then none else match Z5 pg sz n.toNat p.gen (sz + 1) 1 [] with
   | none => none
   | some (l, k) => some ((Yd pg sz p.gen (sz + 1 - k) k l).1, p.gen, (Yd pg sz p.gen (sz + 1 - k) k l).2)
theorem DM {pg : Nat -> Option Pg} {sz n f k : Nat} {gen : Int} {l : List (List Int)} (h : ¬ k < 1 + n) : Z5 pg sz n gen (f + 1) k l = some (l, k) := by rw [Z5, if_neg h]
theorem DK {pg : Nat -> Option Pg} {sz n f k : Nat} {gen : Int} {l : List (List Int)} (h : k < 1 + n) (hr : Uf pg sz k gen = none) : Z5 pg sz n gen (f + 1) k l = none := by rw [Z5, if_pos h, hr]
theorem DJ {pg : Nat -> Option Pg} {sz n f k k' : Nat} {gen : Int} {l : List (List Int)} {out : List Int} (h : k < 1 + n) (hr : Uf pg sz k gen = some (out, k')) (h2 : 1 + n < k') : Z5 pg sz n gen (f + 1) k l = none := by rw [Z5, if_pos h, hr]; dsimp only; rw [if_pos h2]
theorem DL {pg : Nat -> Option Pg} {sz n f k k' : Nat} {gen : Int} {l : List (List Int)} {out : List Int} (h : k < 1 + n) (hr : Uf pg sz k gen = some (out, k')) (h2 : ¬ 1 + n < k') : Z5 pg sz n gen (f + 1) k l = Z5 pg sz n gen f k' (l ++ [out]) := by rw [Z5, if_pos h, hr]; dsimp only; rw [if_neg h2]
theorem DH {pg : Nat -> Option Pg} {sz k : Nat} {gen : Int} {l : List (List Int)} (hr : Uf pg sz k gen = none) : ∀ f, Yd pg sz gen f k l = (l, k)
 | 0 => rfl
 | f + 1 => by rw [Yd, hr]
theorem DI {pg : Nat -> Option Pg} {sz f k k' : Nat} {gen : Int} {l : List (List Int)} {out : List Int} (hr : Uf pg sz k gen = some (out, k')) : Yd pg sz gen (f + 1) k l = Yd pg sz gen f k' (l ++ [out]) := by rw [Yd, hr]
section
variable {pg : Nat -> Option Pg} {sz : Nat} {p : Pg} {n : Int}
theorem QdG (h : pg 0 = none) : ZV pg sz = none := by unfold ZV; rw [h]
theorem QdF (h : pg 0 = some p) (h2 : VH p = none) : ZV pg sz = none := by unfold ZV; rw [h]; dsimp only; rw [h2]
theorem QdI (h : pg 0 = some p) (h2 : VH p = some n) (h3 : (sz : Int) - 1 < n) : ZV pg sz = none := by unfold ZV; rw [h]; dsimp only; rw [h2]; dsimp only; rw [if_pos h3]
theorem DG {N : Nat} (h : pg 0 = some p) (h2 : VH p = some n) (h3 : ¬ (sz : Int) - 1 < n) (hN : n.toNat = N) (h4 : Z5 pg sz N p.gen (sz + 1) 1 [] = none) : ZV pg sz = none := by subst hN; unfold ZV; rw [h]; dsimp only; rw [h2]; dsimp only; rw [if_neg h3, h4]
theorem DF {N k k2 : Nat} {l l2 : List (List Int)} (h : pg 0 = some p) (h2 : VH p = some n) (h3 : ¬ (sz : Int) - 1 < n) (hN : n.toNat = N) (h4 : Z5 pg sz N p.gen (sz + 1) 1 [] = some (l, k)) (h5 : Yd pg sz p.gen (sz + 1 - k) k l = (l2, k2)) : ZV pg sz = some (l2, p.gen, k2) := by subst hN; unfold ZV; rw [h]; dsimp only; rw [h2]; dsimp only; rw [if_neg h3, h4]; dsimp only; rw [h5]
end
theorem QbJ {p : Pg} {n : Int} (h : VH p = some n) (hb : Z0 p.dat) : 0 <= n /\ n < 4294967296 := by
  unfold VH at h
  split at h
  . rename_i hc
    cases h
    have hl : (p.dat.drop 3).length = 4 := by rw [List.length_drop]; omega
    have := Ur (p.dat.drop 3) fun x hx => hb x (List.mem_of_mem_drop hx)
    rw [hl] at this
    unfold X9
    have e : (2 : Int) ^ (8 * 4) = 4294967296 := by decide
    rw [e] at this
    rw [Qm (by omega)]
    exact this
  . cases h
def QfN (x : Option (List Int × Nat)) (st sz n0 : Nat) (out : List Int) (k' : Nat) (dv : Value) (b : Bool) (W : World) : Prop := (b = true -> x = some (out, k') /\ Zv 1 n0 (Vw out) dv W /\ Z0 out /\ st < k' /\ k' <= sz /\ out.length <= 100 * (k' - st)) /\ (b = false -> x = none /\ k' = st)
theorem Qep (Qb : List (List Int)) (Qa : List (Int × List Int)) (Qd : Int) (Qc : Bool) (s1 s2 : Value) (fr gen : Int) (sz st : Nat) (P : Nat) (w : World) (L : List Nat) (hL : LL L w) (hPL : P ∈ L) (hp : Xc w P [s1, s2, .int .i64 Qd, .bool Qc, .int .i64 fr, .int .i64 (sz : Int), .int .i64 gen, .int .i64 (st : Int)]) (h1 : QD 128 L w s1 (Qb.map Qr)) (h2 : QD 129 L w s2 (Qa.map QG)) (hfr : 0 <= fr /\ fr <= 100000) (hsz : sz <= 2048) (hst : st <= 100000) (hbd : YL Qb Qa) (tabC : ∀ {W}, Vg P w W -> ZM W) :
  CW Tryd.prog 62 [.pointer (some ⟨P, 0, none⟩)] w P fun v W => ∃ (out : List Int) (k' : Nat) (dv : Value) (b : Bool), v = .tuple #[dv, .bool b] /\ QfN (Uf (HJ Qb Qa Qc fr) sz st gen) st sz w.heap.size out k' dv b W /\ Xc W P [s1, s2, .int .i64 Qd, .bool Qc, .int .i64 fr, .int .i64 (sz : Int), .int .i64 gen, .int .i64 (k' : Int)] :=
 Calls.mono (Qfi Qb Qa Qd Qc s1 s2 fr gen sz st P w L hL hPL hp h1 h2 hp.lt hfr hsz hst hbd tabC) fun e w' h => by
  obtain ⟨v, he, ⟨out, k', dv, h1, h2, h3, h4, h5⟩ | ⟨h1, h2, h3⟩, hc⟩ := h
  . exact ⟨v, he, ⟨out, k', dv, true, h1, ⟨fun _ => ⟨h2, h3, h5⟩, fun h => (by cases h)⟩, h4⟩, hc⟩
  . exact ⟨v, he, ⟨[], st, _, false, h1, ⟨fun h => (by cases h), fun _ => ⟨h2, rfl⟩⟩, h3⟩, hc⟩
set_option maxHeartbeats 1000000 in
theorem QeG (Qb : List (List Int)) (Qa : List (Int × List Int)) (Qd : Int) (Qc : Bool) (s1 s2 : Value) (fr : Int) (sz : Nat) (w : World) (L : List Nat) (hL : LL L w)   (hL0 : LL L w) (h1 : QD 128 L w s1 (Qb.map Qr)) (h2 : QD 129 L w s2 (Qa.map QG)) (hfr : 0 <= fr /\ fr <= 100000) (hsz : sz <= 2048) (hbd : YL Qb Qa) (hT : ZM w) : CV Tryd.prog 39 [.agg #[s1, s2, .int .i64 Qd, .bool Qc, .int .i64 fr, .int .i64 (sz : Int)]] w fun v W => (∃ (rs : List U6) (lv : Value) (g : Int) (used : Nat), v = .tuple #[lv, .int .i64 g, .bool true] /\ ZV (HJ Qb Qa Qc fr) sz = some (rs.map Prod.fst, g, used) /\ QD 1 L W lv (rs.map YV) /\ Ya L W rs /\ (∀ r ∈ rs, Z0 r.1 /\ r.1.length <= 300000) /\ used <= sz + 1 /\ rs.length + 1 <= used) \/ (v = .tuple #[.slice none 0 0, .int .i64 0, .bool false] /\ ZV (HJ Qb Qa Qc fr) sz = none) := by
 refine QN (N := 80) (f := [(0, .agg #[s1, s2, .int .i64 Qd, .bool Qc, .int .i64 fr, .int .i64 (sz : Int)])]) Tryd.func39 rfl rfl rfl rfl fun Q hQ hE => ?_
 have hB := Below.refl w.heap.size w
 refine Sq fun K1 hK1 => (Rg ?_)
 refine Ge (Xa rfl rfl rfl) rfl rfl ?_
 rintro _ W2 ⟨rfl, k3, b4, z5⟩
 have l6 := hB.size
 replace hB := Qe hB b4
 replace hL := LL.more hL z5
 refine Pu rfl (Pu rfl (Pu rfl (Ni (hK1 (Sq fun K7 hK7 => (Rg ?_))))))
 refine Ge (QQ rfl Tryd.func60 rfl rfl rfl (Qck Qb Qa Qd Qc s1 s2 fr (sz : Int) 0 w.heap.size [] W2 [] (LL.nil _) ((h1.less (fun x hx => by cases hx)).below hB) ((h2.less (fun x hx => by cases hx)).below hB) k3 hfr (by decide) hbd (hT.below hB))) rfl rfl ?_
 rintro _ W9 ⟨⟨p, dv, ub, rfl, hdv, hun, hpy, hpl⟩, b8⟩
 replace k3 := k3.below b8
 replace hB := Qe hB b8
 replace hL := LL.below hL b8
 refine Pu rfl (Pu rfl (Pu rfl ?_))
 refine Ge (Qu rfl ZQ rfl) rfl rfl ?_
 rintro _ W10 ⟨rfl, k11, b12, z13⟩
 have n14 : w.heap.size ≠ W9.heap.size := Nat.ne_of_lt k3.lt
 have l15 := hB.size
 replace hdv := hdv.more b12 (Nat.le_refl _)
 replace k3 := k3.below b12
 replace hB := Qe hB b12
 replace hL := LL.more hL z13
 refine WL.do (Qh (cs' := [.int .i64 p.gen, .int .i64 p.idx, .int .i64 p.mks, dv]) (vs := [.int .i64 p.gen, .int .i64 p.idx, .int .i64 p.mks, dv]) rfl Xu rfl rfl rfl (oC rfl (oC rfl (oC rfl (oC hdv.one Qk)))) k11 rfl (nB rfl) rfl) rfl ?_
 rintro _ W16 ⟨k18, o17⟩
 replace k3 := k3.other o17 n14
 clear k11
 replace hdv := hdv.only o17 (.head _)
 replace hB := o17.below hB l15
 replace hL := LL.only hL o17
 refine Pu rfl (Ni (hK7 (Sq fun K19 hK19 => (Sq fun K20 hK20 => ?_))))
 cases ub
 .
  have hpn : HJ Qb Qa Qc fr 0 = none := hun.2 rfl
  refine Rg (Pu rfl (Va (XU rfl rfl) rfl rfl (Ni (hK20 (WC.condT rfl (Sq fun K21 hK21 => (Rg ?_)))))))
  refine Pu rfl (Pu rfl (Pu rfl (Ni (hK21 ?_))))
  exact WC.ret fun a_ ha_ => hQ (Xh rfl (.tmp rfl) (.tmp rfl) (.tmp rfl) (.inr ⟨rfl, QdG hpn⟩) hB ha_)
 .
  have hpk : HJ Qb Qa Qc fr 0 = some p := hun.1 rfl
  refine Rg (Pu rfl (Va (XU rfl rfl) rfl rfl (Ni (hK20 (WC.condF rfl (WC.skip (hK19 ?_)))))))
  refine Sq fun K22 hK22 => (Rg (Va (Qg rfl Xq rfl k18.range rfl) rfl rfl ?_))
  refine Ge (QQ rfl Tryd.func61 rfl rfl rfl (QeD p dv W16 [] (LL.nil _) (hdv.less (fun x hx => by cases hx)) hpy)) rfl rfl ?_
  rintro _ W24 ⟨⟨n, sb, rfl, hsn⟩, b23⟩
  replace k3 := k3.below b23
  replace k18 := k18.below b23
  replace hB := Qe hB b23
  replace hL := LL.below hL b23
  refine Pu rfl (Pu rfl (Pu rfl (Pu rfl (Pu rfl (Ni (hK22 (Sq fun K25 hK25 => ?_)))))))
  refine Sq fun K26 hK26 => ?_
  cases sb
  .
   have hsk := hsn.2 rfl
   refine Rg (Pu rfl (Va (XU rfl rfl) rfl rfl (Pu rfl (Of rfl (Of rfl (Of rfl (Of rfl ?_)))))))
   refine Of rfl (Pu rfl (Ni (hK26 (WC.condT rfl (Sq fun K27 hK27 => (Rg (Pu rfl ?_)))))))
   refine Pu rfl (Pu rfl (Ni (hK27 ?_)))
   exact WC.ret fun a_ ha_ => hQ (Xh rfl (.tmp rfl) (.tmp rfl) (.tmp rfl) (.inr ⟨rfl, QdF hpk hsk⟩) hB ha_)
  .
   have hsk := hsn.1 rfl
   have hnn := QbJ hsk hpy
   refine Rg (Pu rfl (Va (XU rfl rfl) rfl rfl (Pu rfl (Pu rfl (Va (Qn (o1 := 5) rfl V4 rfl rfl) rfl rfl (Va (Qi rfl Qv rfl (k3.cell (k := 5) rfl)) rfl rfl (Va (Zm (r := (sz : Int) - 1) rfl rfl rfl (Qm (by omega))) rfl rfl ?_)))))))
   refine Va (XL rfl rfl rfl) rfl rfl (Pu rfl (Ni (hK26 ?_)))
   refine WC.cond rfl (fun c28 => ?_) (fun c28 => ?_)
   .
    replace c28 := dT c28
    refine Sq fun K29 hK29 => (Rg (Pu rfl (Pu rfl (Pu rfl (Ni (hK29 ?_))))))
    exact WC.ret fun a_ ha_ => hQ (Xh rfl (.tmp rfl) (.tmp rfl) (.tmp rfl) (.inr ⟨rfl, QdI hpk hsk (by first | omega | (simp_all; omega))⟩) hB ha_)
   .
    replace c28 := dF c28
    refine WC.skip (hK25 (Sq fun K30 hK30 => ?_))
    obtain ⟨N, hN⟩ : ∃ N : Nat, n.toNat = N := ⟨_, rfl⟩
    have hNn : n = (N : Int) := by omega
    have hNs : N + 1 <= sz := by first | omega | (simp_all; omega)
    refine Rg (Va (Qg rfl KR rfl k3.range rfl) rfl rfl (Va (Qn (o1 := 0) rfl Yu rfl rfl) rfl rfl (Va (Qi rfl Qv rfl (k18.cell (k := 0) rfl)) rfl rfl (Va (QS rfl rfl (Dr _ _ _ _ _ _ _ _)) rfl rfl ?_))))
    refine Ge (Xa rfl rfl rfl) rfl rfl ?_
    rintro _ W31 ⟨rfl, k32, b33, z34⟩
    have n35 : w.heap.size ≠ W24.heap.size := Nat.ne_of_lt k3.lt
    have n36 : W9.heap.size ≠ W24.heap.size := Nat.ne_of_lt k18.lt
    have l37 := hB.size
    replace k3 := k3.below b33
    replace k18 := k18.below b33
    replace hB := Qe hB b33
    replace hL := LL.more hL z34
    refine Pu rfl (Ni (hK30 (Sq fun K38 hK38 => (Rg (Pu rfl (Ni (hK38 ?_)))))))
    refine Sq fun K39 hK39 => (WC.block ?_)
    have hls : Hv w.heap.size (W24.heap.size :: W9.heap.size :: w.heap.size :: L) ([] : List U6) (.slice none 0 0) W31 := Hv.nil
    refine WC.loop3 (fun (k : Nat) (rs : List U6) (lv : Value) => [(1, .pointer (some ⟨w.heap.size, 0, none⟩)), (2, .slice none 0 0), (3, .int .i64 0), (4, .bool false), (5, .pointer (some ⟨W9.heap.size, 0, none⟩)), (7, .int .i64 n), (8, .pointer (some ⟨W24.heap.size, 0, none⟩)), (9, lv)]) (fun (k : Nat) (rs : List U6) (lv : Value) W => 1 <= k /\ k <= sz + 1 /\ (∃ f, sz + 2 - k <= f /\ Z5 (HJ Qb Qa Qc fr) sz N p.gen (sz + 1) 1 [] = Z5 (HJ Qb Qa Qc fr) sz N p.gen f k (rs.map Prod.fst)) /\ rs.length + 1 <= k /\ (∀ r ∈ rs, Z0 r.1 /\ r.1.length <= 300000) /\ Below w.heap.size w W /\ LL (W24.heap.size :: W9.heap.size :: w.heap.size :: L) W /\ Hv w.heap.size (W24.heap.size :: W9.heap.size :: w.heap.size :: L) rs lv W /\ Xc W w.heap.size [s1, s2, .int .i64 Qd, .bool Qc, .int .i64 fr, .int .i64 (sz : Int)] /\ Xc W W9.heap.size [.int .i64 p.gen, .int .i64 p.idx, .int .i64 p.mks, dv] /\ Xc W W24.heap.size [s1, s2, .int .i64 Qd, .bool Qc, .int .i64 fr, .int .i64 (sz : Int), .int .i64 p.gen, .int .i64 (k : Int)]) (fun (k : Nat) (rs : List U6) (lv : Value) => sz + 1 - k) 1 ([] : List U6) (.slice none 0 0) (by repeat first | exact trivial | refine aR ?_ | refine aI (by omega) ?_) ⟨(Nat.le_refl _), (by omega), ⟨sz + 1, by omega, rfl⟩, (Nat.le_refl _), (fun r hr => by cases hr), hB, hL, hls, k3, k18, k32⟩ ?_
    clear hls k3 k18 k32 hB hL
    rintro K40 k rs lv W41 ⟨hk1, hk2, hv, hrl, hrb, hB, hL, hls, k3, k18, k32⟩ hK40
    refine Sq fun K42 hK42 => (Sq fun K43 hK43 => (Rg (Pu rfl (Va (QZ rfl rfl) rfl rfl (Va (Qn (o1 := 7) rfl ZF rfl rfl) rfl rfl (Va (Qi rfl Qv rfl (k32.cell (k := 7) rfl)) rfl rfl (Pu rfl ?_)))))))
    refine Va (QR (r := 1 + n) rfl rfl rfl (by rw [Qm (by omega)])) rfl rfl (Va (Xe rfl rfl rfl) rfl rfl (Ni (hK43 ?_)))
    refine WC.cond rfl (fun c44 => ?_) (fun c44 => ?_)
    .
     replace c44 := dT c44
     refine WC.skip (hK42 (WC.block (Sq fun K45 hK45 => (Rg (Pu rfl ?_)))))
     have hLr := hL
     have hDr : ∀ {w_ : World} {rs_ : List (List Value)} {D : Nat}, Y5 1 w_ lv rs_ D -> D < W41.heap.size := fun hD => hls.ltD hD
     refine Ge (U0 rfl Tryd.func62 rfl rfl rfl (Qep Qb Qa Qd Qc s1 s2 fr p.gen sz k W24.heap.size W41 [W24.heap.size] (LL.cons (LL.nil _) k32.lt) (.head _) k32 (((h1.less (L' := []) (fun x hx => by cases hx)).more (Below.refl _ _) l37).below hB) (((h2.less (L' := []) (fun x hx => by cases hx)).more (Below.refl _ _) l37).below hB) hfr hsz (by omega) hbd (fun {_} g => hT.below (g.toBelow hB l37)))) rfl rfl ?_
     rintro _ W52 ⟨⟨out46, kk47, dv48, rb49, rfl, hre50, hp53⟩, g51⟩
     replace hls := hls.chgL g51 (.head _)
     replace k3 := k3.chg g51 n35
     replace k18 := k18.chg g51 n36
     replace hB := g51.toBelow hB l37
     replace hL := hL.chg g51
     refine Pu rfl (Pu rfl (Pu rfl (Pu rfl (Pu rfl (Ni (hK45 (Sq fun K54 hK54 => ?_)))))))
     refine Sq fun K55 hK55 => (Rg (Pu rfl (Va (XU rfl rfl) rfl rfl (Pu rfl ?_))))
     refine WL.split 53 rfl (fun g56 => ?_) (fun g56 => ?_)
     .
      replace g56 := Q4 g56
      replace g56 := ZY g56
      refine Of rfl (Of rfl (Of rfl (Of rfl (Of rfl (Of rfl (Of rfl (Pu rfl ?_)))))))
      refine Ni (hK55 (WC.condT rfl (Sq fun K57 hK57 => (Rg (Pu rfl (Pu rfl (Pu rfl ?_)))))))
      refine Ni (hK57 ?_)
      exact WC.ret fun a_ ha_ => hQ (Xh rfl (.tmp rfl) (.tmp rfl) (.tmp rfl) (.inr ⟨rfl, DG hpk hsk (by omega) hN (by obtain ⟨f_, hf1_, hf2_⟩ := hv; obtain ⟨g_, rfl⟩ : ∃ g, f_ = g + 1 := ⟨f_ - 1, by omega⟩; refine hf2_.trans ?_; cases hb_ : rb49 with | false => exact DK (by omega) (hre50.2 hb_).1 | true => exact DJ (by omega) (hre50.1 hb_).1 (by simp_all <;> omega))⟩) hB ha_)
     .
      replace g56 := Q2 g56
      refine Pu rfl (Va (QZ rfl rfl) rfl rfl (Va (Qn (o1 := 7) rfl ZF rfl rfl) rfl rfl (Va (Qi rfl Qv rfl (hp53.cell (k := 7) rfl)) rfl rfl (Pu rfl (Va (QR (r := 1 + n) rfl rfl rfl (Qm (by omega))) rfl rfl (Va (XL rfl rfl rfl) rfl rfl (Pu rfl ?_)))))))
      refine Ni (hK55 ?_)
      refine WC.cond rfl (fun c58 => ?_) (fun c58 => ?_)
      .
       replace c58 := dT c58
       refine Sq fun K59 hK59 => (Rg (Pu rfl (Pu rfl (Pu rfl (Ni (hK59 ?_))))))
       exact WC.ret fun a_ ha_ => hQ (Xh rfl (.tmp rfl) (.tmp rfl) (.tmp rfl) (.inr ⟨rfl, DG hpk hsk (by omega) hN (by obtain ⟨f_, hf1_, hf2_⟩ := hv; obtain ⟨g_, rfl⟩ : ∃ g, f_ = g + 1 := ⟨f_ - 1, by omega⟩; refine hf2_.trans ?_; cases hb_ : rb49 with | false => exact DK (by omega) (hre50.2 hb_).1 | true => exact DJ (by omega) (hre50.1 hb_).1 (by simp_all <;> omega))⟩) hB ha_)
      .
       replace c58 := dF c58
       refine WC.skip (hK54 (Rg (Pu rfl (Pu rfl ?_))))
       obtain ⟨hr1, hr2, hr3, hr4, hr5, hr6⟩ := hre50.1 (by first | assumption | simp_all)
       refine Ge (ZP (r := [dv48]) rfl US (by decide) (by decide) rfl (Ux (hr2.rd (L := []) (fun x hx => by cases hx)).one) rfl) rfl rfl ?_
       rintro u64 W60 ⟨k61, b62, z63⟩
       replace hls := hls.below b62
       replace k3 := k3.below b62
       replace k18 := k18.below b62
       replace hp53 := hp53.below b62
       replace hB := Qe hB b62
       replace hL := LL.below hL b62
       refine Ge (Qc2 (base := w.heap.size) (n0 := W41.heap.size) (Cs := [(w.heap.size, [s1, s2, .int .i64 Qd, .bool Qc, .int .i64 fr, .int .i64 (sz : Int)]), (W9.heap.size, [.int .i64 p.gen, .int .i64 p.idx, .int .i64 p.mks, dv]), (W24.heap.size, [s1, s2, .int .i64 Qd, .bool Qc, .int .i64 fr, .int .i64 (sz : Int), .int .i64 p.gen, .int .i64 (kk47 : Int)])]) rfl US rfl rfl hls (k61.rd (L := []) (by simp)) (hr2.below b62) hLr hDr (by unfold maxLen; omega) (by omega) hB.size hL (fun c hc => by simp only [List.mem_cons, List.not_mem_nil, or_false] at hc; rcases hc with rfl | rfl | rfl; exact ⟨k3, (.tail _ (.tail _ (.head _)))⟩; exact ⟨k18, (.tail _ (.head _))⟩; exact ⟨hp53, (.head _)⟩)) rfl rfl ?_
       rintro u65 W66 ⟨hls2, b67, z68, hk69⟩
       replace k3 := hk69 _ (.head _)
       replace k18 := hk69 _ (.tail _ (.head _))
       replace hp53 := hk69 _ (.tail _ (.tail _ (.head _)))
       replace hB := hB.trans b67
       replace hL : LL (W24.heap.size :: W9.heap.size :: w.heap.size :: L) W66 := fun x hx => Nat.lt_of_lt_of_le (hL x hx) z68
       refine Pu rfl (Ni ?_)
       exact hK40 kk47 (rs ++ [(out46, dv48)]) u65 ⟨(by omega), (by omega), (by obtain ⟨f_, hf1_, hf2_⟩ := hv; obtain ⟨g_, rfl⟩ : ∃ g, f_ = g + 1 := ⟨f_ - 1, by omega⟩; exact ⟨g_, by omega, hf2_.trans ((DL (by omega) hr1 (by first | omega | (simp_all; omega))).trans (by rw [List.map_append]; rfl))⟩), (by rw [List.length_append]; simp only [List.length_singleton]; omega), (fun r hr => by rcases List.mem_append.1 hr with h_ | h_; exact hrb r h_; rw [List.mem_singleton.1 h_]; exact ⟨hr3, by show out46.length <= 300000; omega⟩), hB, hL, hls2, k3, k18, hp53⟩ (by omega) (by repeat first | exact trivial | refine aR ?_ | refine aI (by omega) ?_)
    .
     replace c44 := dF c44
     refine WC.exit ?_
     refine hK39 (WC.block ?_)
     have hv1 : Z5 (HJ Qb Qa Qc fr) sz N p.gen (sz + 1) 1 [] = some (rs.map Prod.fst, k) := by obtain ⟨f_, hf1_, hf2_⟩ := hv; obtain ⟨g_, rfl⟩ : ∃ g, f_ = g + 1 := ⟨f_ - 1, by omega⟩; exact hf2_.trans (DM (by omega))
     obtain ⟨k0, hk0⟩ : ∃ k0, k0 = k := ⟨_, rfl⟩
     obtain ⟨l0, hl0⟩ : ∃ l0, l0 = rs.map Prod.fst := ⟨_, rfl⟩
     rw [<- hk0, <- hl0] at hv1
     have hv2 : ∃ f, sz + 1 - k <= f /\ Yd (HJ Qb Qa Qc fr) sz p.gen (sz + 1 - k0) k0 l0 = Yd (HJ Qb Qa Qc fr) sz p.gen f k (rs.map Prod.fst) := ⟨sz + 1 - k0, by omega, by rw [hk0, hl0]⟩
     clear hv hk0 hl0
     refine WC.loop3 (fun (k : Nat) (rs : List U6) (lv : Value) => [(1, .pointer (some ⟨w.heap.size, 0, none⟩)), (2, .slice none 0 0), (3, .int .i64 0), (4, .bool false), (5, .pointer (some ⟨W9.heap.size, 0, none⟩)), (7, .int .i64 n), (8, .pointer (some ⟨W24.heap.size, 0, none⟩)), (9, lv)]) (fun (k : Nat) (rs : List U6) (lv : Value) W => 1 <= k /\ k <= sz + 1 /\ (∃ f, sz + 1 - k <= f /\ Yd (HJ Qb Qa Qc fr) sz p.gen (sz + 1 - k0) k0 l0 = Yd (HJ Qb Qa Qc fr) sz p.gen f k (rs.map Prod.fst)) /\ rs.length + 1 <= k /\ (∀ r ∈ rs, Z0 r.1 /\ r.1.length <= 300000) /\ Below w.heap.size w W /\ LL (W24.heap.size :: W9.heap.size :: w.heap.size :: L) W /\ Hv w.heap.size (W24.heap.size :: W9.heap.size :: w.heap.size :: L) rs lv W /\ Xc W w.heap.size [s1, s2, .int .i64 Qd, .bool Qc, .int .i64 fr, .int .i64 (sz : Int)] /\ Xc W W9.heap.size [.int .i64 p.gen, .int .i64 p.idx, .int .i64 p.mks, dv] /\ Xc W W24.heap.size [s1, s2, .int .i64 Qd, .bool Qc, .int .i64 fr, .int .i64 (sz : Int), .int .i64 p.gen, .int .i64 (k : Int)]) (fun (k : Nat) (rs : List U6) (lv : Value) => sz + 1 - k) k rs lv (by repeat first | exact trivial | refine aR ?_ | refine aI (by omega) ?_) ⟨hk1, hk2, hv2, hrl, hrb, hB, hL, hls, k3, k18, k32⟩ ?_
     clear hls k3 k18 k32 hB hL
     rintro K70 k rs lv W71 ⟨hk1, hk2, hv2, hrl, hrb, hB, hL, hls, k3, k18, k32⟩ hK70
     refine WC.block (Sq fun K72 hK72 => (Rg (Pu rfl ?_)))
     have hLr := hL
     have hDr : ∀ {w_ : World} {rs_ : List (List Value)} {D : Nat}, Y5 1 w_ lv rs_ D -> D < W71.heap.size := fun hD => hls.ltD hD
     refine Ge (U0 rfl Tryd.func62 rfl rfl rfl (Qep Qb Qa Qd Qc s1 s2 fr p.gen sz k W24.heap.size W71 [W24.heap.size] (LL.cons (LL.nil _) k32.lt) (.head _) k32 (((h1.less (L' := []) (fun x hx => by cases hx)).more (Below.refl _ _) l37).below hB) (((h2.less (L' := []) (fun x hx => by cases hx)).more (Below.refl _ _) l37).below hB) hfr hsz (by omega) hbd (fun {_} g => hT.below (g.toBelow hB l37)))) rfl rfl ?_
     rintro _ W79 ⟨⟨out73, kk74, dv75, rb76, rfl, hre77, hp80⟩, g78⟩
     replace hls := hls.chgL g78 (.head _)
     replace k3 := k3.chg g78 n35
     replace k18 := k18.chg g78 n36
     replace hB := g78.toBelow hB l37
     replace hL := hL.chg g78
     refine Pu rfl (Pu rfl (Pu rfl (Pu rfl (Pu rfl (Ni (hK72 (Sq fun K81 hK81 => ?_)))))))
     refine Sq fun K82 hK82 => (Rg (Pu rfl (Va (XU rfl rfl) rfl rfl (Ni (hK82 ?_)))))
     refine WC.cond rfl (fun c83 => ?_) (fun c83 => ?_)
     .
      replace c83 := Q4 c83
      replace c83 := ZY c83
      refine Sq fun K84 hK84 => ?_
      refine dM 4 [(some 73, .is (lv)), (some 74, .is (.pointer (some ⟨W9.heap.size, 0, none⟩))), (some 75, .is (.int .i64 p.gen)), (some 2, .is (lv))] [[], [], [1], [0, 0]] (by exact trivial) ?_ ?_
      .
       refine Dc (fun Wd hd => ?_) ?_
       .
        exact Dd (Qt rfl rfl) rfl
       refine Dc (fun Wd hd => ?_) ?_
       .
        exact Dd (Qn (o1 := 0) rfl Yu rfl rfl) rfl
       refine Dc (fun Wd hd => ?_) ?_
       .
        have k18 := k18.below hd
        exact Dd (Qi rfl Qv rfl (k18.cell (k := 0) rfl)) rfl
       refine Dc (fun Wd hd => ?_) ?_
       .
        exact Dd (KH rfl rfl) rfl
       exact trivial
      .
       intro W85 b86
       replace hls := hls.below b86
       replace hB := Qe hB b86
       refine Pu rfl (Pu rfl (Ni (hK84 ?_)))
       exact WC.ret fun a_ ha_ => hQ (Xh rfl (.tmp rfl) (.tmp rfl) (.tmp rfl) (.inl ⟨rs, lv, p.gen, k, rfl, DF hpk hsk (by omega) hN hv1 (by obtain ⟨f_, hf1_, hf2_⟩ := hv2; exact hf2_.trans (DH (hre77.2 (by first | assumption | simp_all)).1 _)), (hls.rd (fun x hx => hL0 x hx) (fun x hx => (.tail _ (.tail _ (.tail _ hx))))).1, (hls.rd (fun x hx => hL0 x hx) (fun x hx => (.tail _ (.tail _ (.tail _ hx))))).2, hrb, by omega, by omega⟩) hB ha_)
     .
      replace c83 := Q2 c83
      refine WC.skip (hK81 (Rg (Pu rfl (Pu rfl ?_))))
      obtain ⟨hr1, hr2, hr3, hr4, hr5, hr6⟩ := hre77.1 (by first | assumption | simp_all)
      refine Ge (ZP (r := [dv75]) rfl US (by decide) (by decide) rfl (Ux (hr2.rd (L := []) (fun x hx => by cases hx)).one) rfl) rfl rfl ?_
      rintro u91 W87 ⟨k88, b89, z90⟩
      replace hls := hls.below b89
      replace k3 := k3.below b89
      replace k18 := k18.below b89
      replace hp80 := hp80.below b89
      replace hB := Qe hB b89
      replace hL := LL.below hL b89
      refine Ge (Qc2 (base := w.heap.size) (n0 := W71.heap.size) (Cs := [(w.heap.size, [s1, s2, .int .i64 Qd, .bool Qc, .int .i64 fr, .int .i64 (sz : Int)]), (W9.heap.size, [.int .i64 p.gen, .int .i64 p.idx, .int .i64 p.mks, dv]), (W24.heap.size, [s1, s2, .int .i64 Qd, .bool Qc, .int .i64 fr, .int .i64 (sz : Int), .int .i64 p.gen, .int .i64 (kk74 : Int)])]) rfl US rfl rfl hls (k88.rd (L := []) (by simp)) (hr2.below b89) hLr hDr (by unfold maxLen; omega) (by omega) hB.size hL (fun c hc => by simp only [List.mem_cons, List.not_mem_nil, or_false] at hc; rcases hc with rfl | rfl | rfl; exact ⟨k3, (.tail _ (.tail _ (.head _)))⟩; exact ⟨k18, (.tail _ (.head _))⟩; exact ⟨hp80, (.head _)⟩)) rfl rfl ?_
      rintro u92 W93 ⟨hls2, b94, z95, hk96⟩
      replace k3 := hk96 _ (.head _)
      replace k18 := hk96 _ (.tail _ (.head _))
      replace hp80 := hk96 _ (.tail _ (.tail _ (.head _)))
      replace hB := hB.trans b94
      replace hL : LL (W24.heap.size :: W9.heap.size :: w.heap.size :: L) W93 := fun x hx => Nat.lt_of_lt_of_le (hL x hx) z95
      refine Pu rfl (Ni ?_)
      exact hK70 kk74 (rs ++ [(out73, dv75)]) u92 ⟨(by omega), (by omega), (by obtain ⟨f_, hf1_, hf2_⟩ := hv2; obtain ⟨g_, rfl⟩ : ∃ g, f_ = g + 1 := ⟨f_ - 1, by omega⟩; exact ⟨g_, by omega, hf2_.trans ((DI hr1).trans (by rw [List.map_append]; rfl))⟩), (by rw [List.length_append]; simp only [List.length_singleton]; omega), (fun r hr => by rcases List.mem_append.1 hr with h_ | h_; exact hrb r h_; rw [List.mem_singleton.1 h_]; exact ⟨hr3, by show out73.length <= 300000; omega⟩), hB, hL, hls2, k3, k18, hp80⟩ (by omega) (by repeat first | exact trivial | refine aR ?_ | refine aI (by omega) ?_)

theorem Ya.below {L : List Nat} {w w' : World} {rs : List U6} (h : Ya L w rs) (hb : Below w.heap.size w w') : Ya L w' rs := fun q hq => (h q hq).below hb
theorem Ya.more {L : List Nat} {w w' : World} {rs : List U6} (h : Ya L w rs) (hb : Below w.heap.size w w') {B : Nat} (hB : w.heap.size <= B) : Ya (B :: L) w' rs := fun q hq => (h q hq).more hb hB
theorem Ya.less {L L' : List Nat} {w : World} {rs : List U6} (h : Ya L w rs) (hl : ∀ x, x ∈ L' -> x ∈ L) : Ya L' w rs := fun q hq => (h q hq).less hl
theorem Ya.only {L : List Nat} {w w' : World} {rs : List U6} (h : Ya L w rs) {B : Nat} (ho : Yi B w w') (hB : B ∈ L) : Ya L w' rs := fun q hq => (h q hq).only ho hB
theorem Ya.chgL {L : List Nat} {w w' : World} {rs : List U6} (h : Ya L w rs) {B : Nat} (g : Vg B w w') (hB : B ∈ L) : Ya L w' rs := fun q hq => (h q hq).chgL g hB
theorem Ya.chgM {L : List Nat} {w w' : World} {rs : List U6} (h : Ya L w rs) {Cs : List Nat} (g : VA Cs w w') (hC : ∀ C ∈ Cs, C ∈ L) : Ya L w' rs := fun q hq => (h q hq).chgM g hC
def Qz (l : List (List Int)) : Nat := (l.map Z2).sum
def Zp (gen : Int) : Int -> List (List Int) -> List Pg
 | _, [] => []
 | u, r :: l => Xw gen u r ++ Zp gen (u + (Z2 r : Int)) l
theorem J7 (gen : Int) : ∀ (l : List (List Int)) (u : Int) (r : List Int), Zp gen u (l ++ [r]) = Zp gen u l ++ Xw gen (u + (Qz l : Int)) r
 | [], u, r => by simp [Zp, Qz]
 | a :: l, u, r => by
  rw [List.cons_append, Zp, Zp, J7 gen l, List.append_assoc]
  have e : u + (Z2 a : Int) + (Qz l : Int) = u + (Qz (a :: l) : Int) := by unfold Qz; rw [List.map_cons, List.sum_cons]; omega
  rw [e]
theorem ZJ (l : List (List Int)) (r : List Int) : Qz (l ++ [r]) = Qz l + Z2 r := by unfold Qz; simp
theorem KJ {l : List (List Int)} : ∀ (i : Nat), Qz (l.take i) <= Qz l := fun i => by
 have e := congrArg Qz (List.take_append_drop i l)
 have : Qz (l.take i ++ l.drop i) = Qz (l.take i) + Qz (l.drop i) := by unfold Qz; rw [List.map_append, List.sum_append]
 omega
theorem Za (gen fr : Int) (rec : List Int) : (Xw gen fr rec).length = Z2 rec := by unfold Xw; simp
theorem GW {gen fr : Int} {rec : List Int} {k : Nat} {p : Pg} (h : (Xw gen fr rec)[k]? = some p) : p.idx = fr + (k : Int) /\ k < Z2 rec /\ p.dat = Jy rec k := by
 have hk := (List.getElem?_eq_some_iff.1 h).1
 rw [Za] at hk
 unfold Xw at h
 rw [List.getElem?_map, List.getElem?_range hk, Option.map_some] at h
 have e := Option.some.inj h
 rw [<- e]
 exact ⟨rfl, hk, rfl⟩
def Q9 (d : DO) (fr : Int) (ps : List Pg) : DO := ps.foldl (fun d p => Yq d fr p) d
theorem Hx (d : DO) (fr : Int) (a b : List Pg) : Q9 d fr (a ++ b) = Q9 (Q9 d fr a) fr b := by unfold Q9; rw [List.foldl_append]
theorem U7 {d : DO} {fr : Int} {ps : List Pg} {k : Nat} {p : Pg} (h : ps[k]? = some p) : Q9 d fr (ps.take (k + 1)) = Yq (Q9 d fr (ps.take k)) fr p := by
 rw [List.take_add_one, h]
 unfold Q9
 rw [List.foldl_append]; rfl
abbrev EL (d : DO) : Prop := -9223372036854775808 <= d.Qd /\ d.Qd <= 9223372036854775807
theorem Qai {f : Int} {b : Bool} (h : -9223372036854775808 <= f /\ f <= 9223372036854775807) : -9223372036854775808 <= (Q8 f b).1 /\ (Q8 f b).1 <= 9223372036854775807 := by
  unfold Q8
  split
  . exact h
  . split
    . show _ <= f - 1 /\ f - 1 <= _; omega
    . exact h
theorem Qbv {Qb : List (List Int)} {Qa : List (Int × List Int)} {f : Int} {b : Bool} {a : Int} {z : List Int} (h : -9223372036854775808 <= f /\ f <= 9223372036854775807) : EL (Q0 Qb Qa f b a z) := by
  have hb := Qai (b := b) h
  unfold Q0 EL
  split
  . exact h
  . split
    . exact h
    . split
      . exact h
      . split
        . exact h
        . split
          . exact hb
          . exact hb
theorem Qdv {Qb : List (List Int)} {Qa : List (Int × List Int)} {f : Int} {b : Bool} (h : -9223372036854775808 <= f /\ f <= 9223372036854775807) : EL (Xz Qb Qa f b) := by
  have hb := Qai (b := b) h
  unfold Xz EL
  split
  . exact h
  . split
    . exact h
    . split
      . exact hb
      . exact hb
theorem Gr {d : DO} {fr : Int} {p : Pg} (h : EL d) : EL (Yq d fr p) := by
 unfold Yq
 split
 . exact Qbv h
 . exact h
theorem EO {d : DO} (h : EL d) : EL (X0 d) := by
 unfold X0
 split
 . exact Qdv h
 . exact h
theorem FP {fr : Int} : ∀ {ps : List Pg} {d : DO}, EL d -> EL (Q9 d fr ps)
 | [], d, h => h
 | p :: ps, d, h => FP (ps := ps) (Gr h)
def YC (d : DO) (fr gen : Int) (recs : List (List Int)) : DO := X0 (Yq (X0 (Q9 d fr (Zp gen 1 recs))) fr (ZL gen (Qz recs : Int)))
def XQ (Qb : List (List Int)) (Qa : List (Int × List Int)) (Qd : Int) (Qc : Bool) : DO := ⟨Qb, Qa, Qd, Qc, 0⟩
def QC (Qb : List (List Int)) (Qa : List (Int × List Int)) (Qd : Int) (Qc : Bool) (q : Int) (recs : List (List Int)) : DO × Int × Int × Int :=
 if ¬ (Xt Qb Qa Qc).2 = 0 then (⟨Qb, Qa, Qd, Qc, (Xt Qb Qa Qc).2⟩, 0, 0, 0)
 else if (Xx (XQ Qb Qa Qd Qc) (YC (XQ Qb Qa Qd Qc) (q * ((Qb.length : Int) / 2)) (Xt Qb Qa Qc).1 recs)).err = 0 then (Xx (XQ Qb Qa Qd Qc) (YC (XQ Qb Qa Qd Qc) (q * ((Qb.length : Int) / 2)) (Xt Qb Qa Qc).1 recs), q, (Xt Qb Qa Qc).1, 1 + (Qz recs : Int))
 else (Xx (XQ Qb Qa Qd Qc) (YC (XQ Qb Qa Qd Qc) (q * ((Qb.length : Int) / 2)) (Xt Qb Qa Qc).1 recs), 0, 0, 0)
theorem Gg (gen n : Int) : Z0 (ZL gen n).dat := fun x hx => by
 rcases List.mem_append.1 hx with h | h
 . simp only [List.mem_cons, List.not_mem_nil, or_false] at h; omega
 . exact KE _ _ x h
theorem G7 {x y : Value} {e : Int} (h : e = 0) : Value.tuple #[x, y, .int .i64 0] = .tuple #[x, y, .int .i64 e] := by rw [h]
theorem QeY {Qb : List (List Int)} {Qa : List (Int × List Int)} {Qd q : Int} {Qc : Bool} {recs : List (List Int)} (h : ¬ (Xt Qb Qa Qc).2 = 0) : QC Qb Qa Qd Qc q recs = (⟨Qb, Qa, Qd, Qc, (Xt Qb Qa Qc).2⟩, 0, 0, 0) := by unfold QC; rw [if_pos h]
theorem QeW {Qb : List (List Int)} {Qa : List (Int × List Int)} {Qd q : Int} {Qc : Bool} {recs : List (List Int)} {d : DO} (h : ¬ ¬ (Xt Qb Qa Qc).2 = 0) (hd : d = Q9 (XQ Qb Qa Qd Qc) (q * ((Qb.length : Int) / 2)) (Zp (Xt Qb Qa Qc).1 1 recs)) (he : (Xx (XQ Qb Qa Qd Qc) (X0 (Yq (X0 d) (q * ((Qb.length : Int) / 2)) (ZL (Xt Qb Qa Qc).1 ((Qz recs : Nat) : Int))))).err = 0) : QC Qb Qa Qd Qc q recs = (Xx (XQ Qb Qa Qd Qc) (X0 (Yq (X0 d) (q * ((Qb.length : Int) / 2)) (ZL (Xt Qb Qa Qc).1 ((Qz recs : Nat) : Int)))), q, (Xt Qb Qa Qc).1, 1 + (Qz recs : Int)) := by
 subst hd
 unfold QC
 rw [if_neg h]
 exact if_pos he
theorem QeX {Qb : List (List Int)} {Qa : List (Int × List Int)} {Qd q : Int} {Qc : Bool} {recs : List (List Int)} {d : DO} (h : ¬ ¬ (Xt Qb Qa Qc).2 = 0) (hd : d = Q9 (XQ Qb Qa Qd Qc) (q * ((Qb.length : Int) / 2)) (Zp (Xt Qb Qa Qc).1 1 recs)) (he : ¬ (Xx (XQ Qb Qa Qd Qc) (X0 (Yq (X0 d) (q * ((Qb.length : Int) / 2)) (ZL (Xt Qb Qa Qc).1 ((Qz recs : Nat) : Int))))).err = 0) : QC Qb Qa Qd Qc q recs = (Xx (XQ Qb Qa Qd Qc) (X0 (Yq (X0 d) (q * ((Qb.length : Int) / 2)) (ZL (Xt Qb Qa Qc).1 ((Qz recs : Nat) : Int)))), 0, 0, 0) := by
 subst hd
 unfold QC
 rw [if_neg h]
 exact if_neg he
set_option maxHeartbeats 1000000 in
theorem HO (Qb : List (List Int)) (Qa : List (Int × List Int)) (Qd : Int) (Qc : Bool) (s1 s2 : Value) (q : Int) (rs : List U6) (rv : Value) (w : World) (L : List Nat) (hL : LL L w) (h1 : QD 128 L w s1 (Qb.map Qr)) (h2 : QD 129 L w s2 (Qa.map QG)) (h3 : QD 1 L w rv (rs.map YV)) (hrs : Ya L w rs)  (hfu : -9223372036854775808 <= Qd /\ Qd <= 9223372036854775807) (hq : q = 0 \/ q = 1) (hsl : Qb.length <= 2048) (hbd : YL Qb Qa) (hrb : ∀ r ∈ rs, Z0 r.1 /\ r.1.length <= 1000000) (hcnt : Qz (rs.map Prod.fst) <= 90000) (hT : ZM w) : CV Tryd.prog 33 [.agg #[s1, s2, .int .i64 Qd, .bool Qc], .int .i64 q, rv] w fun v W => ∃ t1 t2, v = .tuple #[.agg #[t1, t2, .int .i64 (QC Qb Qa Qd Qc q (rs.map Prod.fst)).1.Qd, .bool (QC Qb Qa Qd Qc q (rs.map Prod.fst)).1.Qc], .agg #[.int .i64 (QC Qb Qa Qd Qc q (rs.map Prod.fst)).2.1, .int .i64 (QC Qb Qa Qd Qc q (rs.map Prod.fst)).2.2.1, .int .i64 (QC Qb Qa Qd Qc q (rs.map Prod.fst)).2.2.2], .int .i64 (QC Qb Qa Qd Qc q (rs.map Prod.fst)).1.err] /\ QD 128 L W t1 ((QC Qb Qa Qd Qc q (rs.map Prod.fst)).1.Qb.map Qr) /\ QD 129 L W t2 ((QC Qb Qa Qd Qc q (rs.map Prod.fst)).1.Qa.map QG) := by
 refine QN (N := 81) (f := [(0, .agg #[s1, s2, .int .i64 Qd, .bool Qc]), (1, .int .i64 q), (2, rv)]) Tryd.func33 rfl rfl rfl rfl fun Q hQ hE => ?_
 have hB := Below.refl w.heap.size w
 have h1m : Qb.length <= maxLen := by have := h1.len; rwa [List.length_map] at this
 unfold maxLen at h1m
 have h2m : Qa.length <= maxLen := by have := h2.len; rwa [List.length_map] at this
 unfold maxLen at h2m
 have h3m : rs.length <= maxLen := by have := h3.len; rwa [List.length_map] at this
 unfold maxLen at h3m
 refine Sq fun K1 hK1 => (Rg ?_)
 refine Ge (Xa rfl rfl rfl) rfl rfl ?_
 rintro _ W2 ⟨rfl, k3, b4, z5⟩
 have l6 := hB.size
 replace h1 := h1.more b4 (Nat.le_refl _)
 replace h2 := h2.more b4 (Nat.le_refl _)
 replace h3 := h3.more b4 (Nat.le_refl _)
 replace hrs := hrs.more b4 (Nat.le_refl _)
 replace hB := Qe hB b4
 replace hL := LL.more hL z5
 refine Ge (Qu rfl QV rfl) rfl rfl ?_
 rintro _ W7 ⟨rfl, k8, b9, z10⟩
 have l12 := hB.size
 replace h1 := h1.more b9 (Nat.le_refl _)
 replace h2 := h2.more b9 (Nat.le_refl _)
 replace h3 := h3.more b9 (Nat.le_refl _)
 replace hrs := hrs.more b9 (Nat.le_refl _)
 replace k3 := k3.below b9
 replace hB := Qe hB b9
 replace hL := LL.more hL z10
 refine Ge (Qu rfl Xv rfl) rfl rfl ?_
 rintro _ W13 ⟨rfl, k14, b15, z16⟩
 have n18 : W2.heap.size ≠ W7.heap.size := Nat.ne_of_lt k8.lt
 have l19 := hB.size
 replace h1 := h1.more b15 (Nat.le_refl _)
 replace h2 := h2.more b15 (Nat.le_refl _)
 replace h3 := h3.more b15 (Nat.le_refl _)
 replace hrs := hrs.more b15 (Nat.le_refl _)
 replace k3 := k3.below b15
 replace k8 := k8.below b15
 replace hB := Qe hB b15
 replace hL := LL.more hL z16
 refine Pu rfl (Ni (hK1 (Sq fun K20 hK20 => (Rg (Va (Qg rfl Qf rfl k3.range rfl) rfl rfl ?_)))))
 refine Ge (QQ rfl Tryd.func54 rfl rfl rfl (QeR Qb Qa Qd Qc _ _ W13 _ hL h1 h2 hbd (by omega) (hT.below hB))) rfl rfl ?_
 rintro _ W22 ⟨rfl, b21⟩
 replace h1 := h1.below b21
 replace h2 := h2.below b21
 replace h3 := h3.below b21
 replace hrs := hrs.below b21
 replace k3 := k3.below b21
 replace k8 := k8.below b21
 replace k14 := k14.below b21
 replace hB := Qe hB b21
 replace hL := LL.below hL b21
 refine Pu rfl (Pu rfl (Pu rfl (Pu rfl (Pu rfl (Ni (hK20 (Sq fun K23 hK23 => ?_)))))))
 refine Sq fun K24 hK24 => (Rg (Pu rfl (Va (Xl rfl rfl rfl) rfl rfl (Ni (hK24 ?_)))))
 refine WC.cond rfl (fun c25 => ?_) (fun c25 => ?_)
 .
  replace c25 := Q4 c25
  replace c25 := dF c25
  refine Sq fun K26 hK26 => (Rg (Va (Qg rfl Qf rfl k3.range rfl) rfl rfl (Va (QS rfl rfl (Xi (cs := [.int .i64 0, .int .i64 0, .int .i64 0]) (by kernel_rfl) Qk)) rfl rfl (Pu rfl ?_))))
  refine WL.do (Qh (cs' := [s1, s2, .int .i64 Qd, .bool Qc]) (vs := [s1, s2, .int .i64 Qd, .bool Qc]) rfl Qj rfl rfl rfl (oC h1.one (oC h2.one (oC rfl (oC rfl Qk)))) k8 rfl (nB rfl) rfl) rfl ?_
  rintro _ W27 ⟨k29, o28⟩
  replace k14 := k14.other o28 n18.symm
  clear k8
  replace h1 := h1.only o28 (.tail _ (.head _))
  replace h2 := h2.only o28 (.tail _ (.head _))
  replace hB := o28.below hB l12
  refine WL.do (Qh (cs' := [.int .i64 0, .int .i64 0, .int .i64 0]) (vs := [.int .i64 0, .int .i64 0, .int .i64 0]) rfl Qs rfl rfl rfl (oC rfl (oC rfl (oC rfl Qk))) k14 rfl (nB rfl) rfl) rfl ?_
  rintro _ W30 ⟨k32, o31⟩
  replace k29 := k29.other o31 n18
  clear k14
  replace h1 := h1.only o31 (.head _)
  replace h2 := h2.only o31 (.head _)
  replace hB := o31.below hB l19
  refine Pu rfl (Ni (hK26 ?_))
  exact WC.ret fun a_ ha_ => hQ (Xh rfl (.agg rfl Qf k29.range rfl) (.agg rfl Qq k32.range rfl) (.tmp rfl) (by rw [QeY (by first | assumption | simp_all)]; exact ⟨_, _, rfl, (h1.less (fun x hx => (.tail _ (.tail _ (.tail _ hx))))), (h2.less (fun x hx => (.tail _ (.tail _ (.tail _ hx)))))⟩) hB ha_)
 .
  replace c25 := Q2 c25
  replace c25 := dT c25
  refine WC.skip (hK23 (Sq fun K33 hK33 => ?_))
  have hmg := V0 Qb Qa Qc Qb.length
  have hfr : 0 <= (q * ((Qb.length : Int) / 2)) /\ (q * ((Qb.length : Int) / 2)) <= 100000 := by rcases hq with rfl | rfl <;> omega
  refine Rg (Va (Qg rfl Qf rfl k3.range rfl) rfl rfl (Pu rfl ?_))
  refine Ge (QQ rfl Tryd.func38 rfl rfl rfl (Kh Qb Qa Qd Qc _ _ q W22 _ hL h1 h2 hq (by omega))) rfl rfl ?_
  rintro _ W35 ⟨rfl, b34⟩
  replace h1 := h1.below b34
  replace h2 := h2.below b34
  replace h3 := h3.below b34
  replace hrs := hrs.below b34
  replace k3 := k3.below b34
  replace k8 := k8.below b34
  replace k14 := k14.below b34
  replace hB := Qe hB b34
  replace hL := LL.below hL b34
  refine Va (QS rfl rfl (Hm _ _ _ _ _ _)) rfl rfl ?_
  refine Ge (Xa rfl rfl rfl) rfl rfl ?_
  rintro _ W36 ⟨rfl, k37, b38, z39⟩
  have n40 : w.heap.size ≠ W35.heap.size := Nat.ne_of_lt k3.lt
  have n41 : W2.heap.size ≠ W35.heap.size := Nat.ne_of_lt k8.lt
  have n42 : W7.heap.size ≠ W35.heap.size := Nat.ne_of_lt k14.lt
  have l43 := hB.size
  replace h1 := h1.more b38 (Nat.le_refl _)
  replace h2 := h2.more b38 (Nat.le_refl _)
  replace h3 := h3.more b38 (Nat.le_refl _)
  replace hrs := hrs.more b38 (Nat.le_refl _)
  replace k3 := k3.below b38
  replace k8 := k8.below b38
  replace k14 := k14.below b38
  replace hB := Qe hB b38
  replace hL := LL.more hL z39
  refine Pu rfl (Ni (hK33 (Sq fun K44 hK44 => ?_)))
  have h1w := h1
  have h2w := h2
  replace k37 : Xc W36 W35.heap.size (wrC s1 s2 (XQ Qb Qa Qd Qc) (q * ((Qb.length : Int) / 2)) ((Qb.length : Int) / 2)) := k37
  refine Rg (Pu rfl (Ni (hK44 (Sq fun K45 hK45 => (Sq fun K46 hK46 => (Rg (Pu rfl ?_)))))))
  refine Va (QT rfl XO rfl h3) rfl rfl (Pu rfl (Ni (hK46 (WC.block ?_))))
  have hfu0 : EL (XQ Qb Qa Qd Qc) := hfu
  have j1 := h1w
  have j2 := h2w
  refine WC.loop4 (fun (i : Nat) (d : DO) (t1 : Value) (t2 : Value) => [(1, .int .i64 q), (2, rv), (3, .pointer (some ⟨w.heap.size, 0, none⟩)), (6, .pointer (some ⟨W2.heap.size, 0, none⟩)), (7, .pointer (some ⟨W7.heap.size, 0, none⟩)), (8, .int .i64 0), (9, .int .i64 ((Xt Qb Qa Qc).1)), (10, .int .i64 ((Xt Qb Qa Qc).2)), (11, .pointer (some ⟨W35.heap.size, 0, none⟩)), (33, rv), (34, .int .i64 (rs.length : Int)), (35, .int .i64 (i : Int)), (12, .int .i64 (1 + (Qz ((rs.take i).map Prod.fst) : Int)))]) (fun (i : Nat) (d : DO) (t1 : Value) (t2 : Value) W => i <= rs.length /\ d = Q9 (XQ Qb Qa Qd Qc) (q * ((Qb.length : Int) / 2)) (Zp (Xt Qb Qa Qc).1 1 ((rs.take i).map Prod.fst)) /\ EL d /\ Below w.heap.size w W /\ LL (W35.heap.size :: W7.heap.size :: W2.heap.size :: w.heap.size :: L) W /\ QD 128 (W35.heap.size :: W7.heap.size :: W2.heap.size :: w.heap.size :: L) W s1 (Qb.map Qr) /\ QD 129 (W35.heap.size :: W7.heap.size :: W2.heap.size :: w.heap.size :: L) W s2 (Qa.map QG) /\ QD 1 (W35.heap.size :: W7.heap.size :: W2.heap.size :: w.heap.size :: L) W rv (rs.map YV) /\ Ya (W35.heap.size :: W7.heap.size :: W2.heap.size :: w.heap.size :: L) W rs /\ QD 128 (W35.heap.size :: W7.heap.size :: W2.heap.size :: w.heap.size :: L) W t1 (d.Qb.map Qr) /\ QD 129 (W35.heap.size :: W7.heap.size :: W2.heap.size :: w.heap.size :: L) W t2 (d.Qa.map QG) /\ Xc W w.heap.size [s1, s2, .int .i64 Qd, .bool Qc] /\ Xc W W2.heap.size [.slice none 0 0, .slice none 0 0, .int .i64 0, .bool false] /\ Xc W W7.heap.size [.int .i64 0, .int .i64 0, .int .i64 0] /\ Xc W W35.heap.size [t1, t2, .int .i64 d.Qd, .bool d.Qc, .int .i64 (q * ((Qb.length : Int) / 2)), .int .i64 ((Qb.length : Int) / 2), .int .i64 d.err]) (fun (i : Nat) (d : DO) (t1 : Value) (t2 : Value) => rs.length - i) 0 (XQ Qb Qa Qd Qc) s1 s2 (by repeat first | exact trivial | refine aR ?_ | refine aI (by omega) ?_) ⟨Nat.zero_le _, rfl, hfu0, hB, hL, h1, h2, h3, hrs, j1, j2, k3, k8, k14, k37⟩ ?_
  clear h1 h2 h3 hrs j1 j2 k3 k8 k14 k37 hB hL
  rintro K47 i d t1 t2 W48 ⟨hi, hd, hfd, hB, hL, h1, h2, h3, hrs, j1, j2, k3, k8, k14, k37⟩ hK47
  refine Sq fun K49 hK49 => (Rg (Va (Xe rfl rfl rfl) rfl rfl (Ni (hK49 (Sq fun K50 hK50 => ?_)))))
  refine WC.cond rfl (fun c51 => ?_) (fun c51 => ?_)
  .
   replace c51 := dT c51
   refine WC.skip (hK50 (Sq fun K52 hK52 => (WC.block (Sq fun K53 hK53 => (Rg ?_)))))
   obtain ⟨r54, e55⟩ : ∃ x, rs[i]? = some x := ⟨_, List.getElem?_eq_getElem (by omega)⟩
   refine Ge (XH i rfl XO rfl rfl h3 (by omega) (XG (enc := YV) e55)) rfl rfl ?_
   rintro u56 _ ⟨rfl, p57⟩
   refine Va (Zn rfl XR rfl p57) rfl rfl (Pu rfl (Ni (hK53 (Sq fun K58 hK58 => (Rg (Pu rfl (Pu rfl ?_)))))))
   refine Pu rfl ?_
   have hrm := List.mem_of_getElem? e55
   have hcn : Qz ((rs.take i).map Prod.fst) + Z2 r54.1 <= Qz (rs.map Prod.fst) := by rw [<- ZJ, show (rs.take i).map Prod.fst ++ [r54.1] = (rs.map Prod.fst).take (i + 1) by rw [<- List.map_take, List.take_add_one, e55, List.map_append]; rfl]; exact KJ _
   have hrm := List.mem_of_getElem? e55
   have hcn : Qz ((rs.take i).map Prod.fst) + Z2 r54.1 <= Qz (rs.map Prod.fst) := by rw [<- ZJ, show (rs.take i).map Prod.fst ++ [r54.1] = (rs.map Prod.fst).take (i + 1) by rw [<- List.map_take, List.take_add_one, e55, List.map_append]; rfl]; exact KJ _
   refine Ge (QQ rfl Tryd.func41 rfl rfl rfl (DT (Xt Qb Qa Qc).1 (1 + (Qz ((rs.take i).map Prod.fst) : Int)) r54.1 r54.2 W48 _ hL hL (hrs r54 hrm) (by omega) (hrb r54 hrm).2)) rfl rfl ?_
   rintro pv60 W62 ⟨⟨qs, h6, hqf, hqs⟩, b61⟩
   replace h1 := h1.below b61
   replace h2 := h2.below b61
   replace h3 := h3.below b61
   replace hrs := hrs.below b61
   replace j1 := j1.below b61
   replace j2 := j2.below b61
   replace k3 := k3.below b61
   replace k8 := k8.below b61
   replace k14 := k14.below b61
   replace k37 := k37.below b61
   replace hB := Qe hB b61
   replace hL := LL.below hL b61
   refine Va (QT rfl X7 rfl h6) rfl rfl (Pu rfl (Ni (hK58 (WC.block ?_))))
   have hql : qs.length = Z2 r54.1 := by rw [<- Za, <- hqf, List.length_map]
   have y1 := j1
   have y2 := j2
   refine WC.loop4 (fun (j : Nat) (e : DO) (z1 : Value) (z2 : Value) => [(1, .int .i64 q), (2, rv), (3, .pointer (some ⟨w.heap.size, 0, none⟩)), (6, .pointer (some ⟨W2.heap.size, 0, none⟩)), (7, .pointer (some ⟨W7.heap.size, 0, none⟩)), (8, .int .i64 0), (9, .int .i64 ((Xt Qb Qa Qc).1)), (10, .int .i64 ((Xt Qb Qa Qc).2)), (11, .pointer (some ⟨W35.heap.size, 0, none⟩)), (33, rv), (34, .int .i64 (rs.length : Int)), (35, .int .i64 (i : Int)), (42, pv60), (43, .int .i64 (qs.length : Int)), (44, .int .i64 (j : Int)), (12, .int .i64 (1 + (Qz ((rs.take i).map Prod.fst) : Int) + (j : Int)))]) (fun (j : Nat) (e : DO) (z1 : Value) (z2 : Value) W => j <= qs.length /\ e = Q9 d (q * ((Qb.length : Int) / 2)) ((qs.map Prod.fst).take j) /\ EL e /\ Below w.heap.size w W /\ LL (W35.heap.size :: W7.heap.size :: W2.heap.size :: w.heap.size :: L) W /\ QD 128 (W35.heap.size :: W7.heap.size :: W2.heap.size :: w.heap.size :: L) W s1 (Qb.map Qr) /\ QD 129 (W35.heap.size :: W7.heap.size :: W2.heap.size :: w.heap.size :: L) W s2 (Qa.map QG) /\ QD 1 (W35.heap.size :: W7.heap.size :: W2.heap.size :: w.heap.size :: L) W rv (rs.map YV) /\ Ya (W35.heap.size :: W7.heap.size :: W2.heap.size :: w.heap.size :: L) W rs /\ QD 4 (W35.heap.size :: W7.heap.size :: W2.heap.size :: w.heap.size :: L) W pv60 (qs.map Yo) /\ YE (W35.heap.size :: W7.heap.size :: W2.heap.size :: w.heap.size :: L) W qs /\ QD 128 (W35.heap.size :: W7.heap.size :: W2.heap.size :: w.heap.size :: L) W z1 (e.Qb.map Qr) /\ QD 129 (W35.heap.size :: W7.heap.size :: W2.heap.size :: w.heap.size :: L) W z2 (e.Qa.map QG) /\ Xc W w.heap.size [s1, s2, .int .i64 Qd, .bool Qc] /\ Xc W W2.heap.size [.slice none 0 0, .slice none 0 0, .int .i64 0, .bool false] /\ Xc W W7.heap.size [.int .i64 0, .int .i64 0, .int .i64 0] /\ Xc W W35.heap.size [z1, z2, .int .i64 e.Qd, .bool e.Qc, .int .i64 (q * ((Qb.length : Int) / 2)), .int .i64 ((Qb.length : Int) / 2), .int .i64 e.err]) (fun (j : Nat) (e : DO) (z1 : Value) (z2 : Value) => qs.length - j) 0 d t1 t2 (by repeat first | exact trivial | refine aR ?_ | refine aI (by omega) ?_) ⟨Nat.zero_le _, rfl, hfd, hB, hL, h1, h2, h3, hrs, h6, hqs, y1, y2, k3, k8, k14, k37⟩ ?_
   clear h1 h2 h3 hrs h6 hqs y1 y2 k3 k8 k14 k37 hB hL
   rintro K63 j e z1 z2 W64 ⟨hj, he, hfe, hB, hL, h1, h2, h3, hrs, h6, hqs, y1, y2, k3, k8, k14, k37⟩ hK63
   refine Sq fun K65 hK65 => (Rg (Va (Xe rfl rfl rfl) rfl rfl (Ni (hK65 (Sq fun K66 hK66 => ?_)))))
   refine WC.cond rfl (fun c67 => ?_) (fun c67 => ?_)
   .
    replace c67 := dT c67
    refine WC.skip (hK66 (Sq fun K68 hK68 => (WC.block (Sq fun K69 hK69 => (Rg ?_)))))
    obtain ⟨r70, e71⟩ : ∃ x, qs[j]? = some x := ⟨_, List.getElem?_eq_getElem (by omega)⟩
    refine Ge (XH j rfl X7 rfl rfl h6 (by omega) (XG (enc := Yo) e71)) rfl rfl ?_
    rintro u72 _ ⟨rfl, p73⟩
    refine Va (Zc rfl Xq rfl p73 rfl) rfl rfl ?_
    refine Ge (Qu rfl ZQ rfl) rfl rfl ?_
    rintro _ W74 ⟨rfl, k75, b76, z77⟩
    have n78 : w.heap.size ≠ W64.heap.size := Nat.ne_of_lt k3.lt
    have n79 : W2.heap.size ≠ W64.heap.size := Nat.ne_of_lt k8.lt
    have n80 : W7.heap.size ≠ W64.heap.size := Nat.ne_of_lt k14.lt
    have n81 : W35.heap.size ≠ W64.heap.size := Nat.ne_of_lt k37.lt
    have l82 := hB.size
    replace h1 := h1.more b76 (Nat.le_refl _)
    replace h2 := h2.more b76 (Nat.le_refl _)
    replace h3 := h3.more b76 (Nat.le_refl _)
    replace hrs := hrs.more b76 (Nat.le_refl _)
    replace h6 := h6.more b76 (Nat.le_refl _)
    replace hqs := hqs.more b76 (Nat.le_refl _)
    replace y1 := y1.more b76 (Nat.le_refl _)
    replace y2 := y2.more b76 (Nat.le_refl _)
    replace k3 := k3.below b76
    replace k8 := k8.below b76
    replace k14 := k14.below b76
    replace k37 := k37.below b76
    replace hB := Qe hB b76
    replace hL := LL.more hL z77
    refine WL.do (Qh (cs' := [.int .i64 r70.1.gen, .int .i64 r70.1.idx, .int .i64 r70.1.mks, r70.2]) (vs := [.int .i64 r70.1.gen, .int .i64 r70.1.idx, .int .i64 r70.1.mks, r70.2]) rfl Xu rfl rfl rfl (oC rfl (oC rfl (oC rfl (oC (hqs r70 (List.mem_of_getElem? e71)).one Qk)))) k75 rfl (nB rfl) rfl) rfl ?_
    rintro _ W83 ⟨k85, o84⟩
    replace k3 := k3.other o84 n78
    replace k8 := k8.other o84 n79
    replace k14 := k14.other o84 n80
    replace k37 := k37.other o84 n81
    clear k75
    replace h1 := h1.only o84 (.head _)
    replace h2 := h2.only o84 (.head _)
    replace h3 := h3.only o84 (.head _)
    replace hrs := hrs.only o84 (.head _)
    replace h6 := h6.only o84 (.head _)
    replace hqs := hqs.only o84 (.head _)
    replace y1 := y1.only o84 (.head _)
    replace y2 := y2.only o84 (.head _)
    replace hB := o84.below hB l82
    replace hL := LL.only hL o84
    refine Ni (hK69 (Sq fun K86 hK86 => ?_))
    obtain ⟨hqi, hqk, hqd⟩ := GW (gen := (Xt Qb Qa Qc).1) (fr := (1 + (Qz ((rs.take i).map Prod.fst) : Int))) (rec := r54.1) (k := j) (p := r70.1) (by rw [<- hqf, List.getElem?_map, e71]; rfl)
    refine Rg (Pu rfl (Va (Qg rfl Xq rfl k85.range rfl) rfl rfl ?_))
    have y1o := y1
    have y2o := y2
    refine Ge (U0 rfl Tryd.func42 rfl rfl rfl (Qev e r70.1 (q * ((Qb.length : Int) / 2)) ((Qb.length : Int) / 2) z1 z2 r70.2 W35.heap.size W83 _ hL (.tail _ (.head _)) k37 y1o y2o (hqs r70 (List.mem_of_getElem? e71)) hfe hfr (by rw [hqi]; omega) (by rw [hqd]; exact KL (hrb r54 hrm).1 _) (by rw [hqd]; exact FF _ _) (fun {_} g => hT.below (g.toBelow hB l43)))) rfl rfl ?_
    rintro _ W92 ⟨⟨rfl, x87, x88, hp93, j89, j90⟩, g91⟩
    replace h1 := h1.chgL g91 (.tail _ (.head _))
    replace h2 := h2.chgL g91 (.tail _ (.head _))
    replace h3 := h3.chgL g91 (.tail _ (.head _))
    replace hrs := hrs.chgL g91 (.tail _ (.head _))
    replace h6 := h6.chgL g91 (.tail _ (.head _))
    replace hqs := hqs.chgL g91 (.tail _ (.head _))
    replace k3 := k3.chg g91 n40
    replace k8 := k8.chg g91 n41
    replace k14 := k14.chg g91 n42
    replace hB := g91.toBelow hB l43
    replace hL := hL.chg g91
    clear y1o y2o
    refine Ni (hK86 (Rg (Pu rfl (Va (QR (r := 1 + (Qz ((rs.take i).map Prod.fst) : Int) + ((j + 1 : Nat) : Int)) rfl rfl rfl (by rw [Qm (by omega)]; omega)) rfl rfl (Pu rfl (Ni (hK68 ?_)))))))
    refine Rg (Va (QR (r := (j : Int) + 1) rfl rfl rfl (Qm (by omega))) rfl rfl (Pu rfl (Ni ?_)))
    replace hL := hL.less (fun x hx => (.tail _ hx))
    replace h1 := h1.less (fun x hx => (.tail _ hx))
    replace h2 := h2.less (fun x hx => (.tail _ hx))
    replace h3 := h3.less (fun x hx => (.tail _ hx))
    replace hrs := hrs.less (fun x hx => (.tail _ hx))
    replace h6 := h6.less (fun x hx => (.tail _ hx))
    replace hqs := hqs.less (fun x hx => (.tail _ hx))
    replace j89 := j89.less (fun x hx => (.tail _ hx))
    replace j90 := j90.less (fun x hx => (.tail _ hx))
    exact hK63 (j + 1) (Yq e (q * ((Qb.length : Int) / 2)) r70.1) x87 x88 ⟨(by omega), (by rw [he]; exact (U7 (by rw [List.getElem?_map, e71]; rfl)).symm), (Gr hfe), hB, hL, h1, h2, h3, hrs, h6, hqs, j89, j90, k3, k8, k14, hp93⟩ (by omega) (by repeat first | exact trivial | refine aR ?_ | refine aI (by omega) ?_)
   .
    replace c67 := dF c67
    refine WC.exit ?_
    refine hK52 ?_
    have hjq : j = qs.length := by omega
    have hjend : e = Q9 d (q * ((Qb.length : Int) / 2)) (qs.map Prod.fst) := by rw [he, List.take_of_length_le (by rw [List.length_map]; omega)]
    have hcs : Qz ((rs.take (i + 1)).map Prod.fst) = Qz ((rs.take i).map Prod.fst) + Z2 r54.1 := by rw [<- ZJ, List.take_add_one, e55, List.map_append]; rfl
    refine Rg (Va (QR (r := (i : Int) + 1) rfl rfl rfl (Qm (by omega))) rfl rfl (Pu rfl (Ni ?_)))
    exact hK47 (i + 1) e z1 z2 ⟨(by omega), (by rw [List.take_add_one, e55, List.map_append, Option.toList_some, List.map_cons, List.map_nil, J7, Hx, <- hd, <- hqf, hjend]), hfe, hB, hL, h1, h2, h3, hrs, y1, y2, k3, k8, k14, k37⟩ (by omega) (by repeat first | exact trivial | refine aR ?_ | refine aI (by omega) ?_)
  .
   replace c51 := dF c51
   refine WC.exit ?_
   refine hK45 (Sq fun K94 hK94 => ?_)
   have hcie : Qz ((rs.take i).map Prod.fst) = Qz (rs.map Prod.fst) := by rw [List.take_of_length_le (by omega)]
   have hdL : d = Q9 (XQ Qb Qa Qd Qc) (q * ((Qb.length : Int) / 2)) (Zp (Xt Qb Qa Qc).1 1 (rs.map Prod.fst)) := by rw [hd, List.take_of_length_le (by omega)]
   rw [hcie]
   refine Rg (Pu rfl ?_)
   have j1o := j1
   have j2o := j2
   refine Ge (U0 rfl Tryd.func43 rfl rfl rfl (QeC d (q * ((Qb.length : Int) / 2)) ((Qb.length : Int) / 2) t1 t2 W35.heap.size W48 _ hL (.head _) k37 j1o j2o hfd)) rfl rfl ?_
   rintro _ W100 ⟨⟨rfl, x95, x96, hp101, j97, j98⟩, g99⟩
   replace h1 := h1.chgL g99 (.head _)
   replace h2 := h2.chgL g99 (.head _)
   replace k3 := k3.chg g99 n40
   replace k8 := k8.chg g99 n41
   replace k14 := k14.chg g99 n42
   replace hB := g99.toBelow hB l43
   replace hL := hL.chg g99
   clear j1o j2o
   refine Ni (hK94 (Sq fun K102 hK102 => (Rg (Pu rfl (Pu rfl (Pu rfl (Va (Zm (r := ((Qz (rs.map Prod.fst) : Nat) : Int)) rfl rfl rfl (by rw [Qm (by omega)]; omega)) rfl rfl ?_)))))))
   refine Ge (QQ rfl Tryd.func55 rfl rfl rfl (QcH ((Xt Qb Qa Qc).1) ((Qz (rs.map Prod.fst) : Nat) : Int) W100 _ hL hL)) rfl rfl ?_
   rintro _ W104 ⟨⟨hv_, rfl, hhd⟩, b103⟩
   replace h1 := h1.below b103
   replace h2 := h2.below b103
   replace j97 := j97.below b103
   replace j98 := j98.below b103
   replace k3 := k3.below b103
   replace k8 := k8.below b103
   replace k14 := k14.below b103
   replace hp101 := hp101.below b103
   replace hB := Qe hB b103
   replace hL := LL.below hL b103
   have j97o := j97
   have j98o := j98
   refine Ge (U0 rfl Tryd.func42 rfl rfl rfl (Qev (X0 d) (ZL (Xt Qb Qa Qc).1 ((Qz (rs.map Prod.fst) : Nat) : Int)) (q * ((Qb.length : Int) / 2)) ((Qb.length : Int) / 2) x95 x96 hv_ W35.heap.size W104 _ hL (.head _) hp101 j97o j98o hhd (EO hfd) hfr (by show (0 : Int) <= 0 /\ (0 : Int) <= 100000; decide) (Gg _ _) (by show 7 <= 100; decide) (fun {_} g => hT.below (g.toBelow hB l43)))) rfl rfl ?_
   rintro _ W110 ⟨⟨rfl, x105, x106, hp111, j107, j108⟩, g109⟩
   replace h1 := h1.chgL g109 (.head _)
   replace h2 := h2.chgL g109 (.head _)
   replace k3 := k3.chg g109 n40
   replace k8 := k8.chg g109 n41
   replace k14 := k14.chg g109 n42
   replace hB := g109.toBelow hB l43
   replace hL := hL.chg g109
   clear j97o j98o
   refine Ni (hK102 (Sq fun K112 hK112 => (Rg (Pu rfl ?_))))
   have j107o := j107
   have j108o := j108
   refine Ge (U0 rfl Tryd.func43 rfl rfl rfl (QeC (Yq (X0 d) (q * ((Qb.length : Int) / 2)) (ZL (Xt Qb Qa Qc).1 ((Qz (rs.map Prod.fst) : Nat) : Int))) (q * ((Qb.length : Int) / 2)) ((Qb.length : Int) / 2) x105 x106 W35.heap.size W110 _ hL (.head _) hp111 j107o j108o (Gr (EO hfd)))) rfl rfl ?_
   rintro _ W118 ⟨⟨rfl, x113, x114, hp119, j115, j116⟩, g117⟩
   replace h1 := h1.chgL g117 (.head _)
   replace h2 := h2.chgL g117 (.head _)
   replace k3 := k3.chg g117 n40
   replace k8 := k8.chg g117 n41
   replace k14 := k14.chg g117 n42
   replace hB := g117.toBelow hB l43
   replace hL := hL.chg g117
   clear j107o j108o
   refine Ni (hK112 (Sq fun K120 hK120 => (Rg (Pu rfl (Va (Qg rfl Qf rfl k3.range rfl) rfl rfl ?_)))))
   refine Ge (QQ rfl Tryd.func44 rfl rfl rfl (Qc3 (XQ Qb Qa Qd Qc) (X0 (Yq (X0 d) (q * ((Qb.length : Int) / 2)) (ZL (Xt Qb Qa Qc).1 ((Qz (rs.map Prod.fst) : Nat) : Int)))) (q * ((Qb.length : Int) / 2)) ((Qb.length : Int) / 2) W35.heap.size s1 s2 x113 x114 W118 _ hL j115 j116 h1 h2 hp119)) rfl rfl ?_
   rintro _ W122 ⟨⟨a1, a2, rfl, g1, g2⟩, b121⟩
   replace k8 := k8.below b121
   replace k14 := k14.below b121
   replace hB := Qe hB b121
   refine Pu rfl (Pu rfl (Pu rfl ?_))
   refine Ge (Qu rfl QV rfl) rfl rfl ?_
   rintro _ W123 ⟨rfl, k124, b125, z126⟩
   have n128 : W2.heap.size ≠ W122.heap.size := Nat.ne_of_lt k8.lt
   have n129 : W7.heap.size ≠ W122.heap.size := Nat.ne_of_lt k14.lt
   have l131 := hB.size
   replace g1 := g1.more b125 (Nat.le_refl _)
   replace g2 := g2.more b125 (Nat.le_refl _)
   replace k8 := k8.below b125
   replace k14 := k14.below b125
   replace hB := Qe hB b125
   refine WL.do (Qh (cs' := [a1, a2, .int .i64 ((Xx (XQ Qb Qa Qd Qc) (X0 (Yq (X0 d) (q * ((Qb.length : Int) / 2)) (ZL (Xt Qb Qa Qc).1 ((Qz (rs.map Prod.fst) : Nat) : Int))))).Qd), .bool ((Xx (XQ Qb Qa Qd Qc) (X0 (Yq (X0 d) (q * ((Qb.length : Int) / 2)) (ZL (Xt Qb Qa Qc).1 ((Qz (rs.map Prod.fst) : Nat) : Int))))).Qc)]) (vs := [a1, a2, .int .i64 ((Xx (XQ Qb Qa Qd Qc) (X0 (Yq (X0 d) (q * ((Qb.length : Int) / 2)) (ZL (Xt Qb Qa Qc).1 ((Qz (rs.map Prod.fst) : Nat) : Int))))).Qd), .bool ((Xx (XQ Qb Qa Qd Qc) (X0 (Yq (X0 d) (q * ((Qb.length : Int) / 2)) (ZL (Xt Qb Qa Qc).1 ((Qz (rs.map Prod.fst) : Nat) : Int))))).Qc)]) rfl Qj rfl rfl rfl (oC g1.one (oC g2.one (oC rfl (oC rfl Qk)))) k124 rfl (nB rfl) rfl) rfl ?_
   rintro _ W132 ⟨k134, o133⟩
   replace k8 := k8.other o133 n128
   replace k14 := k14.other o133 n129
   clear k124
   replace g1 := g1.only o133 (.head _)
   replace g2 := g2.only o133 (.head _)
   replace hB := o133.below hB l131
   refine Pu rfl (Ni (hK120 (Sq fun K135 hK135 => (Sq fun K136 hK136 => (Rg (Pu rfl (Va (Xl rfl rfl rfl) rfl rfl ?_)))))))
   refine Ni (hK136 ?_)
   refine WC.cond rfl (fun c137 => ?_) (fun c137 => ?_)
   .
    replace c137 := Q4 c137
    replace c137 := dF c137
    refine Sq fun K138 hK138 => (Rg (Va (Qg rfl Qf rfl k134.range rfl) rfl rfl (Va (QS rfl rfl (Xi (cs := [.int .i64 0, .int .i64 0, .int .i64 0]) (by kernel_rfl) Qk)) rfl rfl (Pu rfl ?_))))
    refine WL.do (Qh (cs' := [a1, a2, .int .i64 ((Xx (XQ Qb Qa Qd Qc) (X0 (Yq (X0 d) (q * ((Qb.length : Int) / 2)) (ZL (Xt Qb Qa Qc).1 ((Qz (rs.map Prod.fst) : Nat) : Int))))).Qd), .bool ((Xx (XQ Qb Qa Qd Qc) (X0 (Yq (X0 d) (q * ((Qb.length : Int) / 2)) (ZL (Xt Qb Qa Qc).1 ((Qz (rs.map Prod.fst) : Nat) : Int))))).Qc)]) (vs := [a1, a2, .int .i64 ((Xx (XQ Qb Qa Qd Qc) (X0 (Yq (X0 d) (q * ((Qb.length : Int) / 2)) (ZL (Xt Qb Qa Qc).1 ((Qz (rs.map Prod.fst) : Nat) : Int))))).Qd), .bool ((Xx (XQ Qb Qa Qd Qc) (X0 (Yq (X0 d) (q * ((Qb.length : Int) / 2)) (ZL (Xt Qb Qa Qc).1 ((Qz (rs.map Prod.fst) : Nat) : Int))))).Qc)]) rfl Qj rfl rfl rfl (oC g1.one (oC g2.one (oC rfl (oC rfl Qk)))) k8 rfl (nB rfl) rfl) rfl ?_
    rintro _ W139 ⟨k141, o140⟩
    replace k14 := k14.other o140 n18.symm
    clear k8
    replace g1 := g1.only o140 (.tail _ (.tail _ (.tail _ (.head _))))
    replace g2 := g2.only o140 (.tail _ (.tail _ (.tail _ (.head _))))
    replace hB := o140.below hB l12
    refine WL.do (Qh (cs' := [.int .i64 0, .int .i64 0, .int .i64 0]) (vs := [.int .i64 0, .int .i64 0, .int .i64 0]) rfl Qs rfl rfl rfl (oC rfl (oC rfl (oC rfl Qk))) k14 rfl (nB rfl) rfl) rfl ?_
    rintro _ W142 ⟨k144, o143⟩
    replace k141 := k141.other o143 n18
    clear k14
    replace g1 := g1.only o143 (.tail _ (.tail _ (.head _)))
    replace g2 := g2.only o143 (.tail _ (.tail _ (.head _)))
    replace hB := o143.below hB l19
    refine Pu rfl (Ni (hK138 ?_))
    exact WC.ret fun a_ ha_ => hQ (Xh rfl (.agg rfl Qf k141.range rfl) (.agg rfl Qq k144.range rfl) (.tmp rfl) (by rw [QeX (by first | assumption | simp_all) hdL (by first | assumption | simp_all)]; exact ⟨_, _, rfl, (g1.less (fun x hx => (.tail _ (.tail _ (.tail _ (.tail _ (.tail _ hx))))))), (g2.less (fun x hx => (.tail _ (.tail _ (.tail _ (.tail _ (.tail _ hx)))))))⟩) hB ha_)
   .
    replace c137 := Q2 c137
    replace c137 := dT c137
    refine WC.skip (hK135 (Sq fun K145 hK145 => (Rg (Va (Qg rfl Qf rfl k134.range rfl) rfl rfl (Pu rfl (Pu rfl (Pu rfl ?_)))))))
    refine Va (QS rfl rfl (Xi (cs := [.int .i64 q, .int .i64 ((Xt Qb Qa Qc).1), .int .i64 (1 + (Qz (rs.map Prod.fst) : Int))]) (by kernel_rfl) (oC rfl (oC rfl (oC rfl Qk))))) rfl rfl ?_
    refine WL.do (Qh (cs' := [a1, a2, .int .i64 ((Xx (XQ Qb Qa Qd Qc) (X0 (Yq (X0 d) (q * ((Qb.length : Int) / 2)) (ZL (Xt Qb Qa Qc).1 ((Qz (rs.map Prod.fst) : Nat) : Int))))).Qd), .bool ((Xx (XQ Qb Qa Qd Qc) (X0 (Yq (X0 d) (q * ((Qb.length : Int) / 2)) (ZL (Xt Qb Qa Qc).1 ((Qz (rs.map Prod.fst) : Nat) : Int))))).Qc)]) (vs := [a1, a2, .int .i64 ((Xx (XQ Qb Qa Qd Qc) (X0 (Yq (X0 d) (q * ((Qb.length : Int) / 2)) (ZL (Xt Qb Qa Qc).1 ((Qz (rs.map Prod.fst) : Nat) : Int))))).Qd), .bool ((Xx (XQ Qb Qa Qd Qc) (X0 (Yq (X0 d) (q * ((Qb.length : Int) / 2)) (ZL (Xt Qb Qa Qc).1 ((Qz (rs.map Prod.fst) : Nat) : Int))))).Qc)]) rfl Qj rfl rfl rfl (oC g1.one (oC g2.one (oC rfl (oC rfl Qk)))) k8 rfl (nB rfl) rfl) rfl ?_
    rintro _ W146 ⟨k148, o147⟩
    replace k14 := k14.other o147 n18.symm
    clear k8
    replace g1 := g1.only o147 (.tail _ (.tail _ (.tail _ (.head _))))
    replace g2 := g2.only o147 (.tail _ (.tail _ (.tail _ (.head _))))
    replace hB := o147.below hB l12
    refine WL.do (Qh (cs' := [.int .i64 q, .int .i64 ((Xt Qb Qa Qc).1), .int .i64 (1 + (Qz (rs.map Prod.fst) : Int))]) (vs := [.int .i64 q, .int .i64 ((Xt Qb Qa Qc).1), .int .i64 (1 + (Qz (rs.map Prod.fst) : Int))]) rfl Qs rfl rfl rfl (oC rfl (oC rfl (oC rfl Qk))) k14 rfl (nB rfl) rfl) rfl ?_
    rintro _ W149 ⟨k151, o150⟩
    replace k148 := k148.other o150 n18
    clear k14
    replace g1 := g1.only o150 (.tail _ (.tail _ (.head _)))
    replace g2 := g2.only o150 (.tail _ (.tail _ (.head _)))
    replace hB := o150.below hB l19
    refine Pu rfl (Ni (hK145 ?_))
    exact WC.ret fun a_ ha_ => hQ (Xh rfl (.agg rfl Qf k148.range rfl) (.agg rfl Qq k151.range rfl) (.tmp rfl) (by rw [QeW (by first | assumption | simp_all) hdL (by first | assumption | exact Classical.not_not.1 (by assumption) | simp_all)]; exact ⟨_, _, G7 (by first | assumption | exact Classical.not_not.1 (by assumption) | simp_all), (g1.less (fun x hx => (.tail _ (.tail _ (.tail _ (.tail _ (.tail _ hx))))))), (g2.less (fun x hx => (.tail _ (.tail _ (.tail _ (.tail _ (.tail _ hx)))))))⟩) hB ha_)

end Go.Proofs.YtfachlmgdlnpoaaDoor
namespace Go.Proofs.YtfachlmgdlnpoaaDoor
open Go.ChangeShapes Go.WideShapes Go.ChangeAt Go.RowKit
set_option linter.unusedVariables false
set_option maxRecDepth 8000
theorem own : ownKnob Tryd.prog.godebug = none := by kernel_rfl
theorem Fp : laidOutB Tryd.prog = true := by kernel_rfl
theorem Qdt {W : World} {l} (hL : laidMet Tryd.prog (("vouchsafe/sha.cubes", Rows.laid_vouchsafe_sha_cubes) :: ("vouchsafe/sha.squares", Rows.laid_vouchsafe_sha_squares) :: l) W) : ZM W := by
 have h1 : Go.Lib.TabIs Tryd.prog W "vouchsafe/sha.cubes" .u64 YD :=
  Go.Lib.tabIs_of_head (g := 3) (t := 154) (e := 149) (n := 80) (by kernel_rfl) (by kernel_rfl) Tryd.underlying154 Tryd.underlying149 (by kernel_rfl) (by kernel_rfl) hL
 have hL2 := laidMet.tail hL
 have h2 : Go.Lib.TabIs Tryd.prog W "vouchsafe/sha.squares" .u64 YN :=
  Go.Lib.tabIs_of_head (g := 0) (t := 150) (e := 149) (n := 8) (by kernel_rfl) (by kernel_rfl) Tryd.underlying150 Tryd.underlying149 (by kernel_rfl) (by kernel_rfl) hL2
 have g1 : Tryd.prog.globalNamed "vouchsafe/sha.cubes" = some 3 := by kernel_rfl
 have g2 : Tryd.prog.globalNamed "vouchsafe/sha.squares" = some 0 := by kernel_rfl
 refine ⟨fun k hk => ?_, fun k hk => ?_⟩
 . rw [h2.cell g2 k hk]; simp [QX, List.getD_eq_getElem?_getD]
 . rw [h1.cell g1 k hk]; simp [QX, List.getD_eq_getElem?_getD]
theorem Qfh {zs : List Int} (h : ∀ n ∈ zs, (Lit.int .u8 n).wf = true) : Z0 zs := fun x hx => by
 have := h x hx
 simpa [Lit.wf, IntKind.min, IntKind.max, IntKind.signed, IntKind.bits] using this
theorem Fs {n : Int} (h : (Lit.int .i64 n).wf = true) : -9223372036854775808 <= n /\ n <= 9223372036854775807 := by
 simpa [Lit.wf, IntKind.min, IntKind.max, IntKind.signed, IntKind.bits] using h
theorem Qey {n : Int} (h : (Lit.int .u8 n).wf = true) : 0 <= n /\ n <= 255 := by
 simpa [Lit.wf, IntKind.min, IntKind.max, IntKind.signed, IntKind.bits] using h
theorem cS : Tryd.prog.cellsOf 75 = 128 := by kernel_rfl
theorem cW : Tryd.prog.cellsOf 77 = 129 := by kernel_rfl
theorem cD : Tryd.prog.cellsOf 25 = 4 := by kernel_rfl
theorem cG : Tryd.prog.cellsOf 30 = 3 := by kernel_rfl
theorem cU : Tryd.prog.cellsOf 5 = 1 := by kernel_rfl
theorem cI : Tryd.prog.cellsOf 3 = 1 := by kernel_rfl
theorem Qbc {p : Int × List Int} (h : p.2.length = 128) : (QG p).length = 129 := by simp [QG, Qr, h]
section
variable {H : Type} {enc : TypeId × Value -> H} {W : World} {base : Nat} {sp : Nat -> Bool} {held : Bool}
theorem Qfw (n : Nat) (cs : List Value) (x : DataW H × List MemPlace) (h : DataW.trod enc Tryd.prog W base sp held n 75 cs = some x) : ∃ z : List Int, cs = Qr z /\ (z.length = 128 /\ Z0 z) := by
 obtain ⟨zs, h1, h2, h3⟩ := QbD Tryd.underlying75 Tryd.underlying5 cU cS h
 exact ⟨zs, h1, h2, Qfh h3⟩
theorem QfK (n : Nat) (cs : List Value) (x : DataW H × List MemPlace) (h : DataW.trod enc Tryd.prog W base sp held n 77 cs = some x) : ∃ p : Int × List Int, cs = QG p /\ (p.2.length = 128 /\ Z0 p.2) := by
 obtain ⟨y0, y1, m, _, hl, h0, h1⟩ := trod_struct2 Tryd.underlying77 h
 obtain ⟨a, ha, _⟩ := DataW.trod_int Tryd.underlying3 h0
 obtain ⟨z, hz, hz2⟩ := Qfw m _ _ h1
 rw [cW] at hl
 simp only [cI, cS] at ha hz
 refine ⟨(a, z), ?_, hz2⟩
 unfold QG
 rw [<- hz]
 match cs, hl with
 | c :: cs, hl =>
  simp at ha
  simp only [List.length_cons] at hl
  simp only [List.drop_succ_cons, List.drop_zero]
  rw [List.take_of_length_le (by omega), ha]
theorem Qa1 {r : Reach} {b0 : Nat} {v : Value} {d : DataW H} {p : List MemPlace} (hv : Value.okWide Tryd.prog W r b0 25 v) (h : DataW.Trod enc Tryd.prog W base sp held 25 v d p) :
  ∃ (Qb : List (List Int)) (Qa : List (Int × List Int)) (Qd : Int) (Qc : Bool) (s1 s2 : Value), v = .agg #[s1, s2, .int .i64 Qd, .bool Qc] /\ QD 128 [] W s1 (Qb.map Qr) /\ QD 129 [] W s2 (Qa.map QG) /\ (-9223372036854775808 <= Qd /\ Qd <= 9223372036854775807) /\ YL Qb Qa := by
 obtain ⟨cs, rfl, hsz⟩ := okWide_struct Tryd.underlying25 hv
 obtain ⟨c0, c1, c2, c3, rfl⟩ := Joins.array4 (hsz.trans cD)
 obtain ⟨fuel, hf⟩ := h
 obtain ⟨y0, y1, y2, y3, n, hx, _, h0, h1, h2, h3⟩ := Joins.trod_struct4 Tryd.underlying25 hf
 have k0 : Tryd.prog.cellsOf 22 = 1 := by kernel_rfl
 have k1 : Tryd.prog.cellsOf 23 = 1 := by kernel_rfl
 have k3 : Tryd.prog.cellsOf 4 = 1 := by kernel_rfl
 simp only [k0, k1, cI, k3, Value.cells] at h0 h1 h2 h3
 obtain ⟨s1, Qb, e0, r0, g0⟩ := VX Qr (fun z => z.length = 128 /\ Z0 z) (by decide) Tryd.underlying22 cS (fun a ha => by rw [Qo]; exact ha.1) Qfw h0
 obtain ⟨s2, Qa, e1, r1, g1⟩ := VX QG (fun q => q.2.length = 128 /\ Z0 q.2) (by decide) Tryd.underlying23 cW (fun a ha => Qbc ha.1) QfK h1
 obtain ⟨Qd, e2, _, wf⟩ := DataW.trod_int Tryd.underlying3 h2
 obtain ⟨Qc, e3, _⟩ := DataW.trod_bool Tryd.underlying4 h3
 simp at e0 e1 e2 e3
 subst e0 e1 e2 e3
 exact ⟨Qb, Qa, Qd, Qc, _, _, rfl, r0, r1, Fs wf, fun z hz => (g0 z hz).2, fun q hq => (g1 q hq).2⟩
theorem Qcq {r : Reach} {b0 : Nat} {v : Value} {d : DataW H} {p : List MemPlace} (hv : Value.okWide Tryd.prog W r b0 30 v) (h : DataW.Trod enc Tryd.prog W base sp held 30 v d p) :
  ∃ a b c : Int, v = .agg #[.int .i64 a, .int .i64 b, .int .i64 c] /\ (-9223372036854775808 <= a /\ a <= 9223372036854775807) /\ (-9223372036854775808 <= b /\ b <= 9223372036854775807) /\ (-9223372036854775808 <= c /\ c <= 9223372036854775807) := by
 obtain ⟨cs, rfl, hsz⟩ := okWide_struct Tryd.underlying30 hv
 obtain ⟨fuel, hf⟩ := h
 obtain ⟨y0, y1, y2, n, hx, hl, h0, h1, h2⟩ := Go.Deep.trod_struct3 Tryd.underlying30 hf
 obtain ⟨a, e0, _, w0⟩ := DataW.trod_int Tryd.underlying3 h0
 obtain ⟨b, e1, _, w1⟩ := DataW.trod_int Tryd.underlying3 h1
 obtain ⟨c, e2, _, w2⟩ := DataW.trod_int Tryd.underlying3 h2
 rw [cG] at hl
 simp only [cI, Value.cells] at e0 e1 e2 hl
 obtain ⟨l⟩ := cs
 match l, hl with
 | [x, y, z], _ =>
  simp at e0 e1 e2
  subst e0 e1 e2
  exact ⟨a, b, c, rfl, Fs w0, Fs w1, Fs w2⟩
theorem Qfv (n : Nat) (cs : List Value) (x : DataW H × List MemPlace) (h : DataW.trod enc Tryd.prog W base sp held n 5 cs = some x) : ∃ z : Int, cs = [Value.int .u8 z] /\ (0 <= z /\ z <= 255) := by
 obtain ⟨b, hb, _, wa⟩ := DataW.trod_int Tryd.underlying5 h
 exact ⟨b, hb, Qey wa⟩
theorem QfL (n : Nat) (cs : List Value) (x : DataW H × List MemPlace) (h : DataW.trod enc Tryd.prog W base sp held n 40 cs = some x) : ∃ p : U6, cs = YV p /\ (QD 1 [] W p.2 (Vw p.1) /\ Z0 p.1) := by
 obtain ⟨v, zs, e, r, g⟩ := VX (s := 1) (fun z : Int => [Value.int .u8 z]) (fun z => 0 <= z /\ z <= 255) (by decide) Tryd.underlying40 (by kernel_rfl) (fun a _ => rfl) Qfv h
 exact ⟨(zs, v), e, r, g⟩
theorem Qa0 {r : Reach} {b0 : Nat} {v : Value} {d : DataW H} {p : List MemPlace} (hv : Value.okWide Tryd.prog W r b0 31 v) (h : DataW.Trod enc Tryd.prog W base sp held 31 v d p) : ∃ rs : List U6, QD 1 [] W v (rs.map YV) /\ Ya [] W rs /\ ∀ r ∈ rs, Z0 r.1 := by
 obtain ⟨a, len, cap, rfl⟩ := okWide_slice Tryd.underlying31 hv
 obtain ⟨fuel, hf⟩ := h
 obtain ⟨v, fs, e, r, g⟩ := VX (s := 1) YV (fun p => QD 1 [] W p.2 (Vw p.1) /\ Z0 p.1) (by decide) Tryd.underlying31 (by kernel_rfl) (fun a _ => rfl) QfL hf
 simp [Value.cells] at e
 subst e
 exact ⟨fs, r, fun q hq => (g q hq).1, fun q hq => (g q hq).2⟩
end
end Go.Proofs.YtfachlmgdlnpoaaDoor
namespace Go.Proofs.YtfachlmgdlnpoaaDoor
open Go.RowKit
set_option linter.unusedVariables false
set_option linter.unusedSimpArgs false
set_option maxRecDepth 8000
set_option maxHeartbeats 2000000

theorem J5 (n : Nat) : (2 : Int) ^ n = ((2 ^ n : Nat) : Int) := by simp
theorem Qav (x n : Int) (hx : Zo x) (h0 : 0 < n) (h1 : n < 32) : bits BinOp.or .u64 (x / 2 ^ n.toNat) (x * 2 ^ (32 - n).toNat % 18446744073709551616) % 4294967296 = X8 x (32 - n) := by
 unfold X8
 rw [show (32 - (32 - n)).toNat = n.toNat by omega]
 obtain ⟨a, rfl⟩ := Int.eq_ofNat_of_zero_le hx.1
 have h2 := hx.2
 generalize n.toNat = i at *
 generalize (32 - n).toNat = j at *
 have ha : a < 4294967296 := by omega
 have hd : a / 2 ^ i <= a := Nat.div_le_self _ _
 have e1 : (a : Int) / 2 ^ i = ((a / 2 ^ i : Nat) : Int) := by rw [J5]; exact (Int.natCast_ediv a (2 ^ i)).symm
 have e2 : (a : Int) * 2 ^ j % 18446744073709551616 = ((a * 2 ^ j % 18446744073709551616 : Nat) : Int) := by rw [J5]; omega
 have e3 : (a : Int) * 2 ^ j % 4294967296 = ((a * 2 ^ j % 4294967296 : Nat) : Int) := by rw [J5]; omega
 rw [e1, e2, e3, u64_or_nat _ _ (by omega) (by omega), u32_or_nat _ _ (by omega) (by omega)]
 have e4 : (a / 2 ^ i ||| a * 2 ^ j % 18446744073709551616) % 4294967296 = a * 2 ^ j % 4294967296 ||| a / 2 ^ i := by
  rw [show (4294967296 : Nat) = 2 ^ 32 from rfl, Nat.or_mod_two_pow, Nat.or_comm, Nat.mod_eq_of_lt (a := a / 2 ^ i) (by omega)]
  congr 1
  omega
 rw [<- e4]
 omega
theorem JD {a b : Int} (ha : Zo a) (hb : Zo b) : bits BinOp.xor .u64 a b = bits BinOp.xor .u32 a b := by
 obtain ⟨a, rfl⟩ := Int.eq_ofNat_of_zero_le ha.1
 obtain ⟨b, rfl⟩ := Int.eq_ofNat_of_zero_le hb.1
 have h1 := ha.2
 have h2 := hb.2
 rw [u64_xor_nat a b (by omega) (by omega), u32_xor_nat a b (by omega) (by omega)]
theorem FK {a b : Int} (ha : Zo a) (hb : Zo b) : bits BinOp.and .u64 a b = bits BinOp.and .u32 a b := by
 obtain ⟨a, rfl⟩ := Int.eq_ofNat_of_zero_le ha.1
 obtain ⟨b, rfl⟩ := Int.eq_ofNat_of_zero_le hb.1
 have h1 := ha.2
 have h2 := hb.2
 rw [u64_and_nat a b (by omega) (by omega), u32_and_nat a b (by omega) (by omega)]
theorem Qcr (e g : Nat) (hg : g < 4294967296) : (18446744073709551615 ^^^ e) &&& g = (4294967295 ^^^ e) &&& g := by
  apply Nat.eq_of_testBit_eq
  intro i
  simp only [Nat.testBit_and, Nat.testBit_xor]
  by_cases hi : i < 32
  . have h1 : Nat.testBit 18446744073709551615 i = true := by
      rw [show 18446744073709551615 = 2 ^ 64 - 1 from rfl, Nat.testBit_two_pow_sub_one]; simp; omega
    have h2 : Nat.testBit 4294967295 i = true := by
      rw [show 4294967295 = 2 ^ 32 - 1 from rfl, Nat.testBit_two_pow_sub_one]; simp; omega
    rw [h1, h2]
  . have h3 : Nat.testBit g i = false := Nat.testBit_lt_two_pow (Nat.lt_of_lt_of_le hg (by rw [show (4294967296 : Nat) = 2 ^ 32 from rfl]; exact Nat.pow_le_pow_right (by decide) (by omega)))
    rw [h3]; simp
theorem Qa2 {e g : Int} (he : Zo e) (hg : Zo g) : bits BinOp.and .u64 (Vs e) g = bits BinOp.and .u32 (Eo e) g := by
 obtain ⟨a, rfl⟩ := Int.eq_ofNat_of_zero_le he.1
 obtain ⟨b, rfl⟩ := Int.eq_ofNat_of_zero_le hg.1
 have h1 := he.2
 have h2 := hg.2
 have e1 : Vs (a : Int) = ((18446744073709551615 ^^^ a : Nat) : Int) := u64_xor_nat 18446744073709551615 a (by omega) (by omega)
 have e2 : Eo (a : Int) = ((4294967295 ^^^ a : Nat) : Int) := u32_xor_nat 4294967295 a (by omega) (by omega)
 have b1 : 18446744073709551615 ^^^ a < 2 ^ 64 := Nat.xor_lt_two_pow (by omega) (by omega)
 have b2 : 4294967295 ^^^ a < 2 ^ 32 := Nat.xor_lt_two_pow (by omega) (by omega)
 rw [e1, e2, u64_and_nat _ b (by omega) (by omega), u32_and_nat _ b (by omega) (by omega), Qcr a b (by omega)]
def YP (n : Nat) : List Int := (List.range 8).map fun j => (n : Int) * 8 / 2 ^ (8 * (7 - j)) % 256
theorem Uj (n : Nat) : (YP n).length = 8 := rfl
theorem Es (n j : Nat) (h : j < 8) : QX (YP n) j = (n : Int) * 8 / 2 ^ (8 * (7 - j)) % 256 := by simp [YP, QX, h]
def KS (k n : Nat) : List Int := 128 :: (List.replicate (k - 9) 0 ++ YP n)
theorem Hz (k n : Nat) (h : 9 <= k) : (KS k n).length = k := by simp [KS, Uj]; omega
theorem FZ (k n : Nat) : ZK (KS k n) := by
  intro x hx
  rcases List.mem_cons.1 hx with rfl | hx
  . decide
  . rcases List.mem_append.1 hx with hx | hx
    . obtain ⟨-, rfl⟩ := List.mem_replicate.1 hx; decide
    . obtain ⟨j, -, rfl⟩ := List.mem_map.1 hx; omega
theorem Kp (a b : List Int) (j : Nat) : QX (a ++ b) j = if j < a.length then QX a j else QX b (j - a.length) := by
 unfold QX
 by_cases h : j < a.length
 . rw [if_pos h, List.getElem?_append_left h]
 . rw [if_neg h, List.getElem?_append_right (by omega)]
theorem EH (n j : Nat) : QX (List.replicate n 0) j = 0 := by
 unfold QX
 rw [List.getElem?_replicate]
 split <;> rfl
theorem QbF (k n j : Nat) (h : 9 <= k) : QX (KS k n) j = if j = 0 then 128 else if k <= j then 0 else if k <= j + 8 then (n : Int) * 8 / 2 ^ (8 * (k - 1 - j)) % 256 else 0 := by
  unfold KS
  cases j with
  | zero => rfl
  | succ j =>
    rw [Hs, Kp, List.length_replicate, if_neg (by omega : ¬ j + 1 = 0)]
    by_cases h1 : j < k - 9
    . rw [if_pos h1, EH, if_neg (by omega), if_neg (by omega)]
    . rw [if_neg h1]
      by_cases h2 : k <= j + 1
      . rw [if_pos h2]
        have : ¬ j - (k - 9) < (YP n).length := by rw [Uj]; omega
        unfold QX
        rw [List.getElem?_eq_none (by omega)]; rfl
      . rw [if_neg h2, if_pos (by omega), Es n _ (by omega), show 7 - (j - (k - 9)) = k - 1 - (j + 1) by omega]
theorem DU (p : List Int) (tot : Int) (j : Nat) (hj : j < p.length) : ∀ k, k <= p.length -> QX (JH p tot k) j = if p.length <= j + k then tot * 8 / 2 ^ (8 * (p.length - 1 - j)) % 256 else QX p j
  | 0, _ => by rw [if_neg (by omega)]; rfl
  | k + 1, h => by
    show QX ((JH p tot k).set (p.length - 1 - k) _) j = _
    rw [UF _ _ _ _ (by rw [UV]; omega), DU p tot j hj k (by omega)]
    by_cases e : j = p.length - 1 - k
    . rw [if_pos e, if_pos (by omega), show p.length - 1 - j = k by omega]
    . rw [if_neg e]
      by_cases h2 : p.length <= j + k
      . rw [if_pos h2, if_pos (by omega)]
      . rw [if_neg h2, if_neg (by omega)]
theorem QaY (hl : List Int) (n : Nat) (hn : n < 64) (hh : hl.length = n) (j : Nat) : QX (VJ hl n) j = if j = n then 128 else if j < n then QX hl j else 0 := by
  have hp := Uh n hn
  unfold VJ
  rw [UF _ _ _ _ (by simp [hh]; omega)]
  by_cases e : j = n
  . rw [if_pos e, if_pos e]
  . rw [if_neg e, if_neg e, Kp, List.take_of_length_le (by omega), hh]
    by_cases h : j < n
    . rw [if_pos h, if_pos h]
    . rw [if_neg h, if_neg h, EH]
theorem J6 (n : Nat) : Xd n = n / 64 * 64 + Xd (n % 64) := by unfold Xd; omega
theorem E5 (D : List Int) : JH (VJ (ZH D) (D.length % 64)) (D.length : Int) 8 = ZH D ++ KS (Xd D.length - D.length) D.length := by
  have hm : D.length % 64 < 64 := Nat.mod_lt _ (by decide)
  have hh := JK D
  have hp := Uh (D.length % 64) hm
  have hs := J6 D.length
  have hl := GY (ZH D) (D.length % 64) hm hh
  have hk : Xd D.length - D.length = Xd (D.length % 64) - D.length % 64 := by omega
  have hb := QaY (ZH D) (D.length % 64) hm hh
  rw [hk]
  clear hs hk
  generalize Xd (D.length % 64) = N at *
  generalize D.length % 64 = n at *
  refine Z9 ?_ fun j hj => ?_
  . rw [UV, List.length_append, Hz _ _ (by omega), hh, hl]; omega
  . rw [UV, hl] at hj
    rw [DU _ _ _ (by rw [hl]; exact hj) 8 (by rw [hl]; omega), hl, hb j, Kp, hh, QbF _ _ _ (by omega)]
    by_cases h1 : j < n
    . rw [if_neg (by omega : ¬ N <= j + 8), if_neg (by omega : ¬ j = n), if_pos h1, if_pos h1]
    . rw [if_neg h1, if_neg h1]
      by_cases h2 : j = n
      . rw [if_neg (by omega : ¬ N <= j + 8), if_pos h2, if_pos (by omega : j - n = 0)]
      . rw [if_neg h2, if_neg (by omega : ¬ j - n = 0), if_neg (by omega : ¬ N - n <= j - n)]
        by_cases h3 : N <= j + 8
        . rw [if_pos h3, if_pos (by omega), show N - n - 1 - (j - n) = N - 1 - j by omega]
        . rw [if_neg h3, if_neg (by omega)]
theorem U4 (st Z : List Int) (q : Nat) : ∀ j, Xr st Z (q + j) = Xr (Xr st Z q) (Z.drop (q * 64)) j
 | 0 => rfl
 | j + 1 => by
  show XS (Xr st Z (q + j)) ((Z.drop ((q + j) * 64)).take 64) = XS (Xr (Xr st Z q) (Z.drop (q * 64)) j) (((Z.drop (q * 64)).drop (j * 64)).take 64)
  rw [U4 st Z q j, List.drop_drop, show (q + j) * 64 = q * 64 + j * 64 by omega]
def Zb (D : List Int) : List Int := D ++ KS (Xd D.length - D.length) D.length
theorem De (D : List Int) : (Zb D).length = Xd D.length := by
 have : D.length + 8 < Xd D.length := by unfold Xd; omega
 rw [Zb, List.length_append, Hz _ _ (by omega)]
 omega
theorem GB (D : List Int) : XK D = XX (Xr XM (Zb D) (Xd D.length / 64)) := by
 have hs := J6 D.length
 have hp := Uh (D.length % 64) (Nat.mod_lt _ (by decide))
 have e : Xd D.length / 64 = D.length / 64 + Xd (D.length % 64) / 64 := by omega
 unfold XK
 rw [E5, e, U4]
 unfold Zb
 rw [Vz _ _ _ _ (Nat.div_mul_le_self _ _), List.drop_append_of_le_length (Nat.div_mul_le_self _ _)]
 rfl
theorem Yc (x : Int) (w : World) (hx : Jq x) : Calls Tryd.prog 100 #[.int .u64 x, .int .i64 32] w fun e w' => e = .returned (.int .u64 (x % 4294967296)) /\ w' = w := by
 obtain ⟨h0, h1⟩ := hx
 go_enter Tryd.func100, Tryd.ntmps100
 go_wp2
 go_ret
 exact ⟨rfl, rfl⟩
theorem D5 {x : Int} (h : Zo x) : Jq x := by unfold Zo at h; unfold Jq; omega
def KB (x a b c : Int) (sh : Bool) : Int := bits BinOp.xor .u32 (bits BinOp.xor .u32 (X8 x (32 - a)) (X8 x (32 - b))) (if sh then x / 2 ^ c.toNat else X8 x (32 - c))
theorem Ud (x s : Int) : Zo (X8 x s) := ZZ _ _ _
theorem F1 {x : Int} (n : Nat) (h : Zo x) : Zo (x / 2 ^ n) := ⟨Int.ediv_nonneg h.1 (by rw [J5]; exact Int.natCast_nonneg _), Int.lt_of_le_of_lt (Int.ediv_le_self _ h.1) h.2⟩
theorem Yj (x n : Int) (w : World) (hx : Zo x) (h0 : 0 < n) (h1 : n < 32) : Calls Tryd.prog 104 #[.int .u64 x, .int .i64 n, .int .i64 32] w fun e w' => e = .returned (.int .u64 (X8 x (32 - n))) /\ w' = w := by
 have hq := Qav x n hx h0 h1
 rw [<- KO] at hq
 have hc := fun W => Yc (bits BinOp.or .u64 (x / 2 ^ n.toNat) (IntKind.u64.wrap (x * 2 ^ (32 - n).toNat))) W (Qbj _ _ _)
 simp only [hq] at hc
 replace hc := Lib.hid hc
 clear hq
 obtain ⟨x0, x1⟩ := hx
 go_enter Tryd.func104, Tryd.ntmps104
 go_wp2_with (first
  | (go_at_call 100; (with_reducible refine (hc.out _).mono ?_); rintro e w1 ⟨rfl, rfl⟩))
 go_ret
 exact ⟨rfl, rfl⟩
set_option maxHeartbeats 1000000 in
theorem Ue (x a b c : Int) (w : World) (hx : Zo x) (ha : 0 < a /\ a < 32) (hb : 0 < b /\ b < 32) (hc : 0 < c /\ c < 32) : Calls Tryd.prog 101 #[.int .u64 x, Z6 .i64 [a, b, c], .bool false, .int .i64 32] w fun e w' => e = .returned (.int .u64 (KB x a b c false)) /\ Below w.heap.size w w' := by
 have hA := fun W => Yj x a W hx ha.1 ha.2
 have hB := fun W => Yj x b W hx hb.1 hb.2
 have hC := fun W => Yj x c W hx hc.1 hc.2
 have mx : KB x a b c false = bits BinOp.xor .u32 (bits BinOp.xor .u32 (X8 x (32 - a)) (X8 x (32 - b))) (X8 x (32 - c)) := rfl
 have i1 := Ud x (32 - a)
 have i2 := Ud x (32 - b)
 have i3 := Ud x (32 - c)
 have i4 := F1 c.toNat hx
 have j1 := JD i1 i2
 have j2 := JD (ZZ BinOp.xor (X8 x (32 - a)) (X8 x (32 - b))) i3
 have j3 : Jq (bits BinOp.xor .u32 (X8 x (32 - a)) (X8 x (32 - b))) := D5 (ZZ _ _ _)
 generalize KB x a b c false = m at *
 generalize X8 x (32 - a) = ra at *
 generalize X8 x (32 - b) = rb at *
 generalize X8 x (32 - c) = rc at *
 replace hA := Lib.hid hA
 replace hB := Lib.hid hB
 replace hC := Lib.hid hC
 obtain ⟨x0, x1⟩ := hx
 obtain ⟨a0, a1⟩ := ha
 obtain ⟨b0, b1⟩ := hb
 obtain ⟨c0, c1⟩ := hc
 have mx' := Lib.hid mx
 clear mx
 have mx2 : RowKit.Hid (bits BinOp.xor .u64 (bits BinOp.xor .u64 ra rb) (rc) = m) := Lib.hid (by rw [j1, j2, mx'.out])
 clear j1 j2 j3
 clear i1 i2 i3 i4
 go_enter Tryd.func101, Tryd.ntmps101
 go_wp2_with (first
  | ((with_reducible (refine Ko 5 ?_; refine KP rfl 151 _ rfl .i64 [a, b, c] rfl ?_)); (intro w1 A1 s1 b1; have ka : w1.cell? ⟨w.heap.size, 0, none⟩ = some (.int .i64 a) := A1.cell (k := 0) (by simp); have kb : w1.cell? ⟨w.heap.size, 1, none⟩ = some (.int .i64 b) := A1.cell (k := 1) (by simp); have kc : w1.cell? ⟨w.heap.size, 2, none⟩ = some (.int .i64 c) := A1.cell (k := 2) (by simp)))
  | (go_at_call 104; (with_reducible refine (hC.out _).mono ?_); rintro e w2 ⟨rfl, rfl⟩))
 go_quiet ((go_at_call 104; first | (with_reducible exact Calls.quiet_of_same (hA.out _)) | (with_reducible exact Calls.quiet_of_same (hB.out _))))
 go_wp2
 go_ret
 exact ⟨congrArg (fun t => Ending.returned (.int .u64 t)) mx2.out, YI b1 _⟩
set_option maxHeartbeats 1000000 in
theorem UJ (x a b c : Int) (w : World) (hx : Zo x) (ha : 0 < a /\ a < 32) (hb : 0 < b /\ b < 32) (hc : 0 < c /\ c < 32) : Calls Tryd.prog 101 #[.int .u64 x, Z6 .i64 [a, b, c], .bool true, .int .i64 32] w fun e w' => e = .returned (.int .u64 (KB x a b c true)) /\ Below w.heap.size w w' := by
 have hA := fun W => Yj x a W hx ha.1 ha.2
 have hB := fun W => Yj x b W hx hb.1 hb.2
 have hC := fun W => Yj x c W hx hc.1 hc.2
 have mx : KB x a b c true = bits BinOp.xor .u32 (bits BinOp.xor .u32 (X8 x (32 - a)) (X8 x (32 - b))) (x / 2 ^ c.toNat) := rfl
 have i1 := Ud x (32 - a)
 have i2 := Ud x (32 - b)
 have i3 := Ud x (32 - c)
 have i4 := F1 c.toNat hx
 have j1 := JD i1 i2
 have j2 := JD (ZZ BinOp.xor (X8 x (32 - a)) (X8 x (32 - b))) i4
 have j3 : Jq (bits BinOp.xor .u32 (X8 x (32 - a)) (X8 x (32 - b))) := D5 (ZZ _ _ _)
 generalize KB x a b c true = m at *
 generalize X8 x (32 - a) = ra at *
 generalize X8 x (32 - b) = rb at *
 generalize X8 x (32 - c) = rc at *
 replace hA := Lib.hid hA
 replace hB := Lib.hid hB
 replace hC := Lib.hid hC
 obtain ⟨x0, x1⟩ := hx
 obtain ⟨a0, a1⟩ := ha
 obtain ⟨b0, b1⟩ := hb
 obtain ⟨c0, c1⟩ := hc
 have mx' := Lib.hid mx
 clear mx
 have mx2 : RowKit.Hid (bits BinOp.xor .u64 (bits BinOp.xor .u64 ra rb) (x / 2 ^ c.toNat) = m) := Lib.hid (by rw [j1, j2, mx'.out])
 clear j1 j2 j3
 clear i1 i2 i3 i4
 go_enter Tryd.func101, Tryd.ntmps101
 go_wp2_with (first
  | ((with_reducible (refine Ko 5 ?_; refine KP rfl 151 _ rfl .i64 [a, b, c] rfl ?_)); (intro w1 A1 s1 b1; have ka : w1.cell? ⟨w.heap.size, 0, none⟩ = some (.int .i64 a) := A1.cell (k := 0) (by simp); have kb : w1.cell? ⟨w.heap.size, 1, none⟩ = some (.int .i64 b) := A1.cell (k := 1) (by simp); have kc : w1.cell? ⟨w.heap.size, 2, none⟩ = some (.int .i64 c) := A1.cell (k := 2) (by simp)))
  | (go_at_call 104; (with_reducible refine (hC.out _).mono ?_); rintro e w2 ⟨rfl, rfl⟩))
 go_quiet ((go_at_call 104; first | (with_reducible exact Calls.quiet_of_same (hA.out _)) | (with_reducible exact Calls.quiet_of_same (hB.out _))))
 go_wp2
 go_ret
 exact ⟨congrArg (fun t => Ending.returned (.int .u64 t)) mx2.out, YI b1 _⟩
section
variable {P : Program} {ops : Array Oper} {o : Oper} {a : Act} {w : World} {R : Value -> World -> Prop} {rest : List Oper} {Q : Exit -> Act -> World -> Prop} {n : Nat}
end
structure U5 (w : World) : Prop where
 be : ∀ k, k < 8 -> w.cell? ⟨1, k, none⟩ = some (.int .u64 (QX YN k))
 ro : ∀ k, k < 80 -> w.cell? ⟨2, k, none⟩ = some (.int .u64 (QX YD k))
theorem U5.lt {w : World} (h : U5 w) : 1 < w.heap.size /\ 2 < w.heap.size := ⟨World.block_lt_of_cell? w _ (h.be 0 (by decide)), World.block_lt_of_cell? w _ (h.ro 0 (by decide))⟩
theorem U5.below {w w' : World} (h : U5 w) (hb : Below w.heap.size w w') : U5 w' :=
 ⟨fun k hk => by rw [hb.cell h.lt.1]; exact h.be k hk, fun k hk => by rw [hb.cell h.lt.2]; exact h.ro k hk⟩
theorem QK.unXor {P : Program} {ops : Array Oper} {o : Oper} {a : Act} {w : World} {R : Value -> World -> Prop} (hw : Region.wanted o (yielded ops a.tmps) = true) {t : TypeId} {x : Operand} (ho : o.op = .unOp .xor t x) {m : Int} (hx : a.eval x = .int .u64 m) (hR : R (.int .u64 (Vs m)) w) : QK P ops o a w R :=
 QK.pure hw _ (by unfold execOp; simp only [ho, hx]; simp [Op.unary, Op.intBits, Vs, bits, IntKind.signed]) hR
def Zt (zs : List Int) (i : Nat) : List Int := (List.range 80).map fun j => EF (((zs.drop (j * 4)).take 4).take (i - j * 4))
theorem Yf (zs : List Int) (i : Nat) : (Zt zs i).length = 80 := by simp [Zt]
theorem VC (zs : List Int) (i j : Nat) (hj : j < 80) : QX (Zt zs i) j = EF (((zs.drop (j * 4)).take 4).take (i - j * 4)) := by simp [Zt, QX, hj]
theorem Ei (zs : List Int) : Zt zs 0 = List.replicate 80 0 := by
 refine Z9 (by simp [Zt]) fun j hj => ?_
 rw [Yf] at hj
 rw [VC _ _ _ hj, Nat.zero_sub, List.take_zero, Gj]
 rfl
theorem Ej (zs : List Int) (hl : zs.length = 64) (i : Nat) (hi : i < 64) : (Zt zs i).set (i / 4) (QX (Zt zs i) (i / 4) * 256 + QX zs i) = Zt zs (i + 1) := by
  have hq : i / 4 < 80 := by omega
  refine Z9 (by simp [Zt]) fun j hj => ?_
  rw [List.length_set, Yf] at hj
  rw [UF _ _ _ _ (by rw [Yf]; exact hq), VC _ (i + 1) j hj]
  by_cases e : j = i / 4
  . subst e
    rw [if_pos rfl, VC _ _ _ hq, show i + 1 - i / 4 * 4 = (i - i / 4 * 4) + 1 by omega, YY _ (i - i / 4 * 4) (by simp; omega), Ho]
    congr 1
    unfold QX
    rw [List.getElem?_take, if_pos (by omega), List.getElem?_drop, show i / 4 * 4 + (i - i / 4 * 4) = i by omega]
  . rw [if_neg e, VC _ _ _ hj]
    by_cases h : j < i / 4
    . rw [List.take_of_length_le (l := (zs.drop (j * 4)).take 4) (i := i - j * 4) (by simp; omega), List.take_of_length_le (l := (zs.drop (j * 4)).take 4) (i := i + 1 - j * 4) (by simp; omega)]
    . rw [show i - j * 4 = 0 by omega, show i + 1 - j * 4 = 0 by omega]
theorem E4 (zs : List Int) (hl : zs.length = 64) : Zt zs 64 = Qp zs 0 := by
  refine Z9 (by rw [Yf, Zi]) fun j hj => ?_
  rw [Yf] at hj
  rw [VC _ _ _ hj]
  unfold Qp
  rw [Kp]
  by_cases h : j < 16
  . rw [if_pos (by simpa using h), List.take_of_length_le (by simp; omega)]
    simp [QX, h, JE]
  . rw [if_neg (by simpa using h), Gj, List.drop_eq_nil_of_le (by omega)]
    simp [EF]
theorem QaR {zs : List Int} (hb : ZK zs) (hl : zs.length = 64) (i : Nat) (hi : i < 64) : 0 <= QX (Zt zs i) (i / 4) /\ QX (Zt zs i) (i / 4) < 16777216 := by
 have hq : i / 4 < 80 := by omega
 rw [VC _ _ _ hq]
 have h := FH (i - i / 4 * 4) (((zs.drop (i / 4 * 4)).take 4).take (i - i / 4 * 4)) (by simp; omega) (fun x hx => hb x (List.mem_of_mem_drop (List.mem_of_mem_take (List.mem_of_mem_take hx))))
 have h2 : (256 : Int) ^ (i - i / 4 * 4) <= 16777216 := by
  have h3 : i - i / 4 * 4 <= 3 := by omega
  have h4 : (256 : Nat) ^ (i - i / 4 * 4) <= 256 ^ 3 := Nat.pow_le_pow_right (by decide) h3
  have h5 : ((256 ^ (i - i / 4 * 4) : Nat) : Int) <= ((256 ^ 3 : Nat) : Int) := by exact_mod_cast h4
  rw [Int.natCast_pow, Int.natCast_pow] at h5
  simpa using h5
 omega

theorem Fi (n wd : Int) (w : World) (hn : -9223372036854775808 <= n /\ n <= 9223372036854775807) (hw : -9223372036854775808 <= wd /\ wd <= 9223372036854775807) :
    Calls Tryd.prog 99 #[.int .i64 n, .int .i64 wd] w fun e w' => e = .returned (.int .i64 (V5 n wd)) /\ w' = w := by
  by_cases h : n < 0 \/ 1099511627776 < n \/ (wd ≠ 32 /\ wd ≠ 64)
  . rw [show V5 n wd = 0 from if_pos h]
    by_cases h1 : n < 0
    . have d1 : decide (n < 0) = true := decide_eq_true h1
      go_enter Tryd.func99, Tryd.ntmps99
      go_wp2
      go_ret
      exact ⟨rfl, rfl⟩
    . by_cases h2 : 1099511627776 < n
      . go_enter Tryd.func99, Tryd.ntmps99
        go_wp2
        go_ret
        exact ⟨rfl, rfl⟩
      . have h3 : wd ≠ 32 /\ wd ≠ 64 := by omega
        obtain ⟨h4, h5⟩ := h3
        have b4 : (wd != 32) = true := by simpa using h4
        have b5 : (wd != 64) = true := by simpa using h5
        clear h h4 h5
        go_enter Tryd.func99, Tryd.ntmps99
        go_wp2
        go_ret
        exact ⟨rfl, rfl⟩
  . have h6 : wd = 32 \/ wd = 64 := by omega
    have h7 : ¬ n < 0 := by omega
    have h8 : ¬ 1099511627776 < n := by omega
    rw [show V5 n wd = (n + 1 + wd / 4 + 2 * wd - 1) / (2 * wd) * (2 * wd) from if_neg h]
    clear h
    rcases h6 with rfl | rfl
    all_goals
      go_enter Tryd.func99, Tryd.ntmps99
      go_wp2
      go_ret
      exact ⟨rfl, rfl⟩
theorem JN {P : Program} {F : FuncId} {args : List Value} {u : Value} {w : World} (h : Calls P F args.toArray w fun e w' => e = .returned u /\ w' = w) : CV P F args w fun v _ => v = u :=
 Calls.mono h fun e w' ⟨h1, h2⟩ => ⟨u, h1, rfl, by rw [h2]; exact Below.refl _ _⟩
def Z1 (z : List Int) : List Value := z.map (Value.int .u64)
theorem VM (z : List Int) : (Z1 z).length = z.length := by simp [Z1]
theorem QfI (z : List Int) : ∀ u ∈ Z1 z, u.oneCell' = true := fun u hu => by
 obtain ⟨n, _, rfl⟩ := List.mem_map.1 hu
 rfl
theorem Kn {z : List Int} {i : Nat} (h : i < z.length) : (Z1 z)[i]? = some (.int .u64 (QX z i)) := by simp [Z1, QX, h]
theorem Qdz {z : List Int} {k : Nat} {y : Int} (h : k < z.length) : (Z1 z).take k ++ ([.int .u64 y] ++ (Z1 z).drop (k + 1)) = Z1 (z.set k y) := by
 unfold Z1
 rw [<- List.map_take, <- List.map_drop, List.set_eq_take_append_cons_drop, if_pos h]
 simp
theorem Qfu {z : List Int} (h : z.length = 8) : Z1 z = [.int .u64 (QX z 0), .int .u64 (QX z 1), .int .u64 (QX z 2), .int .u64 (QX z 3), .int .u64 (QX z 4), .int .u64 (QX z 5), .int .u64 (QX z 6), .int .u64 (QX z 7)] := by
 match z, h with
 | [a, b, c, d, e, f, g, i], _ => rfl
abbrev e8 (x : Int) : List Value := [.int .u8 x]
theorem En (xs : List Int) : ∀ r ∈ xs.map e8, ∀ u ∈ r, u.oneCell' = true := fun r hr u hu => by
 obtain ⟨x, _, rfl⟩ := List.mem_map.1 hr
 rw [List.mem_singleton.1 hu]
 rfl
def Vr (L : List Nat) (w : World) : Prop := U5 w /\ 1 ∉ L /\ 2 ∉ L
theorem U5.at {w w' : World} (h : U5 w) (h1 : w'.heap[1]? = w.heap[1]?) (h2 : w'.heap[2]? = w.heap[2]?) : U5 w' := by
  refine ⟨fun k hk => ?_, fun k hk => ?_⟩
  . have := h.be k hk
    unfold World.cell? at this ⊢
    rw [h1]
    exact this
  . have := h.ro k hk
    unfold World.cell? at this ⊢
    rw [h2]
    exact this
theorem Vr.below {L : List Nat} {w w' : World} (h : Vr L w) (hb : Below w.heap.size w w') : Vr L w' := ⟨h.1.below hb, h.2⟩
theorem Vr.more {L : List Nat} {w w' : World} (h : Vr L w) (hb : Below w.heap.size w w') {B : Nat} (hB : w.heap.size <= B) : Vr (B :: L) w' := by
  have := h.1.lt
  refine ⟨h.1.below hb, fun hx => ?_, fun hx => ?_⟩
  . rcases List.mem_cons.1 hx with e | e
    . omega
    . exact h.2.1 e
  . rcases List.mem_cons.1 hx with e | e
    . omega
    . exact h.2.2 e
theorem Vr.only {L : List Nat} {w w' : World} (h : Vr L w) {B : Nat} (ho : Yi B w w') (hB : B ∈ L) : Vr L w' := ⟨h.1.at (ho.block _ (fun e => h.2.1 (e ▸ hB))) (ho.block _ (fun e => h.2.2 (e ▸ hB))), h.2⟩
theorem Vr.less {L L' : List Nat} {w : World} (h : Vr L w) (hl : ∀ x, x ∈ L' -> x ∈ L) : Vr L' w := ⟨h.1, fun hx => h.2.1 (hl _ hx), fun hx => h.2.2 (hl _ hx)⟩
theorem FL.toV {s base : Nat} {rs : List (List Value)} {u : Value} {w : World} (h : FL s base rs u w) : Zv s base rs u w := by
 rcases h with h | ⟨B, sp, h1, rfl, h3, h4⟩
 . exact .inl h
 . exact .inr ⟨B, h1, h3.own⟩
section
variable {P : Program} {ops : Array Oper} {o : Oper} {N : Nat} {f : Fl} {w : World}
theorem Fx {t t' : TypeId} {x y : Operand} {K K2 : IntKind} {m n r : Int} (ho : o.op = .binOp .shr t x y t') (hx : ev f x = some (.int K m)) (hy : ev f y = some (.int K2 n)) (hn : 0 <= n) (hn2 : n <= K.bits) (hr : m / 2 ^ n.toNat = r) (hw : QP ops o f = some true := by rfl) : DV P ops o N f w (.int K r) := fun a ha =>
 QK.shr (Qw ha hw) ho (ha.ev hx) (ha.ev hy) hn hn2 hr ⟨rfl, rfl⟩
theorem Qe5 {t t' : TypeId} {x y : Operand} {K K2 : IntKind} {m n r : Int} (ho : o.op = .binOp .shl t x y t') (hx : ev f x = some (.int K m)) (hy : ev f y = some (.int K2 n)) (hn : 0 <= n) (hn2 : n <= K.bits) (hr : K.wrap (m * 2 ^ n.toNat) = r) (hw : QP ops o f = some true := by rfl) : DV P ops o N f w (.int K r) := fun a ha =>
 QK.shl (Qw ha hw) ho (ha.ev hx) (ha.ev hy) hn hn2 hr ⟨rfl, rfl⟩
theorem Qe3 {t : TypeId} {x : Operand} {m : Int} (ho : o.op = .unOp .xor t x) (hx : ev f x = some (.int .u64 m)) (hw : QP ops o f = some true := by rfl) : DV P ops o N f w (.int .u64 (Vs m)) := fun a ha =>
 QK.unXor (Qw ha hw) ho (ha.ev hx) ⟨rfl, rfl⟩
end
theorem Qal (a b c : Int) : Tryd.prog.built 151 [(0, .int .i64 a), (1, .int .i64 b), (2, .int .i64 c)] = some [.int .i64 a, .int .i64 b, .int .i64 c].toArray := by kernel_rfl
theorem Qfb (a b c d e f g h i j k l : Value) : Tryd.prog.built 152 [(0, .agg #[a, b, c]), (1, .agg #[d, e, f]), (2, .agg #[g, h, i]), (3, .agg #[j, k, l])] = some [a, b, c, d, e, f, g, h, i, j, k, l].toArray := by kernel_rfl
theorem Qfz (a b c d e f g h : Int) : Tryd.prog.built 150 [(0, .int .u64 a), (1, .int .u64 b), (2, .int .u64 c), (3, .int .u64 d), (4, .int .u64 e), (5, .int .u64 f), (6, .int .u64 g), (7, .int .u64 h)] = some [.int .u64 a, .int .u64 b, .int .u64 c, .int .u64 d, .int .u64 e, .int .u64 f, .int .u64 g, .int .u64 h].toArray := by kernel_rfl
theorem Qbf : (Value.agg (Array.replicate 80 (Value.int .u64 0))).cells.toList = Z1 (List.replicate 80 0) := by simp [Value.cells, Z1]
theorem EB : (Value.agg #[.int .u64 0, .int .u64 0, .int .u64 0, .int .u64 0, .int .u64 0, .int .u64 0, .int .u64 0, .int .u64 0]).cells.toList = Z1 (List.replicate 8 0) := rfl
theorem Yp (x : Int) : IntKind.u64.wrap x = x % 18446744073709551616 := KO x
theorem Qbw (x : Int) : IntKind.u8.wrap x = x % 256 := IntKind.wrap_u8' x
theorem KA (x : Int) : Jq (x % 18446744073709551616) := Qcw x
theorem D1 {T st : List Int} {i : Nat} (hT : T.length = 8) (hs : st.length = 8) (hi : i < 8) : (T.take i ++ st.drop i).set i (QX T i) = T.take (i + 1) ++ st.drop (i + 1) := by
 have h1 : (T.take i).length = i := by rw [List.length_take]; omega
 rw [List.set_append, if_neg (by omega), h1, Nat.sub_self]
 rw [show st.drop i = st[i] :: st.drop (i + 1) from List.drop_eq_getElem_cons (by omega)]
 rw [List.set_cons_zero, YY T i (by omega), List.append_assoc]
 rfl
theorem UW {T st : List Int} {i : Nat} (hT : T.length = 8) (hs : st.length = 8) (hi : i <= 8) : (T.take i ++ st.drop i).length = 8 := by
 rw [List.length_append, List.length_take, List.length_drop, hT, hs]
 omega
theorem Fh : (List.replicate 8 (0 : Int)).length = 8 := List.length_replicate ..
theorem Gi {P : Program} {F : FuncId} {args : List Value} {u : Value} {w : World} (h : Calls P F args.toArray w fun e w' => e = .returned u /\ Below w.heap.size w w') : CV P F args w fun v _ => v = u :=
 Calls.mono h fun e w' ⟨h1, h2⟩ => ⟨u, h1, rfl, h2⟩
theorem QeU {T st : List Int} {i : Nat} (hT : T.length = 8) (hs : st.length = 8) (hi : i < 8) : QX (T.take i ++ st.drop i) i = QX st i := by
 have h1 : (T.take i).length = i := by rw [List.length_take]; omega
 rw [Kp, if_neg (by omega), h1, Nat.sub_self]
 unfold QX
 rw [List.getElem?_drop, Nat.add_zero]
theorem Vf {p : Int -> Prop} {l : List Int} (h0 : p 0) (h : ∀ x ∈ l, p x) (j : Nat) : p (QX l j) := by
 unfold QX
 cases e : l[j]? with
 | none => exact h0
 | some x => exact h x (List.mem_of_getElem? e)
theorem EG {l : List Int} {i : Nat} (h : i < l.length) : l[i]? = some (QX l i) := by unfold QX; rw [List.getElem?_eq_getElem h]; rfl
theorem Ek (n : Nat) (h : n <= 1099511627776) : V5 (n : Int) 32 = (Xd n : Nat) := by
 unfold V5 Xd
 rw [if_neg (by omega)]
 omega
theorem Kz (n : Nat) : n + 9 <= Xd n /\ Xd n <= n + 72 /\ Xd n % 64 = 0 := by unfold Xd; omega
theorem YB (st zs : List Int) : (XS st zs).length = 8 := by simp [XS]
theorem Qaw (st zs : List Int) (j : Nat) (h : j < 8) : QX (XS st zs) j = (QX st j + QX (QL (Qp zs 48) (Q6 st) 64).list j) % 4294967296 := by simp [XS, QX, h]
theorem Vn : XM.length = 8 := by simp [XM]
theorem Kr (zs : List Int) : ∀ k, (Xr XM zs k).length = 8
 | 0 => Vn
 | k + 1 => YB _ _
theorem Ds : ∀ x ∈ XM, Zo x := by unfold Zo; decide
theorem EI (zs : List Int) : ∀ k, ∀ x ∈ Xr XM zs k, Zo x
 | 0 => Ds
 | k + 1 => fun x hx => by
  obtain ⟨j, _, rfl⟩ := List.mem_map.1 hx
  exact Kd _
theorem Z3 : Zo 0 := by unfold Zo; omega
theorem Dj {st : List Int} (h : ∀ x ∈ st, Zo x) : (Q6 st).ok := ⟨Vf Z3 h 0, Vf Z3 h 1, Vf Z3 h 2, Vf Z3 h 3, Vf Z3 h 4, Vf Z3 h 5, Vf Z3 h 6, Vf Z3 h 7⟩
theorem Fu {D : List Int} (h : ZK D) : ZK (Zb D) := fun x hx => (List.mem_append.1 hx).elim (h x) (FZ _ _ x)
theorem Ft (D : List Int) : Zb D = D ++ 128 :: List.replicate (Xd D.length - D.length - 9) 0 ++ YP D.length := by simp [Zb, KS]
theorem E7 (n k : Nat) (hk : k < 8) : (n : Int) * 8 / 2 ^ (56 - 8 * (k : Int)).toNat % 256 = QX (YP n) k := by
 rw [Es _ _ hk, show (56 - 8 * (k : Int)).toNat = 8 * (7 - k) by omega]
theorem ES (st : List Int) (i j : Nat) (hi : i < 8) (hj : j < 4) : QX st i / 2 ^ (24 - 8 * (j : Int)).toNat % 256 = QX (XX st) (i * 4 + j) := by
 rw [Hy _ _ (by omega), show (i * 4 + j) / 4 = i by omega, show (24 - 8 * (j : Int)).toNat = 8 * (4 - 1 - (i * 4 + j) % 4) by omega]
theorem GA (st : List Int) : (XX st).length = 32 := by simp [XX]
theorem Qa3 (m : List Int) (i : Nat) (a b c d : Int) (ha : a = QX m (i - 16)) (hb : b = VL (QX m (i - 15))) (hc : c = QX m (i - 7)) (hd : d = Uz (QX m (i - 2))) : (((a + b) % 18446744073709551616 + c) % 18446744073709551616 + d) % 18446744073709551616 % 4294967296 = Y2 m i := by
 subst ha hb hc hd
 unfold Y2
 omega
theorem QeA (m : List Int) (i : Nat) (v : Zf) (h : v.ok) : ((((v.h + VQ v.e) % 18446744073709551616 + bits BinOp.xor .u64 (bits BinOp.and .u64 v.e v.f) (bits BinOp.and .u64 (Vs v.e) v.g)) % 18446744073709551616 + QX YD i / 4294967296) % 18446744073709551616 + QX m i) % 18446744073709551616 % 4294967296 = YS m i v := by
 obtain ⟨_, _, _, _, he, hf, hg, _⟩ := h
 rw [FK he hf, Qa2 he hg, JD (ZZ _ _ _) (ZZ _ _ _)]
 unfold YS
 omega
theorem Qez (v : Zf) (h : v.ok) : (U3 v.a + bits BinOp.xor .u64 (bits BinOp.xor .u64 (bits BinOp.and .u64 v.a v.b) (bits BinOp.and .u64 v.a v.c)) (bits BinOp.and .u64 v.b v.c)) % 18446744073709551616 % 4294967296 = Jo v := by
 obtain ⟨ha, hb, hc, _⟩ := h
 rw [FK ha hb, FK ha hc, FK hb hc, JD (ZZ _ _ _) (ZZ _ _ _), JD (ZZ _ _ _) (ZZ _ _ _)]
 unfold Jo
 omega
theorem KI (x y : Int) : (x + y) % 18446744073709551616 % 4294967296 = (x + y) % 4294967296 := by omega
end Go.Proofs.YtfachlmgdlnpoaaDoor
namespace Go.Proofs.YtfachlmgdlnpoaaDoor
open Go.ChangeShapes Go.WideShapes Go.ChangeAt Go.RowKit
set_option linter.unusedVariables false
set_option maxRecDepth 8000
theorem Qdu {W : World} {l} (hL : laidMet Tryd.prog (("vouchsafe/sha.cubes", Rows.laid_vouchsafe_sha_cubes) :: ("vouchsafe/sha.squares", Rows.laid_vouchsafe_sha_squares) :: ("vouchsafe/vouchsaferef07.roots", Rows.laid_vouchsafe_vouchsaferef07_roots) :: ("vouchsafe/vouchsaferef07.begins", Rows.laid_vouchsafe_vouchsaferef07_begins) :: l) W) : U5 W := by
 have hL3 := laidMet.tail (laidMet.tail hL)
 have h3 : Go.Lib.TabIs Tryd.prog W "vouchsafe/vouchsaferef07.roots" .u64 YD :=
  Go.Lib.tabIs_of_head (g := 2) (t := 154) (e := 149) (n := 80) (by kernel_rfl) (by kernel_rfl) Tryd.underlying154 Tryd.underlying149 (by kernel_rfl) (by kernel_rfl) hL3
 have hL4 := laidMet.tail hL3
 have h4 : Go.Lib.TabIs Tryd.prog W "vouchsafe/vouchsaferef07.begins" .u64 YN :=
  Go.Lib.tabIs_of_head (g := 1) (t := 150) (e := 149) (n := 8) (by kernel_rfl) (by kernel_rfl) Tryd.underlying150 Tryd.underlying149 (by kernel_rfl) (by kernel_rfl) hL4
 have g3 : Tryd.prog.globalNamed "vouchsafe/vouchsaferef07.roots" = some 2 := by kernel_rfl
 have g4 : Tryd.prog.globalNamed "vouchsafe/vouchsaferef07.begins" = some 1 := by kernel_rfl
 refine ⟨fun k hk => ?_, fun k hk => ?_⟩
 . rw [h4.cell g4 k hk]; simp [QX, List.getD_eq_getElem?_getD]
 . rw [h3.cell g3 k hk]; simp [QX, List.getD_eq_getElem?_getD]
end Go.Proofs.YtfachlmgdlnpoaaDoor
namespace Go.Proofs.YtfachlmgdlnpoaaDoor
open Go.RowKit
set_option linter.unusedVariables false
set_option linter.unusedSimpArgs false
set_option maxRecDepth 8000
set_option maxHeartbeats 2000000

set_option maxHeartbeats 4000000 in
theorem E1 (D : List Int) (sv : Value) (w : World) (L : List Nat) (hL : LL L w) (h1 : QD 1 L w sv (D.map e8)) (hT : Vr L w)  (hDm : D.length <= 10000) (hDb : ZK D) : CV Tryd.prog 94 [sv, .int .i64 32] w fun v W => QD 1 L W v ((XK D).map e8) := by
 refine QN (N := 280) (f := [(0, sv), (1, .int .i64 32)]) Tryd.func94 rfl rfl rfl rfl fun Q hQ hE => ?_
 have hB := Below.refl w.heap.size w
 have hL0 := hL
 have h1m : D.length <= maxLen := by have := h1.len; rwa [List.length_map] at this
 unfold maxLen at h1m
 refine Sq fun K1 hK1 => (Rg (Pu rfl (Ni (hK1 (Sq fun K2 hK2 => (Rg (Va (QS rfl rfl (Qal _ _ _)) rfl rfl ?_)))))))
 refine Va (QS rfl rfl (Qal _ _ _)) rfl rfl (Va (QS rfl rfl (Qal _ _ _)) rfl rfl (Va (QS rfl rfl (Qal _ _ _)) rfl rfl (Va (QS rfl rfl (Qfb _ _ _ _ _ _ _ _ _ _ _ _)) rfl rfl ?_)))
 refine Ge (Qu rfl FX rfl) rfl rfl ?_
 rintro _ W3 ⟨rfl, k4, b5, z6⟩
 have l7 := hB.size
 replace h1 := h1.more b5 (Nat.le_refl _)
 replace hT := hT.more b5 (Nat.le_refl _)
 replace hB := Qe hB b5
 replace hL := LL.more hL z6
 refine WL.do (Qh (cs' := [.int .i64 2, .int .i64 13, .int .i64 22, .int .i64 6, .int .i64 11, .int .i64 25, .int .i64 7, .int .i64 18, .int .i64 3, .int .i64 17, .int .i64 19, .int .i64 10]) (vs := [.int .i64 2, .int .i64 13, .int .i64 22, .int .i64 6, .int .i64 11, .int .i64 25, .int .i64 7, .int .i64 18, .int .i64 3, .int .i64 17, .int .i64 19, .int .i64 10]) rfl Gy rfl rfl rfl (oC rfl (oC rfl (oC rfl (oC rfl (oC rfl (oC rfl (oC rfl o5))))))) k4 rfl (nB rfl) rfl) rfl ?_
 rintro _ W8 ⟨k10, o9⟩
 clear k4
 replace h1 := h1.only o9 (.head _)
 replace hT := hT.only o9 (.head _)
 replace hB := o9.below hB l7
 replace hL := LL.only hL o9
 refine Ni (hK2 (Sq fun K11 hK11 => (Rg (Pu rfl (Ni (hK11 (Sq fun K12 hK12 => ?_)))))))
 refine Sq fun K13 hK13 => (Rg (Pu rfl (Va (Zw rfl rfl rfl) rfl rfl (Ni (hK13 (WC.condF rfl (WC.skip ?_)))))))
 refine hK12 (Sq fun K14 hK14 => ?_)
 have hDl : D.length <= 10000 := hDm
 have zh1 := h1
 have zhT := hT
 have zk10 := k10
 have zhB := hB
 have zhL := hL
 have hC : Y4 W8 (w.heap.size :: L) W8 := Below.refl _ _
 refine Rg ?_
 refine Ge (Hb rfl X2 (by decide)) rfl rfl ?_
 rintro u15 W16 ⟨b17, hE⟩
 replace h1 := h1.below b17
 replace hT := hT.below b17
 replace hC := hC.below b17
 replace k10 := k10.below b17
 replace hB := Qe hB b17
 replace hL := LL.below hL b17
 refine Pu rfl ?_
 refine Ge (Qfa (base := W8.heap.size) rfl X2 rfl rfl hE h1 (En D) (by rw [List.length_map]; unfold maxLen; omega) (by rw [List.length_map]; omega) (Below.size hC)) rfl rfl ?_
 rintro u18 W19 ⟨b20, hN⟩
 replace h1 := h1.below b20
 replace hT := hT.below b20
 replace hC := hC.below b20
 replace k10 := k10.below b20
 replace hB := Qe hB b20
 replace hL := LL.below hL b20
 have h5 : Zv 1 W8.heap.size (D.map e8) u18 W19 := hN.toV
 refine Ge (ZP (r := e8 128) rfl X2 (by decide) (by decide) rfl rfl rfl) rfl rfl ?_
 rintro x21 W22 ⟨k24, b23, z25⟩
 replace h1 := h1.below b23
 replace hT := hT.below b23
 replace hC := hC.below b23
 replace h5 := h5.below b23
 replace k10 := k10.below b23
 replace hB := Qe hB b23
 replace hL := LL.below hL b23
 have hx := k24.rd (L := []) (by simp)
 refine Ge (V6 (base := W8.heap.size) rfl X2 rfl rfl h5 hx (En [128]) (by simp [maxLen]; omega) (by simp; omega) (Below.size hC)) rfl rfl ?_
 rintro x26 W27 ⟨h5, b28⟩
 replace h5 : Zv 1 W8.heap.size ((D ++ [128]).map e8) x26 W27 := by rw [List.map_append]; exact h5
 replace hC : Y4 W8 (w.heap.size :: L) W27 := Below.trans hC b28
 replace h1 := zh1.below hC
 replace hT := zhT.below hC
 replace k10 := zk10.below hC
 replace hB := Qe zhB hC
 replace hL := LL.below zhL hC
 refine Pu rfl (Ni (hK14 (Sq fun K29 hK29 => (WC.block ?_))))
 have hpg := Kz D.length
 refine WC.loop2 (fun (j : Nat) (ov : Value) => [(0, sv), (1, .int .i64 32), (5, .pointer (some ⟨w.heap.size, 0, none⟩)), (6, .int .i64 64), (7, ov)]) (fun (j : Nat) (ov : Value) W => j <= Xd D.length - D.length - 9 /\ Below w.heap.size w W /\ LL (w.heap.size :: L) W /\ QD 1 (w.heap.size :: L) W sv (D.map e8) /\ Vr (w.heap.size :: L) W /\ Y4 W8 (w.heap.size :: L) W /\ Zv 1 W8.heap.size ((D ++ 128 :: List.replicate j 0).map e8) ov W /\ Xc W w.heap.size [.int .i64 2, .int .i64 13, .int .i64 22, .int .i64 6, .int .i64 11, .int .i64 25, .int .i64 7, .int .i64 18, .int .i64 3, .int .i64 17, .int .i64 19, .int .i64 10]) (fun (j : Nat) (ov : Value) => Xd D.length - j) 0 x26 (by repeat first | exact trivial | refine aR ?_ | refine aI (by omega) ?_) ⟨Nat.zero_le _, hB, hL, h1, hT, hC, h5, k10⟩ ?_
 clear h1 hT hC h5 k10 hB hL
 rintro K30 j ov W31 ⟨hj, hB, hL, h1, hT, hC, h5, k10⟩ hK30
 have hol : (D ++ 128 :: List.replicate j 0).length = D.length + 1 + j := by simp; omega
 refine Sq fun K32 hK32 => (Sq fun K33 hK33 => (Rg (Pu rfl (Va (Kj rfl QH rfl (h5.rd (L := []) (by simp))) rfl rfl ?_))))
 have hln : ((D ++ 128 :: List.replicate j 0).map e8).length = (D ++ 128 :: List.replicate j 0).length := List.length_map _
 refine Pu rfl (Va (Kj rfl QH rfl h1) rfl rfl (Pu rfl ?_))
 refine Ge (QQ rfl Tryd.func99 rfl rfl rfl ((show CV _ _ [.int .i64 ((D.map e8).length : Int), .int .i64 32] _ (fun v _ => v = .int .i64 ((Xd D.length : Nat) : Int)) from by rw [List.length_map]; have := JN (Fi (D.length : Int) 32 W31 (by omega) (by decide)); rw [Ek _ (by omega)] at this; exact this))) rfl rfl ?_
 rintro _ W35 ⟨rfl, b34⟩
 replace h1 := h1.below b34
 replace hT := hT.below b34
 replace hC := hC.below b34
 replace h5 := h5.below b34
 replace k10 := k10.below b34
 replace hB := Qe hB b34
 replace hL := LL.below hL b34
 refine Va (Zm (r := ((Xd D.length : Nat) : Int) - 8) rfl rfl rfl (Qm (by omega))) rfl rfl (Va (Xe rfl rfl rfl) rfl rfl (Ni (hK33 ?_)))
 refine WC.cond rfl (fun c36 => ?_) (fun c36 => ?_)
 .
  replace c36 := dT c36
  refine WC.skip (hK32 (WC.block (Rg (Pu rfl ?_))))
  refine Ge (ZP (r := e8 0) rfl X2 (by decide) (by decide) rfl rfl rfl) rfl rfl ?_
  rintro x37 W38 ⟨k40, b39, z41⟩
  replace h1 := h1.below b39
  replace hT := hT.below b39
  replace hC := hC.below b39
  replace h5 := h5.below b39
  replace k10 := k10.below b39
  replace hB := Qe hB b39
  replace hL := LL.below hL b39
  have hx := k40.rd (L := []) (by simp)
  refine Ge (V6 (base := W8.heap.size) rfl X2 rfl rfl h5 hx (En [0]) (by simp [maxLen]; omega) (by simp; omega) (Below.size hC)) rfl rfl ?_
  rintro x42 W43 ⟨h5, b44⟩
  replace h5 : Zv 1 W8.heap.size (((D ++ 128 :: List.replicate j 0) ++ [0]).map e8) x42 W43 := by rw [List.map_append]; exact h5
  replace hC : Y4 W8 (w.heap.size :: L) W43 := Below.trans hC b44
  replace h1 := zh1.below hC
  replace hT := zhT.below hC
  replace k10 := zk10.below hC
  replace hB := Qe zhB hC
  replace hL := LL.below zhL hC
  refine Pu rfl (Ni ?_)
  rw [show ((D ++ 128 :: List.replicate j 0) ++ [0]) = D ++ 128 :: List.replicate (j + 1) 0 from by rw [List.replicate_succ']; simp] at h5
  exact hK30 (j + 1) x42 ⟨(by simp only [List.length_map] at *; omega), hB, hL, h1, hT, hC, h5, k10⟩ (by simp only [List.length_map] at *; omega) (by repeat first | exact trivial | refine aR ?_ | refine aI (by omega) ?_)
 .
  replace c36 := dF c36
  refine WC.exit ?_
  refine hK29 (Sq fun K45 hK45 => ?_)
  have hje : j = Xd D.length - D.length - 9 := (by simp only [List.length_map] at *; omega)
  refine Rg (Pu rfl (Va (Kj rfl QH rfl h1) rfl rfl (Va (XP (r := (D.length : Int)) rfl Tryd.underlying3 Tryd.underlying149 rfl (by rw [Yp, List.length_map]; omega)) rfl rfl (Va (VO (r := (D.length : Int) * 8) rfl rfl rfl (by rw [Yp]; omega)) rfl rfl (Pu rfl (Ni (hK45 ?_)))))))
  refine Sq fun K46 hK46 => (Sq fun K47 hK47 => (Rg (Pu rfl (Ni (hK47 (WC.block ?_))))))
  replace h5 : Zv 1 W8.heap.size (((D ++ 128 :: List.replicate j 0) ++ (YP D.length).take 0).map e8) ov W35 := by rw [List.take_zero, List.append_nil]; exact h5
  refine WC.loop2 (fun (k : Nat) (ov2 : Value) => [(1, .int .i64 32), (5, .pointer (some ⟨w.heap.size, 0, none⟩)), (6, .int .i64 64), (8, .int .u64 ((D.length : Int) * 8)), (7, ov2), (9, .int .i64 (56 - 8 * (k : Int)))]) (fun (k : Nat) (ov2 : Value) W => k <= 8 /\ Below w.heap.size w W /\ LL (w.heap.size :: L) W /\ QD 1 (w.heap.size :: L) W sv (D.map e8) /\ Vr (w.heap.size :: L) W /\ Y4 W8 (w.heap.size :: L) W /\ Zv 1 W8.heap.size (((D ++ 128 :: List.replicate j 0) ++ (YP D.length).take k).map e8) ov2 W /\ Xc W w.heap.size [.int .i64 2, .int .i64 13, .int .i64 22, .int .i64 6, .int .i64 11, .int .i64 25, .int .i64 7, .int .i64 18, .int .i64 3, .int .i64 17, .int .i64 19, .int .i64 10]) (fun (k : Nat) (ov2 : Value) => 8 - k) 0 ov (by repeat first | exact trivial | refine aR ?_ | refine aI (by omega) ?_) ⟨(by decide), hB, hL, h1, hT, hC, h5, k10⟩ ?_
  clear h1 hT hC h5 k10 hB hL
  rintro K48 k ov2 W49 ⟨hk, hB, hL, h1, hT, hC, h5, k10⟩ hK48
  have hol2 : ((D ++ 128 :: List.replicate j 0) ++ (YP D.length).take k).length = D.length + 1 + j + k := by simp [Uj]; omega
  refine Sq fun K50 hK50 => (Sq fun K51 hK51 => (Rg (Pu rfl (Va (Yr rfl rfl rfl) rfl rfl (Ni (hK51 ?_))))))
  refine WC.cond rfl (fun c52 => ?_) (fun c52 => ?_)
  .
   replace c52 := dT c52
   refine WC.skip (hK50 (Sq fun K53 hK53 => (WC.block (Rg (Pu rfl (Pu rfl (Pu rfl ?_)))))))
   refine Va (XP (r := (56 - 8 * (k : Int))) rfl Tryd.underlying3 Tryd.underlying105 rfl (by rw [Yp]; omega)) rfl rfl (Va (Fx rfl rfl rfl (by omega) (by show _ <= (64 : Int); omega) rfl) rfl rfl (Va (XP (r := QX (YP D.length) k) rfl Tryd.underlying149 Tryd.underlying5 rfl ((Qbw _).trans (E7 _ _ (by omega)))) rfl rfl ?_))
   refine Ge (ZP (r := e8 (QX (YP D.length) k)) rfl X2 (by decide) (by decide) rfl rfl rfl) rfl rfl ?_
   rintro x54 W55 ⟨k57, b56, z58⟩
   replace h1 := h1.below b56
   replace hT := hT.below b56
   replace hC := hC.below b56
   replace h5 := h5.below b56
   replace k10 := k10.below b56
   replace hB := Qe hB b56
   replace hL := LL.below hL b56
   have hx := k57.rd (L := []) (by simp)
   refine Ge (V6 (base := W8.heap.size) rfl X2 rfl rfl h5 hx (En [QX (YP D.length) k]) (by simp [maxLen]; omega) (by simp; omega) (Below.size hC)) rfl rfl ?_
   rintro x59 W60 ⟨h5, b61⟩
   replace h5 : Zv 1 W8.heap.size ((((D ++ 128 :: List.replicate j 0) ++ (YP D.length).take k) ++ [QX (YP D.length) k]).map e8) x59 W60 := by rw [List.map_append]; exact h5
   replace hC : Y4 W8 (w.heap.size :: L) W60 := Below.trans hC b61
   replace h1 := zh1.below hC
   replace hT := zhT.below hC
   replace k10 := zk10.below hC
   replace hB := Qe zhB hC
   replace hL := LL.below zhL hC
   refine Pu rfl (Ni (hK53 (Rg (Pu rfl (Va (Zm (r := (56 - 8 * ((k + 1 : Nat) : Int))) rfl rfl rfl (by rw [Qm (by omega)]; omega)) rfl rfl (Pu rfl (Ni ?_)))))))
   rw [show (((D ++ 128 :: List.replicate j 0) ++ (YP D.length).take k) ++ [QX (YP D.length) k]) = (D ++ 128 :: List.replicate j 0) ++ (YP D.length).take (k + 1) from by rw [YY _ _ (by rw [Uj]; omega), List.append_assoc]] at h5
   exact hK48 (k + 1) x59 ⟨(by omega), hB, hL, h1, hT, hC, h5, k10⟩ (by omega) (by repeat first | exact trivial | refine aR ?_ | refine aI (by omega) ?_)
  .
   replace c52 := dF c52
   refine WC.exit ?_
   refine hK46 (Sq fun K62 hK62 => ?_)
   have hfe : ((D ++ 128 :: List.replicate j 0) ++ (YP D.length).take k) = (Zb D) := by rw [Ft, hje, List.take_of_length_le (by rw [Uj]; omega)]
   rw [hfe] at h5
   have hA : QD 1 (w.heap.size :: L) W49 ov2 ((Zb D).map e8) := h5.rd zhL
   have hFl : (Zb D).length = Xd D.length := De D
   have hFb : ZK (Zb D) := Fu hDb
   have hFm : ((Zb D).map e8).length = (Zb D).length := List.length_map _
   refine Rg ?_
   refine Ge (Qu (cs := Z1 (List.replicate 8 0)) rfl KQ EB) rfl rfl ?_
   rintro _ W63 ⟨rfl, k64, b65, z66⟩
   have n67 : w.heap.size ≠ W49.heap.size := Nat.ne_of_lt k10.lt
   have l68 := hB.size
   replace hT := hT.more b65 (Nat.le_refl _)
   replace hA := hA.more b65 (Nat.le_refl _)
   replace k10 := k10.below b65
   replace hB := Qe hB b65
   replace hL := LL.more hL z66
   refine Ni (hK62 (Sq fun K69 hK69 => (Sq fun K70 hK70 => (Rg (Pu rfl (Ni (hK70 ?_)))))))
   refine WC.block ?_
   replace k64 : Xc W63 W49.heap.size (Z1 (XM.take 0 ++ (List.replicate 8 (0 : Int)).drop 0)) := k64
   refine WC.loop (fun (i : Nat) => [(1, .int .i64 32), (5, .pointer (some ⟨w.heap.size, 0, none⟩)), (6, .int .i64 64), (7, ov2), (10, .pointer (some ⟨W49.heap.size, 0, none⟩)), (11, .int .i64 (i : Int))]) (fun (i : Nat) W => i <= 8 /\ Below w.heap.size w W /\ LL (W49.heap.size :: w.heap.size :: L) W /\ Vr (W49.heap.size :: w.heap.size :: L) W /\ QD 1 (W49.heap.size :: w.heap.size :: L) W ov2 ((Zb D).map e8) /\ Xc W w.heap.size [.int .i64 2, .int .i64 13, .int .i64 22, .int .i64 6, .int .i64 11, .int .i64 25, .int .i64 7, .int .i64 18, .int .i64 3, .int .i64 17, .int .i64 19, .int .i64 10] /\ Xc W W49.heap.size (Z1 (XM.take i ++ (List.replicate 8 (0 : Int)).drop i))) (fun (i : Nat) => 8 - i) 0 (by repeat first | exact trivial | refine aR ?_ | refine aI (by omega) ?_) ⟨(by decide), hB, hL, hT, hA, k10, k64⟩ ?_
   clear hT hA k10 k64 hB hL
   rintro K71 i W72 ⟨hi, hB, hL, hT, hA, k10, k64⟩ hK71
   refine Sq fun K73 hK73 => (Sq fun K74 hK74 => (Rg (Pu rfl (Va (Xe rfl rfl rfl) rfl rfl (Ni (hK74 ?_))))))
   refine WC.cond rfl (fun c75 => ?_) (fun c75 => ?_)
   .
    replace c75 := dT c75
    refine WC.skip (hK73 (Sq fun K76 hK76 => (WC.block (Rg (Pu rfl (Pu rfl (Va (QU (o1 := i) rfl Tryd.underlying150 QB rfl rfl (by omega) (by first | (simp; done) | omega)) rfl rfl ?_)))))))
    refine Va (Qi rfl Q3 rfl (hT.1.be i (by omega))) rfl rfl (Pu rfl (Va (Zm (r := 32) rfl rfl rfl (by decide)) rfl rfl (Va (XP (r := 32) rfl Tryd.underlying3 Tryd.underlying105 rfl (by decide)) rfl rfl (Va (Fx rfl rfl rfl (by decide) (by decide) (Hn i (by omega)).symm) rfl rfl (Va (QU (o1 := i) rfl Tryd.underlying150 QB rfl rfl (by omega) (by first | (simp; done) | omega)) rfl rfl ?_)))))
    refine WL.do (Qh (cs' := Z1 ((XM.take i ++ (List.replicate 8 (0 : Int)).drop i).set i (QX XM i))) (vs := [.int .u64 (QX XM i)]) rfl QB rfl rfl rfl (oC rfl Qk) k64 rfl (by rw [VM, show (XM.take i ++ (List.replicate 8 (0 : Int)).drop i).length = 8 from (UW Vn Fh hi)]; exact (by omega)) (Qdz (by rw [show (XM.take i ++ (List.replicate 8 (0 : Int)).drop i).length = 8 from (UW Vn Fh hi)]; exact (by omega)))) rfl ?_
    rintro _ W77 ⟨k79, o78⟩
    replace k10 := k10.other o78 n67
    clear k64
    replace hT := hT.only o78 (.head _)
    replace hA := hA.only o78 (.head _)
    replace hB := o78.below hB l68
    replace hL := LL.only hL o78
    refine Ni (hK76 (Rg (Pu rfl (Va (QR (r := (i : Int) + 1) rfl rfl rfl (Qm (by omega))) rfl rfl (Pu rfl (Ni ?_))))))
    rw [D1 Vn Fh (by omega)] at k79
    exact hK71 (i + 1) ⟨(by omega), hB, hL, hT, hA, k10, k79⟩ (by omega) (by repeat first | exact trivial | refine aR ?_ | refine aI (by omega) ?_)
   .
    replace c75 := dF c75
    refine WC.exit ?_
    refine hK69 (Sq fun K80 hK80 => ?_)
    have hi8 : i = 8 := by omega
    subst hi8
    replace k64 : Xc W72 W49.heap.size (Z1 (Xr XM (Zb D) 0)) := by have e : XM.take 8 ++ (List.replicate 8 (0 : Int)).drop 8 = XM := (by rw [List.take_of_length_le (by rw [Vn]; exact Nat.le_refl _)]; simp); rw [e] at k64; exact k64
    refine Rg (Pu rfl (Va (Y3 (r := 4) rfl rfl rfl (by omega) (by decide)) rfl rfl (Pu rfl (Ni (hK80 (Sq fun K81 hK81 => (Sq fun K82 hK82 => ?_)))))))
    refine Rg (Pu rfl (Ni (hK82 (WC.block ?_))))
    refine WC.loop (fun (q : Nat) => [(1, .int .i64 32), (5, .pointer (some ⟨w.heap.size, 0, none⟩)), (6, .int .i64 64), (7, ov2), (10, .pointer (some ⟨W49.heap.size, 0, none⟩)), (12, .int .i64 4), (13, .int .i64 ((q * 64 : Nat) : Int))]) (fun (q : Nat) W => q * 64 <= Xd D.length /\ Below w.heap.size w W /\ LL (W49.heap.size :: w.heap.size :: L) W /\ Vr (W49.heap.size :: w.heap.size :: L) W /\ QD 1 (W49.heap.size :: w.heap.size :: L) W ov2 ((Zb D).map e8) /\ Xc W w.heap.size [.int .i64 2, .int .i64 13, .int .i64 22, .int .i64 6, .int .i64 11, .int .i64 25, .int .i64 7, .int .i64 18, .int .i64 3, .int .i64 17, .int .i64 19, .int .i64 10] /\ Xc W W49.heap.size (Z1 (Xr XM (Zb D) q))) (fun (q : Nat) => Xd D.length - q * 64) 0 (by repeat first | exact trivial | refine aR ?_ | refine aI (by omega) ?_) ⟨(by omega), hB, hL, hT, hA, k10, k64⟩ ?_
    clear hT hA k10 k64 hB hL
    rintro K83 q W84 ⟨hq, hB, hL, hT, hA, k10, k64⟩ hK83
    refine Sq fun K85 hK85 => (Sq fun K86 hK86 => (Rg (Pu rfl (Pu rfl (Va (Kj rfl QH rfl hA) rfl rfl (Va (Xe rfl rfl rfl) rfl rfl (Ni ?_)))))))
    refine hK86 ?_
    refine WC.cond rfl (fun c87 => ?_) (fun c87 => ?_)
    .
     replace c87 := dT c87
     refine WC.skip (hK85 (Sq fun K88 hK88 => (WC.block (Sq fun K89 hK89 => ?_))))
     have hpm := (Kz D.length).2.2
     have hc_ := c87
     rw [hFm, hFl] at hc_
     have hqq : q * 64 + 64 <= Xd D.length := by omega
     obtain ⟨zs, hzs⟩ : ∃ z, z = ((Zb D).drop (q * 64)).take 64 := ⟨_, rfl⟩
     have hzl : zs.length = 64 := by rw [hzs, List.length_take, List.length_drop, hFl]; omega
     have hzb : ZK zs := fun x hx => hFb x (by rw [hzs] at hx; exact List.mem_of_mem_drop (List.mem_of_mem_take hx))
     obtain ⟨st, hst⟩ : ∃ z, z = Xr XM (Zb D) q := ⟨_, rfl⟩
     rw [<- hst] at k64
     have hsl : st.length = 8 := by rw [hst]; exact Kr _ _
     have hsi : ∀ x ∈ st, Zo x := by rw [hst]; exact EI _ _
     refine Rg ?_
     refine Ge (Qu (cs := Z1 (List.replicate 80 0)) rfl FW Qbf) rfl rfl ?_
     rintro _ W90 ⟨rfl, k91, b92, z93⟩
     have n94 : w.heap.size ≠ W84.heap.size := Nat.ne_of_lt k10.lt
     have n95 : W49.heap.size ≠ W84.heap.size := Nat.ne_of_lt k64.lt
     have l96 := hB.size
     replace hT := hT.more b92 (Nat.le_refl _)
     replace hA := hA.more b92 (Nat.le_refl _)
     replace k10 := k10.below b92
     replace k64 := k64.below b92
     replace hB := Qe hB b92
     replace hL := LL.more hL z93
     refine Ni (hK89 (Sq fun K97 hK97 => (Sq fun K98 hK98 => (Rg (Pu rfl (Ni (hK98 ?_)))))))
     refine WC.block ?_
     rw [<- Ei zs] at k91
     refine WC.loop (fun (i : Nat) => [(1, .int .i64 32), (5, .pointer (some ⟨w.heap.size, 0, none⟩)), (6, .int .i64 64), (7, ov2), (10, .pointer (some ⟨W49.heap.size, 0, none⟩)), (12, .int .i64 4), (13, .int .i64 ((q * 64 : Nat) : Int)), (14, .pointer (some ⟨W84.heap.size, 0, none⟩)), (15, .int .i64 (i : Int))]) (fun (i : Nat) W => i <= 64 /\ Below w.heap.size w W /\ LL (W84.heap.size :: W49.heap.size :: w.heap.size :: L) W /\ Vr (W84.heap.size :: W49.heap.size :: w.heap.size :: L) W /\ QD 1 (W84.heap.size :: W49.heap.size :: w.heap.size :: L) W ov2 ((Zb D).map e8) /\ Xc W w.heap.size [.int .i64 2, .int .i64 13, .int .i64 22, .int .i64 6, .int .i64 11, .int .i64 25, .int .i64 7, .int .i64 18, .int .i64 3, .int .i64 17, .int .i64 19, .int .i64 10] /\ Xc W W49.heap.size (Z1 st) /\ Xc W W84.heap.size (Z1 (Zt zs i))) (fun (i : Nat) => 64 - i) 0 (by repeat first | exact trivial | refine aR ?_ | refine aI (by omega) ?_) ⟨Nat.zero_le _, hB, hL, hT, hA, k10, k64, k91⟩ ?_
     clear hT hA k10 k64 k91 hB hL
     rintro K99 i W100 ⟨hi, hB, hL, hT, hA, k10, k64, k91⟩ hK99
     refine Sq fun K101 hK101 => (Sq fun K102 hK102 => (Rg (Pu rfl (Pu rfl (Va (VO (r := 64) rfl rfl rfl (by decide)) rfl rfl (Va (Xe rfl rfl rfl) rfl rfl (Ni ?_)))))))
     refine hK102 ?_
     refine WC.cond rfl (fun c103 => ?_) (fun c103 => ?_)
     .
      replace c103 := dT c103
      refine WC.skip (hK101 (Sq fun K104 hK104 => (WC.block ?_)))
      have ez : (Zb D)[q * 64 + i]? = some (QX zs i) := by have e1 : QX zs i = QX (Zb D) (q * 64 + i) := (by rw [hzs]; unfold QX; rw [List.getElem?_take, if_pos (by omega), List.getElem?_drop]); rw [e1]; exact EG (by omega)
      have hzi := Vf (p := fun x => 0 <= x /\ x <= 255) (by decide) hzb i
      have hpl := QaR hzb hzl i (by omega)
      refine dM 17 [(some 98, .is (.int .i64 (i : Int))), (some 99, .is (.int .i64 4)), (some 100, .is (.int .i64 ((i : Int) / 4))), (some 101, .is (.int .i64 (i : Int))), (some 102, .is (.int .i64 4)), (some 103, .is (.int .i64 ((i : Int) / 4))), (some 104, .is (.pointer (some ⟨W84.heap.size, (i / 4), none⟩))), (some 105, .is (.int .u64 (QX (Zt zs i) (i / 4)))), (some 106, .is (.int .u64 (QX (Zt zs i) (i / 4) * 256))), (some 107, .is (ov2)), (some 108, .is (.int .i64 ((q * 64 : Nat) : Int))), (some 109, .is (.int .i64 (i : Int))), (some 110, .is (.int .i64 (((q * 64 : Nat) : Int) + (i : Int)))), (some 111, .by fun u W => JB (W84.heap.size :: W49.heap.size :: w.heap.size :: L) W u [.int .u8 (QX zs i)]), (some 112, .is (.int .u8 (QX zs i))), (some 113, .is (.int .u64 (QX zs i))), (some 114, .is (.int .u64 (QX (Zt zs i) (i / 4) * 256 + (QX zs i))))] [[], [], [0, 1], [], [], [3, 4], [5], [6], [7], [], [], [], [10, 11], [9, 12], [13], [14], [8, 15]] ⟨fun _ _ _ hb h => h.below hb, trivial⟩ ?_ ?_
      .
       refine Dc (fun Wd hd => ?_) ?_
       .
        exact Dd (Qt rfl rfl) rfl
       refine Dc (fun Wd hd => ?_) ?_
       .
        exact Dd (Qt rfl rfl) rfl
       refine Dc (fun Wd hd => ?_) ?_
       .
        exact Dd (Y3 (r := (i : Int) / 4) rfl rfl rfl (by decide) (by rw [Int.tdiv_eq_ediv_of_nonneg (by omega)]; exact Qm (by omega))) rfl
       refine Dc (fun Wd hd => ?_) ?_
       .
        exact Dd (Qt rfl rfl) rfl
       refine Dc (fun Wd hd => ?_) ?_
       .
        exact Dd (Qt rfl rfl) rfl
       refine Dc (fun Wd hd => ?_) ?_
       .
        exact Dd (Y3 (r := (i : Int) / 4) rfl rfl rfl (by decide) (by rw [Int.tdiv_eq_ediv_of_nonneg (by omega)]; exact Qm (by omega))) rfl
       refine Dc (fun Wd hd => ?_) ?_
       .
        exact Dd (QU (o1 := (i / 4)) rfl Tryd.underlying154 QB rfl rfl (by omega) (by first | (simp; done) | omega)) rfl
       refine Dc (fun Wd hd => ?_) ?_
       .
        have k91 := k91.below hd
        exact Dd (Qi rfl Q3 rfl (k91.cell (k := (i / 4)) (Kn (by rw [show (Zt zs i).length = 80 from (Yf _ _)]; exact (by omega))))) rfl
       refine Dc (fun Wd hd => ?_) ?_
       .
        exact Dd (Qe5 (r := QX (Zt zs i) (i / 4) * 256) rfl rfl rfl (by decide) (by decide) (by rw [Yp, show (2 : Int) ^ (8 : Int).toNat = 256 from by decide]; omega)) rfl
       refine Dc (fun Wd hd => ?_) ?_
       .
        exact Dd (Qt rfl rfl) rfl
       refine Dc (fun Wd hd => ?_) ?_
       .
        exact Dd (Qt rfl rfl) rfl
       refine Dc (fun Wd hd => ?_) ?_
       .
        exact Dd (Qt rfl rfl) rfl
       refine Dc (fun Wd hd => ?_) ?_
       .
        exact Dd (QR (r := ((q * 64 : Nat) : Int) + (i : Int)) rfl rfl rfl (Qm (by omega))) rfl
       refine Dc (fun Wd hd => ?_) ?_
       .
        have hA := hA.below hd
        exact (XH (q * 64 + i) rfl QH rfl rfl hA (by omega) (Qao ez)).mono (fun v W' h => ⟨by rw [<- h.1]; exact Below.refl _ _, by rw [<- h.1]; exact h.2⟩)
       refine Dc (fun Wd hd => ?_) ?_
       .
        intro u27_13 p27_13
        exact Dd (Zn rfl X1 rfl p27_13) rfl
       refine Dc (fun Wd hd => ?_) ?_
       .
        exact Dd (XP (r := (QX zs i)) rfl Tryd.underlying5 Tryd.underlying149 rfl (Uq (by omega))) rfl
       refine Dc (fun Wd hd => ?_) ?_
       .
        exact Dd (Jn (r := QX (Zt zs i) (i / 4) * 256 + (QX zs i)) rfl rfl rfl (QdQ _ _ (by omega) (by omega))) rfl
       exact trivial
      .
       intro W105 b106
       intro u27_13 p27_13
       replace hT := hT.below b106
       replace hA := hA.below b106
       replace k10 := k10.below b106
       replace k64 := k64.below b106
       replace k91 := k91.below b106
       replace hB := Qe hB b106
       replace hL := LL.below hL b106
       refine Va (QU (o1 := (i / 4)) rfl Tryd.underlying154 QB rfl rfl (by omega) (by first | (simp; done) | omega)) rfl rfl ?_
       refine WL.do (Qh (cs' := Z1 ((Zt zs i).set (i / 4) (QX (Zt zs i) (i / 4) * 256 + (QX zs i)))) (vs := [.int .u64 (QX (Zt zs i) (i / 4) * 256 + (QX zs i))]) rfl QB rfl rfl rfl (oC rfl Qk) k91 rfl (by rw [VM, show (Zt zs i).length = 80 from (Yf _ _)]; exact (by omega)) (Qdz (by rw [show (Zt zs i).length = 80 from (Yf _ _)]; exact (by omega)))) rfl ?_
       rintro _ W107 ⟨k109, o108⟩
       replace k10 := k10.other o108 n94
       replace k64 := k64.other o108 n95
       clear k91
       replace hT := hT.only o108 (.head _)
       replace hA := hA.only o108 (.head _)
       replace hB := o108.below hB l96
       replace hL := LL.only hL o108
       refine Ni (hK104 (Rg (Pu rfl (Va (QR (r := (i : Int) + 1) rfl rfl rfl (Qm (by omega))) rfl rfl (Pu rfl (Ni ?_))))))
       rw [Ej zs hzl i (by omega)] at k109
       exact hK99 (i + 1) ⟨(by omega), hB, hL, hT, hA, k10, k64, k109⟩ (by omega) (by repeat first | exact trivial | refine aR ?_ | refine aI (by omega) ?_)
     .
      replace c103 := dF c103
      refine WC.exit ?_
      refine hK97 (Sq fun K110 hK110 => (Sq fun K111 hK111 => (Rg (Pu rfl (Ni (hK111 (WC.block ?_)))))))
      have hi6 : i = 64 := by omega
      subst hi6
      rw [E4 zs hzl] at k91
      refine WC.loop (fun (k : Nat) => [(1, .int .i64 32), (5, .pointer (some ⟨w.heap.size, 0, none⟩)), (6, .int .i64 64), (7, ov2), (10, .pointer (some ⟨W49.heap.size, 0, none⟩)), (12, .int .i64 4), (13, .int .i64 ((q * 64 : Nat) : Int)), (14, .pointer (some ⟨W84.heap.size, 0, none⟩)), (16, .int .i64 ((k + 16 : Nat) : Int))]) (fun (k : Nat) W => k <= 48 /\ Below w.heap.size w W /\ LL (W84.heap.size :: W49.heap.size :: w.heap.size :: L) W /\ Vr (W84.heap.size :: W49.heap.size :: w.heap.size :: L) W /\ QD 1 (W84.heap.size :: W49.heap.size :: w.heap.size :: L) W ov2 ((Zb D).map e8) /\ Xc W w.heap.size [.int .i64 2, .int .i64 13, .int .i64 22, .int .i64 6, .int .i64 11, .int .i64 25, .int .i64 7, .int .i64 18, .int .i64 3, .int .i64 17, .int .i64 19, .int .i64 10] /\ Xc W W49.heap.size (Z1 st) /\ Xc W W84.heap.size (Z1 (Qp zs k))) (fun (k : Nat) => 48 - k) 0 (by repeat first | exact trivial | refine aR ?_ | refine aI (by omega) ?_) ⟨Nat.zero_le _, hB, hL, hT, hA, k10, k64, k91⟩ ?_
      clear hT hA k10 k64 k91 hB hL
      rintro K112 k W113 ⟨hk, hB, hL, hT, hA, k10, k64, k91⟩ hK112
      refine Sq fun K114 hK114 => (Sq fun K115 hK115 => (Rg (Pu rfl (Pu rfl (Va (Xe rfl rfl rfl) rfl rfl (Ni (hK115 ?_)))))))
      refine WC.cond rfl (fun c116 => ?_) (fun c116 => ?_)
      .
       replace c116 := dT c116
       refine WC.skip (hK114 (Sq fun K117 hK117 => (WC.block ?_)))
       have hsi2 := Vf (p := Zo) Z3 (Ut hzb hzl k)
       refine dM 30 [(some 121, .is (.int .i64 ((k + 16 : Nat) : Int))), (some 122, .is (.int .i64 ((k + 16 : Nat) : Int))), (some 123, .is (.int .i64 (((k + 16 : Nat) : Int) - 16))), (some 124, .is (.pointer (some ⟨W84.heap.size, (k + 16 - 16), none⟩))), (some 125, .is (.int .u64 (QX (Qp zs k) (k + 16 - 16)))), (some 126, .is (.int .i64 ((k + 16 : Nat) : Int))), (some 127, .is (.int .i64 (((k + 16 : Nat) : Int) - 15))), (some 128, .is (.pointer (some ⟨W84.heap.size, (k + 16 - 15), none⟩))), (some 129, .is (.int .u64 (QX (Qp zs k) (k + 16 - 15)))), (some 130, .is (.pointer (some ⟨w.heap.size, 6, none⟩))), (some 131, .is (.agg #[.int .i64 7, .int .i64 18, .int .i64 3])), (some 132, .is (.int .i64 32)), (some 133, .is (.int .u64 (VL (QX (Qp zs k) (k + 16 - 15))))), (some 134, .is (.int .u64 ((QX (Qp zs k) (k + 16 - 16) + VL (QX (Qp zs k) (k + 16 - 15))) % 18446744073709551616))), (some 135, .is (.int .i64 ((k + 16 : Nat) : Int))), (some 136, .is (.int .i64 (((k + 16 : Nat) : Int) - 7))), (some 137, .is (.pointer (some ⟨W84.heap.size, (k + 16 - 7), none⟩))), (some 138, .is (.int .u64 (QX (Qp zs k) (k + 16 - 7)))), (some 139, .is (.int .u64 (((QX (Qp zs k) (k + 16 - 16) + VL (QX (Qp zs k) (k + 16 - 15))) % 18446744073709551616 + QX (Qp zs k) (k + 16 - 7)) % 18446744073709551616))), (some 140, .is (.int .i64 ((k + 16 : Nat) : Int))), (some 141, .is (.int .i64 (((k + 16 : Nat) : Int) - 2))), (some 142, .is (.pointer (some ⟨W84.heap.size, (k + 16 - 2), none⟩))), (some 143, .is (.int .u64 (QX (Qp zs k) (k + 16 - 2)))), (some 144, .is (.pointer (some ⟨w.heap.size, 9, none⟩))), (some 145, .is (.agg #[.int .i64 17, .int .i64 19, .int .i64 10])), (some 146, .is (.int .i64 32)), (some 147, .is (.int .u64 (Uz (QX (Qp zs k) (k + 16 - 2))))), (some 148, .is (.int .u64 ((((QX (Qp zs k) (k + 16 - 16) + VL (QX (Qp zs k) (k + 16 - 15))) % 18446744073709551616 + QX (Qp zs k) (k + 16 - 7)) % 18446744073709551616 + Uz (QX (Qp zs k) (k + 16 - 2))) % 18446744073709551616))), (some 149, .is (.int .i64 32)), (some 150, .is (.int .u64 (Y2 (Qp zs k) (16 + k))))] [[], [], [1], [2], [3], [], [5], [6], [7], [], [9], [], [8, 10, 11], [4, 12], [], [14], [15], [16], [13, 17], [], [19], [20], [21], [], [23], [], [22, 24, 25, 12], [18, 26], [], [27, 28, 26]] (by exact trivial) ?_ ?_
       .
        refine Dc (fun Wd hd => ?_) ?_
        .
         exact Dd (Qt rfl rfl) rfl
        refine Dc (fun Wd hd => ?_) ?_
        .
         exact Dd (Qt rfl rfl) rfl
        refine Dc (fun Wd hd => ?_) ?_
        .
         exact Dd (Zm (r := ((k + 16 : Nat) : Int) - 16) rfl rfl rfl (Qm (by omega))) rfl
        refine Dc (fun Wd hd => ?_) ?_
        .
         exact Dd (QU (o1 := (k + 16 - 16)) rfl Tryd.underlying154 QB rfl rfl (by omega) (by first | (simp; done) | omega)) rfl
        refine Dc (fun Wd hd => ?_) ?_
        .
         have k91 := k91.below hd
         exact Dd (Qi rfl Q3 rfl (k91.cell (k := (k + 16 - 16)) (Kn (by rw [show (Qp zs k).length = 80 from (Zi _ _)]; exact (by omega))))) rfl
        refine Dc (fun Wd hd => ?_) ?_
        .
         exact Dd (Qt rfl rfl) rfl
        refine Dc (fun Wd hd => ?_) ?_
        .
         exact Dd (Zm (r := ((k + 16 : Nat) : Int) - 15) rfl rfl rfl (Qm (by omega))) rfl
        refine Dc (fun Wd hd => ?_) ?_
        .
         exact Dd (QU (o1 := (k + 16 - 15)) rfl Tryd.underlying154 QB rfl rfl (by omega) (by first | (simp; done) | omega)) rfl
        refine Dc (fun Wd hd => ?_) ?_
        .
         have k91 := k91.below hd
         exact Dd (Qi rfl Q3 rfl (k91.cell (k := (k + 16 - 15)) (Kn (by rw [show (Qp zs k).length = 80 from (Zi _ _)]; exact (by omega))))) rfl
        refine Dc (fun Wd hd => ?_) ?_
        .
         exact Dd (QU (o1 := 6) rfl Tryd.underlying152 Y7 rfl rfl (by decide) rfl) rfl
        refine Dc (fun Wd hd => ?_) ?_
        .
         have k10 := k10.below hd
         exact Dd (Qg (cs := [.int .i64 7, .int .i64 18, .int .i64 3]) rfl Vt rfl (k10.part 6 3) rfl) rfl
        refine Dc (fun Wd hd => ?_) ?_
        .
         exact Dd (Qt rfl rfl) rfl
        refine Dc (fun Wd hd => ?_) ?_
        .
         exact DR.mono (QQ rfl Tryd.func101 rfl rfl rfl ((show CV _ _ [_, _, _, _] _ (fun v _ => v = .int .u64 (VL (QX (Qp zs k) (k + 16 - 15)))) from Gi (UJ (QX (Qp zs k) (k + 16 - 15)) 7 18 3 Wd (hsi2 _) (by decide) (by decide) (by decide))))) (fun v W' ⟨h, hb⟩ => ⟨hb, (by rw [h]; exact rfl)⟩)
        refine Dc (fun Wd hd => ?_) ?_
        .
         exact Dd (QR rfl rfl rfl (Yp _)) rfl
        refine Dc (fun Wd hd => ?_) ?_
        .
         exact Dd (Qt rfl rfl) rfl
        refine Dc (fun Wd hd => ?_) ?_
        .
         exact Dd (Zm (r := ((k + 16 : Nat) : Int) - 7) rfl rfl rfl (Qm (by omega))) rfl
        refine Dc (fun Wd hd => ?_) ?_
        .
         exact Dd (QU (o1 := (k + 16 - 7)) rfl Tryd.underlying154 QB rfl rfl (by omega) (by first | (simp; done) | omega)) rfl
        refine Dc (fun Wd hd => ?_) ?_
        .
         have k91 := k91.below hd
         exact Dd (Qi rfl Q3 rfl (k91.cell (k := (k + 16 - 7)) (Kn (by rw [show (Qp zs k).length = 80 from (Zi _ _)]; exact (by omega))))) rfl
        refine Dc (fun Wd hd => ?_) ?_
        .
         exact Dd (QR rfl rfl rfl (Yp _)) rfl
        refine Dc (fun Wd hd => ?_) ?_
        .
         exact Dd (Qt rfl rfl) rfl
        refine Dc (fun Wd hd => ?_) ?_
        .
         exact Dd (Zm (r := ((k + 16 : Nat) : Int) - 2) rfl rfl rfl (Qm (by omega))) rfl
        refine Dc (fun Wd hd => ?_) ?_
        .
         exact Dd (QU (o1 := (k + 16 - 2)) rfl Tryd.underlying154 QB rfl rfl (by omega) (by first | (simp; done) | omega)) rfl
        refine Dc (fun Wd hd => ?_) ?_
        .
         have k91 := k91.below hd
         exact Dd (Qi rfl Q3 rfl (k91.cell (k := (k + 16 - 2)) (Kn (by rw [show (Qp zs k).length = 80 from (Zi _ _)]; exact (by omega))))) rfl
        refine Dc (fun Wd hd => ?_) ?_
        .
         exact Dd (QU (o1 := 9) rfl Tryd.underlying152 Y7 rfl rfl (by decide) rfl) rfl
        refine Dc (fun Wd hd => ?_) ?_
        .
         have k10 := k10.below hd
         exact Dd (Qg (cs := [.int .i64 17, .int .i64 19, .int .i64 10]) rfl Vt rfl (k10.part 9 3) rfl) rfl
        refine Dc (fun Wd hd => ?_) ?_
        .
         exact Dd (Qt rfl rfl) rfl
        refine Dc (fun Wd hd => ?_) ?_
        .
         exact DR.mono (QQ rfl Tryd.func101 rfl rfl rfl ((show CV _ _ [_, _, _, _] _ (fun v _ => v = .int .u64 (Uz (QX (Qp zs k) (k + 16 - 2)))) from Gi (UJ (QX (Qp zs k) (k + 16 - 2)) 17 19 10 Wd (hsi2 _) (by decide) (by decide) (by decide))))) (fun v W' ⟨h, hb⟩ => ⟨hb, (by rw [h]; exact rfl)⟩)
        refine Dc (fun Wd hd => ?_) ?_
        .
         exact Dd (QR rfl rfl rfl (Yp _)) rfl
        refine Dc (fun Wd hd => ?_) ?_
        .
         exact Dd (Qt rfl rfl) rfl
        refine Dc (fun Wd hd => ?_) ?_
        .
         exact DR.mono (QQ rfl Tryd.func100 rfl rfl rfl ((show CV _ _ [_, _] _ (fun v _ => v = .int .u64 (Y2 (Qp zs k) (16 + k))) from CV.mono (JN (Yc ((((QX (Qp zs k) (k + 16 - 16) + VL (QX (Qp zs k) (k + 16 - 15))) % 18446744073709551616 + QX (Qp zs k) (k + 16 - 7)) % 18446744073709551616 + Uz (QX (Qp zs k) (k + 16 - 2))) % 18446744073709551616) Wd (KA _))) fun v _ _ h => h.trans (congrArg (Value.int .u64) (show (((QX (Qp zs k) (k + 16 - 16) + VL (QX (Qp zs k) (k + 16 - 15))) % 18446744073709551616 + QX (Qp zs k) (k + 16 - 7)) % 18446744073709551616 + Uz (QX (Qp zs k) (k + 16 - 2))) % 18446744073709551616 % 4294967296 = Y2 (Qp zs k) (16 + k) from by rw [show 16 + k = k + 16 from Nat.add_comm _ _]; exact Qa3 (Qp zs k) (k + 16) _ _ _ _ rfl rfl rfl rfl))))) (fun v W' ⟨h, hb⟩ => ⟨hb, (by rw [h]; exact rfl)⟩)
        exact trivial
       .
        intro W118 b119
        replace hT := hT.below b119
        replace hA := hA.below b119
        replace k10 := k10.below b119
        replace k64 := k64.below b119
        replace k91 := k91.below b119
        replace hB := Qe hB b119
        replace hL := LL.below hL b119
        refine Va (QU (o1 := (k + 16)) rfl Tryd.underlying154 QB rfl rfl (by omega) (by first | (simp; done) | omega)) rfl rfl ?_
        refine WL.do (Qh (cs' := Z1 ((Qp zs k).set (k + 16) (Y2 (Qp zs k) (16 + k)))) (vs := [.int .u64 (Y2 (Qp zs k) (16 + k))]) rfl QB rfl rfl rfl (oC rfl Qk) k91 rfl (by rw [VM, show (Qp zs k).length = 80 from (Zi _ _)]; exact (by omega)) (Qdz (by rw [show (Qp zs k).length = 80 from (Zi _ _)]; exact (by omega)))) rfl ?_
        rintro _ W120 ⟨k122, o121⟩
        replace k10 := k10.other o121 n94
        replace k64 := k64.other o121 n95
        clear k91
        replace hT := hT.only o121 (.head _)
        replace hA := hA.only o121 (.head _)
        replace hB := o121.below hB l96
        replace hL := LL.only hL o121
        refine Ni (hK117 (Rg (Pu rfl (Va (QR (r := ((k + 1 + 16 : Nat) : Int)) rfl rfl rfl (by rw [Qm (by omega)]; omega)) rfl rfl (Pu rfl (Ni ?_))))))
        replace k122 : Xc W120 W84.heap.size (Z1 (Qp zs (k + 1))) := by rw [show k + 16 = 16 + k from Nat.add_comm _ _] at k122; exact k122
        exact hK112 (k + 1) ⟨(by omega), hB, hL, hT, hA, k10, k64, k122⟩ (by omega) (by repeat first | exact trivial | refine aR ?_ | refine aI (by omega) ?_)
      .
       replace c116 := dF c116
       refine WC.exit ?_
       refine hK110 (Sq fun K123 hK123 => (Rg (Va (Qg rfl Fc rfl k64.range (by rw [VM]; exact hsl)) rfl rfl ?_)))
       refine Ge (Qu (cs := Z1 (List.replicate 8 0)) rfl KQ EB) rfl rfl ?_
       rintro _ W124 ⟨rfl, k125, b126, z127⟩
       have n128 : w.heap.size ≠ W113.heap.size := Nat.ne_of_lt k10.lt
       have n129 : W49.heap.size ≠ W113.heap.size := Nat.ne_of_lt k64.lt
       have n130 : W84.heap.size ≠ W113.heap.size := Nat.ne_of_lt k91.lt
       have l131 := hB.size
       replace hT := hT.more b126 (Nat.le_refl _)
       replace hA := hA.more b126 (Nat.le_refl _)
       replace k10 := k10.below b126
       replace k64 := k64.below b126
       replace k91 := k91.below b126
       replace hB := Qe hB b126
       replace hL := LL.more hL z127
       refine WL.do (Qx (vs := (Z1 st)) rfl Jt rfl rfl rfl (QfI st) k125 (by rw [VM]; exact hsl) (by rw [VM, List.length_replicate])) rfl ?_
       rintro _ W132 ⟨k134, o133⟩
       replace k10 := k10.other o133 n128
       replace k64 := k64.other o133 n129
       replace k91 := k91.other o133 n130
       clear k125
       replace hT := hT.only o133 (.head _)
       replace hA := hA.only o133 (.head _)
       replace hB := o133.below hB l131
       replace hL := LL.only hL o133
       refine Ni (hK123 (Sq fun K135 hK135 => (Sq fun K136 hK136 => (Rg (Pu rfl (Ni (hK136 ?_)))))))
       refine WC.block ?_
       have hks : k = 48 := by omega
       subst hks
       replace k134 : Xc W132 W113.heap.size [.int .u64 (QL (Qp zs 48) (Q6 st) 0).a, .int .u64 (QL (Qp zs 48) (Q6 st) 0).b, .int .u64 (QL (Qp zs 48) (Q6 st) 0).c, .int .u64 (QL (Qp zs 48) (Q6 st) 0).d, .int .u64 (QL (Qp zs 48) (Q6 st) 0).e, .int .u64 (QL (Qp zs 48) (Q6 st) 0).f, .int .u64 (QL (Qp zs 48) (Q6 st) 0).g, .int .u64 (QL (Qp zs 48) (Q6 st) 0).h] := by rw [Qfu hsl] at k134; exact k134
       have hok := VW (m := Qp zs 48) (Dj hsi)
       refine WC.loop (fun (i : Nat) => [(1, .int .i64 32), (5, .pointer (some ⟨w.heap.size, 0, none⟩)), (6, .int .i64 64), (7, ov2), (10, .pointer (some ⟨W49.heap.size, 0, none⟩)), (12, .int .i64 4), (13, .int .i64 ((q * 64 : Nat) : Int)), (14, .pointer (some ⟨W84.heap.size, 0, none⟩)), (17, .pointer (some ⟨W113.heap.size, 0, none⟩)), (18, .int .i64 (i : Int))]) (fun (i : Nat) W => i <= 64 /\ Below w.heap.size w W /\ LL (W113.heap.size :: W84.heap.size :: W49.heap.size :: w.heap.size :: L) W /\ Vr (W113.heap.size :: W84.heap.size :: W49.heap.size :: w.heap.size :: L) W /\ QD 1 (W113.heap.size :: W84.heap.size :: W49.heap.size :: w.heap.size :: L) W ov2 ((Zb D).map e8) /\ Xc W w.heap.size [.int .i64 2, .int .i64 13, .int .i64 22, .int .i64 6, .int .i64 11, .int .i64 25, .int .i64 7, .int .i64 18, .int .i64 3, .int .i64 17, .int .i64 19, .int .i64 10] /\ Xc W W49.heap.size (Z1 st) /\ Xc W W84.heap.size (Z1 (Qp zs 48)) /\ Xc W W113.heap.size [.int .u64 ((QL (Qp zs 48) (Q6 st) i).a), .int .u64 ((QL (Qp zs 48) (Q6 st) i).b), .int .u64 ((QL (Qp zs 48) (Q6 st) i).c), .int .u64 ((QL (Qp zs 48) (Q6 st) i).d), .int .u64 ((QL (Qp zs 48) (Q6 st) i).e), .int .u64 ((QL (Qp zs 48) (Q6 st) i).f), .int .u64 ((QL (Qp zs 48) (Q6 st) i).g), .int .u64 ((QL (Qp zs 48) (Q6 st) i).h)]) (fun (i : Nat) => 64 - i) 0 (by repeat first | exact trivial | refine aR ?_ | refine aI (by omega) ?_) ⟨Nat.zero_le _, hB, hL, hT, hA, k10, k64, k91, k134⟩ ?_
       clear hT hA k10 k64 k91 k134 hB hL
       rintro K137 i W138 ⟨hi, hB, hL, hT, hA, k10, k64, k91, k134⟩ hK137
       obtain ⟨ev, hev⟩ : ∃ e, e = (QL (Qp zs 48) (Q6 st) i) := ⟨_, rfl⟩
       rw [<- hev] at k134
       have hokv := hok i
       rw [<- hev] at hokv
       refine Sq fun K139 hK139 => (Sq fun K140 hK140 => (Rg (Pu rfl (Pu rfl (Va (Xe rfl rfl rfl) rfl rfl (Ni (hK140 ?_)))))))
       refine WC.cond rfl (fun c141 => ?_) (fun c141 => ?_)
       .
        replace c141 := dT c141
        refine WC.skip (hK139 (Sq fun K142 hK142 => (WC.block (Sq fun K143 hK143 => ?_))))
        refine dM 35 ((some 158, .is (.pointer (some ⟨W113.heap.size, 7, none⟩))) :: (some 159, .is (.int .u64 ev.h)) :: (some 160, .is (.pointer (some ⟨W113.heap.size, 4, none⟩))) :: (some 161, .is (.int .u64 ev.e)) :: (some 162, .is (.pointer (some ⟨w.heap.size, 3, none⟩))) :: (some 163, .is (.agg #[.int .i64 6, .int .i64 11, .int .i64 25])) :: (some 164, .is (.int .i64 32)) :: (some 165, .is (.int .u64 (VQ ev.e))) :: (some 166, .is (.int .u64 ((ev.h + VQ ev.e) % 18446744073709551616))) :: (some 167, .is (.pointer (some ⟨W113.heap.size, 4, none⟩))) :: (some 168, .is (.int .u64 ev.e)) :: (some 169, .is (.pointer (some ⟨W113.heap.size, 5, none⟩))) :: (some 170, .is (.int .u64 ev.f)) :: (some 171, .is (.int .u64 (bits BinOp.and .u64 ev.e ev.f))) :: (some 172, .is (.pointer (some ⟨W113.heap.size, 4, none⟩))) :: (some 173, .is (.int .u64 ev.e)) :: (some 174, .is (.int .u64 (Vs ev.e))) :: (some 175, .is (.pointer (some ⟨W113.heap.size, 6, none⟩))) :: (some 176, .is (.int .u64 ev.g)) :: (some 177, .is (.int .u64 (bits BinOp.and .u64 (Vs ev.e) ev.g))) :: (some 178, .is (.int .u64 (bits BinOp.xor .u64 (bits BinOp.and .u64 ev.e ev.f) (bits BinOp.and .u64 (Vs ev.e) ev.g)))) :: (some 179, .is (.int .u64 (((ev.h + VQ ev.e) % 18446744073709551616 + bits BinOp.xor .u64 (bits BinOp.and .u64 ev.e ev.f) (bits BinOp.and .u64 (Vs ev.e) ev.g)) % 18446744073709551616))) :: (some 180, .is (.int .i64 (i : Int))) :: (some 181, .is (.pointer (some ⟨2, i, none⟩))) :: (some 182, .is (.int .u64 (QX YD i))) :: (some 183, .is (.int .i64 32)) :: (some 184, .is (.int .i64 32)) :: (some 185, .is (.int .u64 32)) :: (some 186, .is (.int .u64 (QX YD i / 4294967296))) :: (some 187, .is (.int .u64 ((((ev.h + VQ ev.e) % 18446744073709551616 + bits BinOp.xor .u64 (bits BinOp.and .u64 ev.e ev.f) (bits BinOp.and .u64 (Vs ev.e) ev.g)) % 18446744073709551616 + QX YD i / 4294967296) % 18446744073709551616))) :: (some 188, .is (.int .i64 (i : Int))) :: (some 189, .is (.pointer (some ⟨W84.heap.size, i, none⟩))) :: (some 190, .is (.int .u64 (QX (Qp zs 48) i))) :: (some 191, .is (.int .u64 (((((ev.h + VQ ev.e) % 18446744073709551616 + bits BinOp.xor .u64 (bits BinOp.and .u64 ev.e ev.f) (bits BinOp.and .u64 (Vs ev.e) ev.g)) % 18446744073709551616 + QX YD i / 4294967296) % 18446744073709551616 + QX (Qp zs 48) i) % 18446744073709551616))) :: (some 192, .is (.int .i64 32)) :: []) [[], [0], [], [2], [], [4], [], [3, 5, 6], [1, 7], [], [9], [], [11], [10, 12], [], [14], [15], [], [17], [16, 18], [13, 19], [8, 20], [], [22], [23], [], [25], [26], [24, 27], [21, 28], [], [30], [31], [29, 32], []] (by exact trivial) ?_ ?_
        .
         refine Dc (fun Wd hd => ?_) ?_
         .
          exact Dd (QU (o1 := 7) rfl Tryd.underlying150 QB rfl rfl (by decide) rfl) rfl
         refine Dc (fun Wd hd => ?_) ?_
         .
          have k134 := k134.below hd
          exact Dd (Qi rfl Q3 rfl (k134.cell (k := 7) rfl)) rfl
         refine Dc (fun Wd hd => ?_) ?_
         .
          exact Dd (QU (o1 := 4) rfl Tryd.underlying150 QB rfl rfl (by decide) rfl) rfl
         refine Dc (fun Wd hd => ?_) ?_
         .
          have k134 := k134.below hd
          exact Dd (Qi rfl Q3 rfl (k134.cell (k := 4) rfl)) rfl
         refine Dc (fun Wd hd => ?_) ?_
         .
          exact Dd (QU (o1 := 3) rfl Tryd.underlying152 Y7 rfl rfl (by decide) rfl) rfl
         refine Dc (fun Wd hd => ?_) ?_
         .
          have k10 := k10.below hd
          exact Dd (Qg (cs := [.int .i64 6, .int .i64 11, .int .i64 25]) rfl Vt rfl (k10.part 3 3) rfl) rfl
         refine Dc (fun Wd hd => ?_) ?_
         .
          exact Dd (Qt rfl rfl) rfl
         refine Dc (fun Wd hd => ?_) ?_
         .
          exact DR.mono (QQ rfl Tryd.func101 rfl rfl rfl ((show CV _ _ [_, _, _, _] _ (fun v _ => v = .int .u64 (VQ ev.e)) from Gi (Ue ev.e 6 11 25 Wd hokv.2.2.2.2.1 (by decide) (by decide) (by decide))))) (fun v W' ⟨h, hb⟩ => ⟨hb, (by rw [h]; exact rfl)⟩)
         refine Dc (fun Wd hd => ?_) ?_
         .
          exact Dd (QR rfl rfl rfl (Yp _)) rfl
         refine Dc (fun Wd hd => ?_) ?_
         .
          exact Dd (QU (o1 := 4) rfl Tryd.underlying150 QB rfl rfl (by decide) rfl) rfl
         refine Dc (fun Wd hd => ?_) ?_
         .
          have k134 := k134.below hd
          exact Dd (Qi rfl Q3 rfl (k134.cell (k := 4) rfl)) rfl
         refine Dc (fun Wd hd => ?_) ?_
         .
          exact Dd (QU (o1 := 5) rfl Tryd.underlying150 QB rfl rfl (by decide) rfl) rfl
         refine Dc (fun Wd hd => ?_) ?_
         .
          have k134 := k134.below hd
          exact Dd (Qi rfl Q3 rfl (k134.cell (k := 5) rfl)) rfl
         refine Dc (fun Wd hd => ?_) ?_
         .
          exact Dd (VP (r := bits BinOp.and .u64 ev.e ev.f) rfl rfl rfl rfl) rfl
         refine Dc (fun Wd hd => ?_) ?_
         .
          exact Dd (QU (o1 := 4) rfl Tryd.underlying150 QB rfl rfl (by decide) rfl) rfl
         refine Dc (fun Wd hd => ?_) ?_
         .
          have k134 := k134.below hd
          exact Dd (Qi rfl Q3 rfl (k134.cell (k := 4) rfl)) rfl
         refine Dc (fun Wd hd => ?_) ?_
         .
          exact Dd (Qe3 rfl rfl) rfl
         refine Dc (fun Wd hd => ?_) ?_
         .
          exact Dd (QU (o1 := 6) rfl Tryd.underlying150 QB rfl rfl (by decide) rfl) rfl
         refine Dc (fun Wd hd => ?_) ?_
         .
          have k134 := k134.below hd
          exact Dd (Qi rfl Q3 rfl (k134.cell (k := 6) rfl)) rfl
         refine Dc (fun Wd hd => ?_) ?_
         .
          exact Dd (VP (r := bits BinOp.and .u64 (Vs ev.e) ev.g) rfl rfl rfl rfl) rfl
         refine Dc (fun Wd hd => ?_) ?_
         .
          exact Dd (G9 (r := bits BinOp.xor .u64 (bits BinOp.and .u64 ev.e ev.f) (bits BinOp.and .u64 (Vs ev.e) ev.g)) rfl rfl rfl rfl) rfl
         refine Dc (fun Wd hd => ?_) ?_
         .
          exact Dd (QR rfl rfl rfl (Yp _)) rfl
         refine Dc (fun Wd hd => ?_) ?_
         .
          exact Dd (Qt rfl rfl) rfl
         refine Dc (fun Wd hd => ?_) ?_
         .
          exact Dd (QU (o1 := i) rfl Tryd.underlying154 QB rfl rfl (by omega) (by first | (simp; done) | omega)) rfl
         refine Dc (fun Wd hd => ?_) ?_
         .
          have hT := hT.below hd
          exact Dd (Qi rfl Q3 rfl (hT.1.ro i (by omega))) rfl
         refine Dc (fun Wd hd => ?_) ?_
         .
          exact Dd (Qt rfl rfl) rfl
         refine Dc (fun Wd hd => ?_) ?_
         .
          exact Dd (Zm (r := 32) rfl rfl rfl (by decide)) rfl
         refine Dc (fun Wd hd => ?_) ?_
         .
          exact Dd (XP (r := 32) rfl Tryd.underlying3 Tryd.underlying105 rfl (by decide)) rfl
         refine Dc (fun Wd hd => ?_) ?_
         .
          exact Dd (Fx (r := QX YD i / 4294967296) rfl rfl rfl (by decide) (by decide) rfl) rfl
         refine Dc (fun Wd hd => ?_) ?_
         .
          exact Dd (QR rfl rfl rfl (Yp _)) rfl
         refine Dc (fun Wd hd => ?_) ?_
         .
          exact Dd (Qt rfl rfl) rfl
         refine Dc (fun Wd hd => ?_) ?_
         .
          exact Dd (QU (o1 := i) rfl Tryd.underlying154 QB rfl rfl (by omega) (by first | (simp; done) | omega)) rfl
         refine Dc (fun Wd hd => ?_) ?_
         .
          have k91 := k91.below hd
          exact Dd (Qi rfl Q3 rfl (k91.cell (k := i) (Kn (by rw [show (Qp zs 48).length = 80 from (Zi _ _)]; exact (by omega))))) rfl
         refine Dc (fun Wd hd => ?_) ?_
         .
          exact Dd (QR rfl rfl rfl (Yp _)) rfl
         refine Dc (fun Wd hd => ?_) ?_
         .
          exact Dd (Qt rfl rfl) rfl
         exact trivial
        .
         intro W144 b145
         replace hT := hT.below b145
         replace hA := hA.below b145
         replace k10 := k10.below b145
         replace k64 := k64.below b145
         replace k91 := k91.below b145
         replace k134 := k134.below b145
         replace hB := Qe hB b145
         replace hL := LL.below hL b145
         refine Ge (QQ rfl Tryd.func100 rfl rfl rfl ((show CV _ _ [_, _] _ (fun v _ => v = .int .u64 (YS (Qp zs 48) i ev)) from CV.mono (JN (Yc (((((ev.h + VQ ev.e) % 18446744073709551616 + bits BinOp.xor .u64 (bits BinOp.and .u64 ev.e ev.f) (bits BinOp.and .u64 (Vs ev.e) ev.g)) % 18446744073709551616 + QX YD i / 4294967296) % 18446744073709551616 + QX (Qp zs 48) i) % 18446744073709551616) W144 (KA _))) fun v _ _ h => h.trans (congrArg (Value.int .u64) (show ((((ev.h + VQ ev.e) % 18446744073709551616 + bits BinOp.xor .u64 (bits BinOp.and .u64 ev.e ev.f) (bits BinOp.and .u64 (Vs ev.e) ev.g)) % 18446744073709551616 + QX YD i / 4294967296) % 18446744073709551616 + QX (Qp zs 48) i) % 18446744073709551616 % 4294967296 = YS (Qp zs 48) i ev from QeA (Qp zs 48) i ev hokv))))) rfl rfl ?_
         rintro _ W147 ⟨rfl, b146⟩
         replace hT := hT.below b146
         replace hA := hA.below b146
         replace k10 := k10.below b146
         replace k64 := k64.below b146
         replace k91 := k91.below b146
         replace k134 := k134.below b146
         replace hB := Qe hB b146
         replace hL := LL.below hL b146
         refine Pu rfl (Ni (hK143 (Sq fun K148 hK148 => ?_)))
         refine dM 25 [(some 194, .is (.pointer (some ⟨W113.heap.size, 0, none⟩))), (some 195, .is (.int .u64 ev.a)), (some 196, .is (.pointer (some ⟨w.heap.size, 0, none⟩))), (some 197, .is (.agg #[.int .i64 2, .int .i64 13, .int .i64 22])), (some 198, .is (.int .i64 32)), (some 199, .is (.int .u64 (U3 ev.a))), (some 200, .is (.pointer (some ⟨W113.heap.size, 0, none⟩))), (some 201, .is (.int .u64 ev.a)), (some 202, .is (.pointer (some ⟨W113.heap.size, 1, none⟩))), (some 203, .is (.int .u64 ev.b)), (some 204, .is (.int .u64 (bits BinOp.and .u64 ev.a ev.b))), (some 205, .is (.pointer (some ⟨W113.heap.size, 0, none⟩))), (some 206, .is (.int .u64 ev.a)), (some 207, .is (.pointer (some ⟨W113.heap.size, 2, none⟩))), (some 208, .is (.int .u64 ev.c)), (some 209, .is (.int .u64 (bits BinOp.and .u64 ev.a ev.c))), (some 210, .is (.int .u64 (bits BinOp.xor .u64 (bits BinOp.and .u64 ev.a ev.b) (bits BinOp.and .u64 ev.a ev.c)))), (some 211, .is (.pointer (some ⟨W113.heap.size, 1, none⟩))), (some 212, .is (.int .u64 ev.b)), (some 213, .is (.pointer (some ⟨W113.heap.size, 2, none⟩))), (some 214, .is (.int .u64 ev.c)), (some 215, .is (.int .u64 (bits BinOp.and .u64 ev.b ev.c))), (some 216, .is (.int .u64 (bits BinOp.xor .u64 (bits BinOp.xor .u64 (bits BinOp.and .u64 ev.a ev.b) (bits BinOp.and .u64 ev.a ev.c)) (bits BinOp.and .u64 ev.b ev.c)))), (some 217, .is (.int .u64 ((U3 ev.a + bits BinOp.xor .u64 (bits BinOp.xor .u64 (bits BinOp.and .u64 ev.a ev.b) (bits BinOp.and .u64 ev.a ev.c)) (bits BinOp.and .u64 ev.b ev.c)) % 18446744073709551616))), (some 218, .is (.int .i64 32))] [[], [0], [], [2], [], [1, 3, 4], [], [6], [], [8], [7, 9], [], [11], [], [13], [12, 14], [10, 15], [], [17], [], [19], [18, 20], [16, 21], [5, 22], []] (by exact trivial) ?_ ?_
         .
          refine Dc (fun Wd hd => ?_) ?_
          .
           exact Dd (QU (o1 := 0) rfl Tryd.underlying150 QB rfl rfl (by decide) rfl) rfl
          refine Dc (fun Wd hd => ?_) ?_
          .
           have k134 := k134.below hd
           exact Dd (Qi rfl Q3 rfl (k134.cell (k := 0) rfl)) rfl
          refine Dc (fun Wd hd => ?_) ?_
          .
           exact Dd (QU (o1 := 0) rfl Tryd.underlying152 Y7 rfl rfl (by decide) rfl) rfl
          refine Dc (fun Wd hd => ?_) ?_
          .
           have k10 := k10.below hd
           exact Dd (Qg (cs := [.int .i64 2, .int .i64 13, .int .i64 22]) rfl Vt rfl (k10.part 0 3) rfl) rfl
          refine Dc (fun Wd hd => ?_) ?_
          .
           exact Dd (Qt rfl rfl) rfl
          refine Dc (fun Wd hd => ?_) ?_
          .
           exact DR.mono (QQ rfl Tryd.func101 rfl rfl rfl ((show CV _ _ [_, _, _, _] _ (fun v _ => v = .int .u64 (U3 ev.a)) from Gi (Ue ev.a 2 13 22 Wd hokv.1 (by decide) (by decide) (by decide))))) (fun v W' ⟨h, hb⟩ => ⟨hb, (by rw [h]; exact rfl)⟩)
          refine Dc (fun Wd hd => ?_) ?_
          .
           exact Dd (QU (o1 := 0) rfl Tryd.underlying150 QB rfl rfl (by decide) rfl) rfl
          refine Dc (fun Wd hd => ?_) ?_
          .
           have k134 := k134.below hd
           exact Dd (Qi rfl Q3 rfl (k134.cell (k := 0) rfl)) rfl
          refine Dc (fun Wd hd => ?_) ?_
          .
           exact Dd (QU (o1 := 1) rfl Tryd.underlying150 QB rfl rfl (by decide) rfl) rfl
          refine Dc (fun Wd hd => ?_) ?_
          .
           have k134 := k134.below hd
           exact Dd (Qi rfl Q3 rfl (k134.cell (k := 1) rfl)) rfl
          refine Dc (fun Wd hd => ?_) ?_
          .
           exact Dd (VP (r := bits BinOp.and .u64 ev.a ev.b) rfl rfl rfl rfl) rfl
          refine Dc (fun Wd hd => ?_) ?_
          .
           exact Dd (QU (o1 := 0) rfl Tryd.underlying150 QB rfl rfl (by decide) rfl) rfl
          refine Dc (fun Wd hd => ?_) ?_
          .
           have k134 := k134.below hd
           exact Dd (Qi rfl Q3 rfl (k134.cell (k := 0) rfl)) rfl
          refine Dc (fun Wd hd => ?_) ?_
          .
           exact Dd (QU (o1 := 2) rfl Tryd.underlying150 QB rfl rfl (by decide) rfl) rfl
          refine Dc (fun Wd hd => ?_) ?_
          .
           have k134 := k134.below hd
           exact Dd (Qi rfl Q3 rfl (k134.cell (k := 2) rfl)) rfl
          refine Dc (fun Wd hd => ?_) ?_
          .
           exact Dd (VP (r := bits BinOp.and .u64 ev.a ev.c) rfl rfl rfl rfl) rfl
          refine Dc (fun Wd hd => ?_) ?_
          .
           exact Dd (G9 (r := bits BinOp.xor .u64 (bits BinOp.and .u64 ev.a ev.b) (bits BinOp.and .u64 ev.a ev.c)) rfl rfl rfl rfl) rfl
          refine Dc (fun Wd hd => ?_) ?_
          .
           exact Dd (QU (o1 := 1) rfl Tryd.underlying150 QB rfl rfl (by decide) rfl) rfl
          refine Dc (fun Wd hd => ?_) ?_
          .
           have k134 := k134.below hd
           exact Dd (Qi rfl Q3 rfl (k134.cell (k := 1) rfl)) rfl
          refine Dc (fun Wd hd => ?_) ?_
          .
           exact Dd (QU (o1 := 2) rfl Tryd.underlying150 QB rfl rfl (by decide) rfl) rfl
          refine Dc (fun Wd hd => ?_) ?_
          .
           have k134 := k134.below hd
           exact Dd (Qi rfl Q3 rfl (k134.cell (k := 2) rfl)) rfl
          refine Dc (fun Wd hd => ?_) ?_
          .
           exact Dd (VP (r := bits BinOp.and .u64 ev.b ev.c) rfl rfl rfl rfl) rfl
          refine Dc (fun Wd hd => ?_) ?_
          .
           exact Dd (G9 (r := bits BinOp.xor .u64 (bits BinOp.xor .u64 (bits BinOp.and .u64 ev.a ev.b) (bits BinOp.and .u64 ev.a ev.c)) (bits BinOp.and .u64 ev.b ev.c)) rfl rfl rfl rfl) rfl
          refine Dc (fun Wd hd => ?_) ?_
          .
           exact Dd (QR rfl rfl rfl (Yp _)) rfl
          refine Dc (fun Wd hd => ?_) ?_
          .
           exact Dd (Qt rfl rfl) rfl
          exact trivial
         .
          intro W149 b150
          replace hT := hT.below b150
          replace hA := hA.below b150
          replace k10 := k10.below b150
          replace k64 := k64.below b150
          replace k91 := k91.below b150
          replace k134 := k134.below b150
          replace hB := Qe hB b150
          replace hL := LL.below hL b150
          refine Ge (QQ rfl Tryd.func100 rfl rfl rfl ((show CV _ _ [_, _] _ (fun v _ => v = .int .u64 (Jo ev)) from CV.mono (JN (Yc ((U3 ev.a + bits BinOp.xor .u64 (bits BinOp.xor .u64 (bits BinOp.and .u64 ev.a ev.b) (bits BinOp.and .u64 ev.a ev.c)) (bits BinOp.and .u64 ev.b ev.c)) % 18446744073709551616) W149 (KA _))) fun v _ _ h => h.trans (congrArg (Value.int .u64) (show (U3 ev.a + bits BinOp.xor .u64 (bits BinOp.xor .u64 (bits BinOp.and .u64 ev.a ev.b) (bits BinOp.and .u64 ev.a ev.c)) (bits BinOp.and .u64 ev.b ev.c)) % 18446744073709551616 % 4294967296 = Jo ev from Qez ev hokv))))) rfl rfl ?_
          rintro _ W152 ⟨rfl, b151⟩
          replace hT := hT.below b151
          replace hA := hA.below b151
          replace k10 := k10.below b151
          replace k64 := k64.below b151
          replace k91 := k91.below b151
          replace k134 := k134.below b151
          replace hB := Qe hB b151
          replace hL := LL.below hL b151
          refine Pu rfl (Ni (hK148 ?_))
          refine dM 23 [(some 220, .is (.int .u64 (YS (Qp zs 48) i ev))), (some 221, .is (.int .u64 (Jo ev))), (some 222, .is (.int .u64 ((YS (Qp zs 48) i ev + Jo ev) % 18446744073709551616))), (some 223, .is (.int .i64 32)), (some 224, .is (.int .u64 ((YS (Qp zs 48) i ev + Jo ev) % 4294967296))), (some 225, .is (.pointer (some ⟨W113.heap.size, 0, none⟩))), (some 226, .is (.int .u64 ev.a)), (some 227, .is (.pointer (some ⟨W113.heap.size, 1, none⟩))), (some 228, .is (.int .u64 ev.b)), (some 229, .is (.pointer (some ⟨W113.heap.size, 2, none⟩))), (some 230, .is (.int .u64 ev.c)), (some 231, .is (.pointer (some ⟨W113.heap.size, 3, none⟩))), (some 232, .is (.int .u64 ev.d)), (some 233, .is (.int .u64 (YS (Qp zs 48) i ev))), (some 234, .is (.int .u64 ((ev.d + YS (Qp zs 48) i ev) % 18446744073709551616))), (some 235, .is (.int .i64 32)), (some 236, .is (.int .u64 ((ev.d + YS (Qp zs 48) i ev) % 4294967296))), (some 237, .is (.pointer (some ⟨W113.heap.size, 4, none⟩))), (some 238, .is (.int .u64 ev.e)), (some 239, .is (.pointer (some ⟨W113.heap.size, 5, none⟩))), (some 240, .is (.int .u64 ev.f)), (some 241, .is (.pointer (some ⟨W113.heap.size, 6, none⟩))), (some 242, .is (.int .u64 ev.g))] [[], [], [0, 1], [], [2, 3], [], [5], [], [7], [], [9], [], [11], [], [12, 13], [], [14, 15, 4], [], [17], [], [19], [], [21]] (by exact trivial) ?_ ?_
          .
           refine Dc (fun Wd hd => ?_) ?_
           .
            exact Dd (Qt rfl rfl) rfl
           refine Dc (fun Wd hd => ?_) ?_
           .
            exact Dd (Qt rfl rfl) rfl
           refine Dc (fun Wd hd => ?_) ?_
           .
            exact Dd (QR rfl rfl rfl (Yp _)) rfl
           refine Dc (fun Wd hd => ?_) ?_
           .
            exact Dd (Qt rfl rfl) rfl
           refine Dc (fun Wd hd => ?_) ?_
           .
            exact DR.mono (QQ rfl Tryd.func100 rfl rfl rfl ((show CV _ _ [_, _] _ (fun v _ => v = .int .u64 ((YS (Qp zs 48) i ev + Jo ev) % 4294967296)) from CV.mono (JN (Yc ((YS (Qp zs 48) i ev + Jo ev) % 18446744073709551616) Wd (KA _))) fun v _ _ h => h.trans (congrArg (Value.int .u64) (show (YS (Qp zs 48) i ev + Jo ev) % 18446744073709551616 % 4294967296 = (YS (Qp zs 48) i ev + Jo ev) % 4294967296 from KI _ _))))) (fun v W' ⟨h, hb⟩ => ⟨hb, (by rw [h]; exact rfl)⟩)
           refine Dc (fun Wd hd => ?_) ?_
           .
            exact Dd (QU (o1 := 0) rfl Tryd.underlying150 QB rfl rfl (by decide) rfl) rfl
           refine Dc (fun Wd hd => ?_) ?_
           .
            have k134 := k134.below hd
            exact Dd (Qi rfl Q3 rfl (k134.cell (k := 0) rfl)) rfl
           refine Dc (fun Wd hd => ?_) ?_
           .
            exact Dd (QU (o1 := 1) rfl Tryd.underlying150 QB rfl rfl (by decide) rfl) rfl
           refine Dc (fun Wd hd => ?_) ?_
           .
            have k134 := k134.below hd
            exact Dd (Qi rfl Q3 rfl (k134.cell (k := 1) rfl)) rfl
           refine Dc (fun Wd hd => ?_) ?_
           .
            exact Dd (QU (o1 := 2) rfl Tryd.underlying150 QB rfl rfl (by decide) rfl) rfl
           refine Dc (fun Wd hd => ?_) ?_
           .
            have k134 := k134.below hd
            exact Dd (Qi rfl Q3 rfl (k134.cell (k := 2) rfl)) rfl
           refine Dc (fun Wd hd => ?_) ?_
           .
            exact Dd (QU (o1 := 3) rfl Tryd.underlying150 QB rfl rfl (by decide) rfl) rfl
           refine Dc (fun Wd hd => ?_) ?_
           .
            have k134 := k134.below hd
            exact Dd (Qi rfl Q3 rfl (k134.cell (k := 3) rfl)) rfl
           refine Dc (fun Wd hd => ?_) ?_
           .
            exact Dd (Qt rfl rfl) rfl
           refine Dc (fun Wd hd => ?_) ?_
           .
            exact Dd (QR rfl rfl rfl (Yp _)) rfl
           refine Dc (fun Wd hd => ?_) ?_
           .
            exact Dd (Qt rfl rfl) rfl
           refine Dc (fun Wd hd => ?_) ?_
           .
            exact DR.mono (QQ rfl Tryd.func100 rfl rfl rfl ((show CV _ _ [_, _] _ (fun v _ => v = .int .u64 ((ev.d + YS (Qp zs 48) i ev) % 4294967296)) from CV.mono (JN (Yc ((ev.d + YS (Qp zs 48) i ev) % 18446744073709551616) Wd (KA _))) fun v _ _ h => h.trans (congrArg (Value.int .u64) (show (ev.d + YS (Qp zs 48) i ev) % 18446744073709551616 % 4294967296 = (ev.d + YS (Qp zs 48) i ev) % 4294967296 from KI _ _))))) (fun v W' ⟨h, hb⟩ => ⟨hb, (by rw [h]; exact rfl)⟩)
           refine Dc (fun Wd hd => ?_) ?_
           .
            exact Dd (QU (o1 := 4) rfl Tryd.underlying150 QB rfl rfl (by decide) rfl) rfl
           refine Dc (fun Wd hd => ?_) ?_
           .
            have k134 := k134.below hd
            exact Dd (Qi rfl Q3 rfl (k134.cell (k := 4) rfl)) rfl
           refine Dc (fun Wd hd => ?_) ?_
           .
            exact Dd (QU (o1 := 5) rfl Tryd.underlying150 QB rfl rfl (by decide) rfl) rfl
           refine Dc (fun Wd hd => ?_) ?_
           .
            have k134 := k134.below hd
            exact Dd (Qi rfl Q3 rfl (k134.cell (k := 5) rfl)) rfl
           refine Dc (fun Wd hd => ?_) ?_
           .
            exact Dd (QU (o1 := 6) rfl Tryd.underlying150 QB rfl rfl (by decide) rfl) rfl
           refine Dc (fun Wd hd => ?_) ?_
           .
            have k134 := k134.below hd
            exact Dd (Qi rfl Q3 rfl (k134.cell (k := 6) rfl)) rfl
           exact trivial
          .
           intro W153 b154
           replace hT := hT.below b154
           replace hA := hA.below b154
           replace k10 := k10.below b154
           replace k64 := k64.below b154
           replace k91 := k91.below b154
           replace k134 := k134.below b154
           replace hB := Qe hB b154
           replace hL := LL.below hL b154
           refine Va (QS rfl rfl (Qfz _ _ _ _ _ _ _ _)) rfl rfl ?_
           refine WL.do (Qh (cs' := [.int .u64 ((YS (Qp zs 48) i ev + Jo ev) % 4294967296), .int .u64 ev.a, .int .u64 ev.b, .int .u64 ev.c, .int .u64 ((ev.d + YS (Qp zs 48) i ev) % 4294967296), .int .u64 ev.e, .int .u64 ev.f, .int .u64 ev.g]) (vs := [.int .u64 ((YS (Qp zs 48) i ev + Jo ev) % 4294967296), .int .u64 ev.a, .int .u64 ev.b, .int .u64 ev.c, .int .u64 ((ev.d + YS (Qp zs 48) i ev) % 4294967296), .int .u64 ev.e, .int .u64 ev.f, .int .u64 ev.g]) rfl Jt rfl rfl rfl (oC rfl (oC rfl (oC rfl o5))) k134 rfl (nB rfl) rfl) rfl ?_
           rintro _ W155 ⟨k157, o156⟩
           replace k10 := k10.other o156 n128
           replace k64 := k64.other o156 n129
           replace k91 := k91.other o156 n130
           clear k134
           replace hT := hT.only o156 (.head _)
           replace hA := hA.only o156 (.head _)
           replace hB := o156.below hB l131
           replace hL := LL.only hL o156
           refine Ni (hK142 (Rg (Pu rfl (Va (QR (r := (i : Int) + 1) rfl rfl rfl (Qm (by omega))) rfl rfl (Pu rfl (Ni ?_))))))
           replace k157 : Xc W155 W113.heap.size [.int .u64 (QL (Qp zs 48) (Q6 st) (i + 1)).a, .int .u64 (QL (Qp zs 48) (Q6 st) (i + 1)).b, .int .u64 (QL (Qp zs 48) (Q6 st) (i + 1)).c, .int .u64 (QL (Qp zs 48) (Q6 st) (i + 1)).d, .int .u64 (QL (Qp zs 48) (Q6 st) (i + 1)).e, .int .u64 (QL (Qp zs 48) (Q6 st) (i + 1)).f, .int .u64 (QL (Qp zs 48) (Q6 st) (i + 1)).g, .int .u64 (QL (Qp zs 48) (Q6 st) (i + 1)).h] := by show Xc _ _ [.int .u64 (Ve (Qp zs 48) i (QL (Qp zs 48) (Q6 st) i)).a, .int .u64 (Ve (Qp zs 48) i (QL (Qp zs 48) (Q6 st) i)).b, .int .u64 (Ve (Qp zs 48) i (QL (Qp zs 48) (Q6 st) i)).c, .int .u64 (Ve (Qp zs 48) i (QL (Qp zs 48) (Q6 st) i)).d, .int .u64 (Ve (Qp zs 48) i (QL (Qp zs 48) (Q6 st) i)).e, .int .u64 (Ve (Qp zs 48) i (QL (Qp zs 48) (Q6 st) i)).f, .int .u64 (Ve (Qp zs 48) i (QL (Qp zs 48) (Q6 st) i)).g, .int .u64 (Ve (Qp zs 48) i (QL (Qp zs 48) (Q6 st) i)).h]; rw [<- hev]; exact k157
           exact hK137 (i + 1) ⟨(by omega), hB, hL, hT, hA, k10, k64, k91, k157⟩ (by omega) (by repeat first | exact trivial | refine aR ?_ | refine aI (by omega) ?_)
       .
        replace c141 := dF c141
        refine WC.exit ?_
        refine hK135 (Sq fun K158 hK158 => (Rg (Pu rfl (Ni (hK158 (WC.block ?_))))))
        have hi7 : i = 64 := by omega
        subst hi7
        replace k134 : Xc W138 W113.heap.size (Z1 ev.list) := k134
        rw [hev] at k134
        replace k64 : Xc W138 W49.heap.size (Z1 ((XS st zs).take 0 ++ st.drop 0)) := by rw [List.take_zero, List.drop_zero, List.nil_append]; exact k64
        refine WC.loop (fun (i : Nat) => [(1, .int .i64 32), (5, .pointer (some ⟨w.heap.size, 0, none⟩)), (6, .int .i64 64), (7, ov2), (10, .pointer (some ⟨W49.heap.size, 0, none⟩)), (12, .int .i64 4), (13, .int .i64 ((q * 64 : Nat) : Int)), (17, .pointer (some ⟨W113.heap.size, 0, none⟩)), (21, .int .i64 (i : Int))]) (fun (i : Nat) W => i <= 8 /\ Below w.heap.size w W /\ LL (W113.heap.size :: W84.heap.size :: W49.heap.size :: w.heap.size :: L) W /\ Vr (W113.heap.size :: W84.heap.size :: W49.heap.size :: w.heap.size :: L) W /\ QD 1 (W113.heap.size :: W84.heap.size :: W49.heap.size :: w.heap.size :: L) W ov2 ((Zb D).map e8) /\ Xc W w.heap.size [.int .i64 2, .int .i64 13, .int .i64 22, .int .i64 6, .int .i64 11, .int .i64 25, .int .i64 7, .int .i64 18, .int .i64 3, .int .i64 17, .int .i64 19, .int .i64 10] /\ Xc W W49.heap.size (Z1 ((XS st zs).take i ++ st.drop i)) /\ Xc W W84.heap.size (Z1 (Qp zs 48)) /\ Xc W W113.heap.size (Z1 ((QL (Qp zs 48) (Q6 st) 64).list))) (fun (i : Nat) => 8 - i) 0 (by repeat first | exact trivial | refine aR ?_ | refine aI (by omega) ?_) ⟨Nat.zero_le _, hB, hL, hT, hA, k10, k64, k91, k134⟩ ?_
        clear hT hA k10 k64 k91 k134 hB hL
        rintro K159 i W160 ⟨hi, hB, hL, hT, hA, k10, k64, k91, k134⟩ hK159
        refine Sq fun K161 hK161 => (Sq fun K162 hK162 => (Rg (Pu rfl (Va (Xe rfl rfl rfl) rfl rfl (Ni (hK162 ?_))))))
        refine WC.cond rfl (fun c163 => ?_) (fun c163 => ?_)
        .
         replace c163 := dT c163
         refine WC.skip (hK161 (Sq fun K164 hK164 => (WC.block ?_)))
         refine dM 10 [(some 248, .is (.int .i64 (i : Int))), (some 249, .is (.int .i64 (i : Int))), (some 250, .is (.pointer (some ⟨W49.heap.size, i, none⟩))), (some 251, .is (.int .u64 (QX ((XS st zs).take i ++ st.drop i) i))), (some 252, .is (.int .i64 (i : Int))), (some 253, .is (.pointer (some ⟨W113.heap.size, i, none⟩))), (some 254, .is (.int .u64 (QX ((QL (Qp zs 48) (Q6 st) 64).list) i))), (some 255, .is (.int .u64 ((QX ((XS st zs).take i ++ st.drop i) i + QX ((QL (Qp zs 48) (Q6 st) 64).list) i) % 18446744073709551616))), (some 256, .is (.int .i64 32)), (some 257, .is (.int .u64 (QX (XS st zs) i)))] [[], [], [1], [2], [], [4], [5], [3, 6], [], [7, 8]] (by exact trivial) ?_ ?_
         .
          refine Dc (fun Wd hd => ?_) ?_
          .
           exact Dd (Qt rfl rfl) rfl
          refine Dc (fun Wd hd => ?_) ?_
          .
           exact Dd (Qt rfl rfl) rfl
          refine Dc (fun Wd hd => ?_) ?_
          .
           exact Dd (QU (o1 := i) rfl Tryd.underlying150 QB rfl rfl (by omega) (by first | (simp; done) | omega)) rfl
          refine Dc (fun Wd hd => ?_) ?_
          .
           have k64 := k64.below hd
           exact Dd (Qi rfl Q3 rfl (k64.cell (k := i) (Kn (by rw [show ((XS st zs).take i ++ st.drop i).length = 8 from (UW (YB _ _) hsl hi)]; exact (by omega))))) rfl
          refine Dc (fun Wd hd => ?_) ?_
          .
           exact Dd (Qt rfl rfl) rfl
          refine Dc (fun Wd hd => ?_) ?_
          .
           exact Dd (QU (o1 := i) rfl Tryd.underlying150 QB rfl rfl (by omega) (by first | (simp; done) | omega)) rfl
          refine Dc (fun Wd hd => ?_) ?_
          .
           have k134 := k134.below hd
           exact Dd (Qi rfl Q3 rfl (k134.cell (k := i) (Kn (by rw [show ((QL (Qp zs 48) (Q6 st) 64).list).length = 8 from rfl]; exact (by omega))))) rfl
          refine Dc (fun Wd hd => ?_) ?_
          .
           exact Dd (QR rfl rfl rfl (Yp _)) rfl
          refine Dc (fun Wd hd => ?_) ?_
          .
           exact Dd (Qt rfl rfl) rfl
          refine Dc (fun Wd hd => ?_) ?_
          .
           exact DR.mono (QQ rfl Tryd.func100 rfl rfl rfl ((show CV _ _ [_, _] _ (fun v _ => v = .int .u64 (QX (XS st zs) i)) from CV.mono (JN (Yc ((QX ((XS st zs).take i ++ st.drop i) i + QX ((QL (Qp zs 48) (Q6 st) 64).list) i) % 18446744073709551616) Wd (KA _))) fun v _ _ h => h.trans (congrArg (Value.int .u64) (show (QX ((XS st zs).take i ++ st.drop i) i + QX ((QL (Qp zs 48) (Q6 st) 64).list) i) % 18446744073709551616 % 4294967296 = QX (XS st zs) i from by rw [QeU (YB _ _) hsl (by omega), Qaw _ _ _ (by omega)]; exact KI _ _))))) (fun v W' ⟨h, hb⟩ => ⟨hb, (by rw [h]; exact rfl)⟩)
          exact trivial
         .
          intro W165 b166
          replace hT := hT.below b166
          replace hA := hA.below b166
          replace k10 := k10.below b166
          replace k64 := k64.below b166
          replace k91 := k91.below b166
          replace k134 := k134.below b166
          replace hB := Qe hB b166
          replace hL := LL.below hL b166
          refine Va (QU (o1 := i) rfl Tryd.underlying150 QB rfl rfl (by omega) (by first | (simp; done) | omega)) rfl rfl ?_
          refine WL.do (Qh (cs' := Z1 (((XS st zs).take i ++ st.drop i).set i (QX (XS st zs) i))) (vs := [.int .u64 (QX (XS st zs) i)]) rfl QB rfl rfl rfl (oC rfl Qk) k64 rfl (by rw [VM, show ((XS st zs).take i ++ st.drop i).length = 8 from (UW (YB _ _) hsl hi)]; exact (by omega)) (Qdz (by rw [show ((XS st zs).take i ++ st.drop i).length = 8 from (UW (YB _ _) hsl hi)]; exact (by omega)))) rfl ?_
          rintro _ W167 ⟨k169, o168⟩
          replace k10 := k10.other o168 n67
          replace k91 := k91.other o168 n95.symm
          replace k134 := k134.other o168 n129.symm
          clear k64
          replace hT := hT.only o168 (.tail _ (.tail _ (.head _)))
          replace hA := hA.only o168 (.tail _ (.tail _ (.head _)))
          replace hB := o168.below hB l68
          replace hL := LL.only hL o168
          refine Ni (hK164 (Rg (Pu rfl (Va (QR (r := (i : Int) + 1) rfl rfl rfl (Qm (by omega))) rfl rfl (Pu rfl (Ni ?_))))))
          rw [D1 (YB _ _) hsl (by omega)] at k169
          exact hK159 (i + 1) ⟨(by omega), hB, hL, hT, hA, k10, k169, k91, k134⟩ (by omega) (by repeat first | exact trivial | refine aR ?_ | refine aI (by omega) ?_)
        .
         replace c163 := dF c163
         refine WC.exit ?_
         refine hK88 ?_
         have hi8 : i = 8 := by omega
         subst hi8
         replace k64 : Xc W160 W49.heap.size (Z1 (Xr XM (Zb D) (q + 1))) := by have e : (XS st zs).take 8 ++ st.drop 8 = (XS st zs) := (by rw [List.take_of_length_le (by rw [YB]; exact Nat.le_refl _), List.drop_eq_nil_of_le (by omega), List.append_nil]); rw [e, hst, hzs] at k64; exact k64
         refine Rg (Pu rfl (Pu rfl (Va (VO (r := 64) rfl rfl rfl (by decide)) rfl rfl (Va (QR (r := (((q + 1) * 64 : Nat) : Int)) rfl rfl rfl (by rw [Qm (by omega)]; omega)) rfl rfl (Pu rfl (Ni ?_))))))
         replace hL := hL.less (fun x hx => (.tail _ (.tail _ hx)))
         replace hT := hT.less (fun x hx => (.tail _ (.tail _ hx)))
         replace hA := hA.less (fun x hx => (.tail _ (.tail _ hx)))
         exact hK83 (q + 1) ⟨(by omega), hB, hL, hT, hA, k10, k64⟩ (by omega) (by repeat first | exact trivial | refine aR ?_ | refine aI (by omega) ?_)
    .
     replace c87 := dF c87
     refine WC.exit ?_
     refine hK81 (Sq fun K170 hK170 => ?_)
     have hpm := (Kz D.length).2.2
     have hc_ := c87
     rw [hFm, hFl] at hc_
     have hqe : q = Xd D.length / 64 := by omega
     subst hqe
     obtain ⟨st, hst⟩ : ∃ z, z = (Xr XM (Zb D) (Xd D.length / 64)) := ⟨_, rfl⟩
     rw [<- hst] at k64
     have hsl : st.length = 8 := by rw [hst]; exact Kr _ _
     have zhT := hT
     have zk10 := k10
     have zk64 := k64
     have zhB := hB
     have zhL := hL
     have hC : Y4 W84 (W49.heap.size :: w.heap.size :: L) W84 := Below.refl _ _
     have h5 : Zv 1 W84.heap.size (((XX st).take 0).map e8) (.slice none 0 0) W84 := .inl ⟨rfl, rfl, by decide⟩
     have htl : (XX st).length = 32 := GA st
     refine Rg (Pu rfl (Ni (hK170 (Sq fun K171 hK171 => (Sq fun K172 hK172 => (Rg (Pu rfl ?_)))))))
     refine Ni (hK172 (WC.block ?_))
     rw [show (0 : Nat) = 0 * 4 by omega] at h5
     refine WC.loop2 (fun (i : Nat) (ov3 : Value) => [(1, .int .i64 32), (10, .pointer (some ⟨W49.heap.size, 0, none⟩)), (22, ov3), (23, .int .i64 (i : Int))]) (fun (i : Nat) (ov3 : Value) W => i <= 8 /\ Below w.heap.size w W /\ LL (W49.heap.size :: w.heap.size :: L) W /\ Vr (W49.heap.size :: w.heap.size :: L) W /\ Y4 W84 (W49.heap.size :: w.heap.size :: L) W /\ Zv 1 W84.heap.size (((XX st).take (i * 4)).map e8) ov3 W /\ Xc W w.heap.size [.int .i64 2, .int .i64 13, .int .i64 22, .int .i64 6, .int .i64 11, .int .i64 25, .int .i64 7, .int .i64 18, .int .i64 3, .int .i64 17, .int .i64 19, .int .i64 10] /\ Xc W W49.heap.size (Z1 st)) (fun (i : Nat) (ov3 : Value) => 8 - i) 0 (.slice none 0 0) (by repeat first | exact trivial | refine aR ?_ | refine aI (by omega) ?_) ⟨Nat.zero_le _, hB, hL, hT, hC, h5, k10, k64⟩ ?_
     clear hT hC h5 k10 k64 hB hL
     rintro K173 i ov3 W174 ⟨hi, hB, hL, hT, hC, h5, k10, k64⟩ hK173
     refine Sq fun K175 hK175 => (Sq fun K176 hK176 => (Rg (Pu rfl (Va (Xe rfl rfl rfl) rfl rfl (Ni (hK176 ?_))))))
     refine WC.cond rfl (fun c177 => ?_) (fun c177 => ?_)
     .
      replace c177 := dT c177
      refine WC.skip (hK175 (Sq fun K178 hK178 => (WC.block (Sq fun K179 hK179 => (Rg (Pu rfl (Va (Zm (r := 24) rfl rfl rfl (by decide)) rfl rfl ?_)))))))
      refine Pu rfl (Ni (hK179 (WC.block ?_)))
      rw [<- Nat.add_zero (i * 4)] at h5
      refine WC.loop2 (fun (j : Nat) (ov4 : Value) => [(1, .int .i64 32), (10, .pointer (some ⟨W49.heap.size, 0, none⟩)), (23, .int .i64 (i : Int)), (22, ov4), (24, .int .i64 (24 - 8 * (j : Int)))]) (fun (j : Nat) (ov4 : Value) W => j <= 4 /\ Below w.heap.size w W /\ LL (W49.heap.size :: w.heap.size :: L) W /\ Vr (W49.heap.size :: w.heap.size :: L) W /\ Y4 W84 (W49.heap.size :: w.heap.size :: L) W /\ Zv 1 W84.heap.size (((XX st).take (i * 4 + j)).map e8) ov4 W /\ Xc W w.heap.size [.int .i64 2, .int .i64 13, .int .i64 22, .int .i64 6, .int .i64 11, .int .i64 25, .int .i64 7, .int .i64 18, .int .i64 3, .int .i64 17, .int .i64 19, .int .i64 10] /\ Xc W W49.heap.size (Z1 st)) (fun (j : Nat) (ov4 : Value) => 4 - j) 0 ov3 (by repeat first | exact trivial | refine aR ?_ | refine aI (by omega) ?_) ⟨Nat.zero_le _, hB, hL, hT, hC, h5, k10, k64⟩ ?_
      clear hT hC h5 k10 k64 hB hL
      rintro K180 j ov4 W181 ⟨hj, hB, hL, hT, hC, h5, k10, k64⟩ hK180
      have hol3 : ((XX st).take (i * 4 + j)).length <= 32 := (by rw [List.length_take]; omega)
      refine Sq fun K182 hK182 => (Sq fun K183 hK183 => (Rg (Pu rfl (Va (Yr rfl rfl rfl) rfl rfl (Ni (hK183 ?_))))))
      refine WC.cond rfl (fun c184 => ?_) (fun c184 => ?_)
      .
       replace c184 := dT c184
       refine WC.skip (hK182 (Sq fun K185 hK185 => (WC.block (Rg (Pu rfl (Pu rfl (Va (QU (o1 := i) rfl Tryd.underlying150 QB rfl rfl (by omega) (by first | (simp; done) | omega)) rfl rfl ?_)))))))
       refine Va (Qi rfl Q3 rfl (k64.cell (k := i) (Kn (by rw [show st.length = 8 from hsl]; exact (by omega))))) rfl rfl (Pu rfl (Va (XP (r := (24 - 8 * (j : Int))) rfl Tryd.underlying3 Tryd.underlying105 rfl (by rw [Yp]; omega)) rfl rfl (Va (Fx rfl rfl rfl (by omega) (by show _ <= (64 : Int); omega) rfl) rfl rfl (Va (XP (r := QX (XX st) (i * 4 + j)) rfl Tryd.underlying149 Tryd.underlying5 rfl ((Qbw _).trans (ES st i j (by omega) (by omega)))) rfl rfl ?_))))
       refine Ge (ZP (r := e8 (QX (XX st) (i * 4 + j))) rfl X2 (by decide) (by decide) rfl rfl rfl) rfl rfl ?_
       rintro x186 W187 ⟨k189, b188, z190⟩
       replace hT := hT.below b188
       replace hC := hC.below b188
       replace h5 := h5.below b188
       replace k10 := k10.below b188
       replace k64 := k64.below b188
       replace hB := Qe hB b188
       replace hL := LL.below hL b188
       have hx := k189.rd (L := []) (by simp)
       refine Ge (V6 (base := W84.heap.size) rfl X2 rfl rfl h5 hx (En [QX (XX st) (i * 4 + j)]) (by simp [maxLen]; omega) (by simp; omega) (Below.size hC)) rfl rfl ?_
       rintro x191 W192 ⟨h5, b193⟩
       replace h5 : Zv 1 W84.heap.size ((((XX st).take (i * 4 + j)) ++ [QX (XX st) (i * 4 + j)]).map e8) x191 W192 := by rw [List.map_append]; exact h5
       replace hC : Y4 W84 (W49.heap.size :: w.heap.size :: L) W192 := Below.trans hC b193
       replace hT := zhT.below hC
       replace k10 := zk10.below hC
       replace k64 := zk64.below hC
       replace hB := Qe zhB hC
       replace hL := LL.below zhL hC
       refine Pu rfl (Ni (hK185 (Rg (Pu rfl (Va (Zm (r := (24 - 8 * ((j + 1 : Nat) : Int))) rfl rfl rfl (by rw [Qm (by omega)]; omega)) rfl rfl (Pu rfl (Ni ?_)))))))
       rw [show (((XX st).take (i * 4 + j)) ++ [QX (XX st) (i * 4 + j)]) = ((XX st).take (i * 4 + (j + 1))) from by rw [<- Nat.add_assoc, YY _ _ (by rw [htl]; omega)]] at h5
       exact hK180 (j + 1) x191 ⟨(by omega), hB, hL, hT, hC, h5, k10, k64⟩ (by omega) (by repeat first | exact trivial | refine aR ?_ | refine aI (by omega) ?_)
      .
       replace c184 := dF c184
       refine WC.exit ?_
       refine hK178 (Rg (Pu rfl (Va (QR (r := (i : Int) + 1) rfl rfl rfl (Qm (by omega))) rfl rfl (Pu rfl (Ni ?_)))))
       rw [show i * 4 + j = (i + 1) * 4 by omega] at h5
       exact hK173 (i + 1) ov4 ⟨(by omega), hB, hL, hT, hC, h5, k10, k64⟩ (by omega) (by repeat first | exact trivial | refine aR ?_ | refine aI (by omega) ?_)
     .
      replace c177 := dF c177
      refine WC.exit ?_
      refine hK171 (Sq fun K194 hK194 => (Rg (Pu rfl (Pu rfl (Ni (hK194 ?_))))))
      exact WC.ret fun a_ ha_ => hQ (QI rfl (.tmp rfl) (by have e8' : i = 8 := (by omega); subst e8'; have eS : XK D = (XX st).take (8 * 4) := (by rw [GB, <- hst, List.take_of_length_le (by rw [htl]; decide)]); rw [eS]; exact h5.rd (fun y hy => zhL y (.tail _ (.tail _ hy)))) hB ha_)

theorem Qds {α β : Type} {g : α -> β} {l : List α} {x y : β} (h : l.map g = [x, y]) : ∃ a b, l = [a, b] /\ g a = x /\ g b = y := by
 match l, h with
 | [a, b], h => simp at h; exact ⟨a, b, rfl, h.1, h.2⟩
section
variable {ops : Array Oper} {o : Oper} {N : Nat} {f : Fl} {w : World}
theorem GL (p : Int × List Int) (hl : p.2.length = 128) : (part 3 (QG p).toArray 0).run Tryd.prog w = .ok (.int .i64 p.1) w := by
 have hagg : (isAgg 3).run Tryd.prog w = .ok false w := by
  unfold isAgg
  rw [Sem.run_bind, run_underlying Tryd.underlying3 w]; rfl
 simp [part, Sem.run_bind, hagg, QG]
theorem GK (p : Int × List Int) (hl : p.2.length = 128) : (part 75 (QG p).toArray 1).run Tryd.prog w = .ok (Z6 .u8 p.2) w := by
 have hagg : (isAgg 75).run Tryd.prog w = .ok true w := by
  unfold isAgg
  rw [Sem.run_bind, run_underlying Tryd.underlying75 w]; rfl
 obtain ⟨i, hi, hs⟩ := Vl Q1
 simp only [part, Sem.run_bind, hagg, Result.andThen_ok, if_true, sizeOf, typeInfo, run_program, hi, hs, Sem.run_pure]
 congr 2
 apply Array.ext'
 simp [QG, Qr]
 rw [List.take_of_length_le (by simp [hl])]
theorem Qd5 : (Tryd.prog.fieldsOf 77).toList.map (fun f => (f.name == "_", f.type, f.offset)) = [(false, 3, 0), (false, 75, 1)] := by kernel_rfl
theorem QdA (p q : Int × List Int) (hp : p.2.length = 128) (hq : q.2.length = 128) : (Op.equalIn 10000 77 (.agg (QG p).toArray) (.agg (QG q).toArray)).run Tryd.prog w = .ok (decide (p = q)) w := by
  rw [show (10000 : Nat) = 9999 + 1 from rfl, run_equalIn_struct w 9999 77 _ _ (by kernel_rfl) (by kernel_rfl)]
  obtain ⟨f0, f1, hfs, h0, h1⟩ := Qds Qd5
  rw [hfs]
  simp only [Prod.mk.injEq] at h0 h1
  obtain ⟨n0, t0, o0⟩ := h0
  obtain ⟨n1, t1, o1⟩ := h1
  have m0 : f0.name ≠ "_" := by simpa using n0
  have m1 : f1.name ≠ "_" := by simpa using n1
  have e0 := run_equalIn_int (P := Tryd.prog) w 9998 3 .i64 .i64 p.1 q.1 Tryd.underlying3
  have e1 := GN (P := Tryd.prog) (w := w) 75 5 128 Tryd.underlying75 .u8 .u8 Tryd.underlying5 (VK QA) 9997 p.2 q.2 hp hq
  simp only [Op.eqFields, if_pos m0, if_pos m1, t0, o0, t1, o1, Sem.run_bind, GL p hp, GL q hq, Result.andThen_ok]
  rw [show (9999 : Nat) = 9998 + 1 from rfl, e0]
  simp only [Result.andThen_ok]
  by_cases h : p.1 = q.1
  . have hb : (!(p.1 == q.1)) = false := by simp [h]
    simp only [hb, Bool.false_eq_true, if_false, Sem.run_bind, GK p hp, GK q hq, Result.andThen_ok]
    rw [show (9998 + 1 : Nat) = 9997 + 2 from rfl, e1]
    simp only [Result.andThen_ok]
    by_cases h2 : p.2 = q.2
    . simp [h2, Prod.ext_iff, h]
    . simp [h2, Prod.ext_iff, h]
  . have hb : (!(p.1 == q.1)) = true := by simp [h]
    simp only [hb, if_true]
    simp [Prod.ext_iff, h]
theorem Qd9 {t' : TypeId} {x y : Operand} {p q : Int × List Int} (ho : o.op = .binOp .neq 77 x y t') (hx : ev f x = some (.agg (QG p).toArray)) (hy : ev f y = some (.agg (QG q).toArray)) (hp : p.2.length = 128) (hq : q.2.length = 128) (hw : QP ops o f = some true := by rfl) : DV Tryd.prog ops o N f w (.bool (!decide (p = q))) := fun a ha => by
 have hx := ha.ev hx
 have hy := ha.ev hy
 have hg : Tryd.prog.eqGuardType Tryd.prog.depth 77 = false := by kernel_rfl
 have hgd : (eqGuard .neq 77 x y (.agg (QG p).toArray) (.agg (QG q).toArray)).run Tryd.prog w = .ok () w := by
  simp [eqGuard, Sem.run_bind, hg]
 exact QK.pure (Qw ha hw) _ (by unfold execOp; simp only [ho, hx, hy, Sem.run_bind, hgd, Result.andThen_ok, run_neq_struct, QdA p q hp hq, Sem.run_pure]) ⟨rfl, rfl⟩
end
set_option maxHeartbeats 1000000 in
theorem Qac (Qb : List (List Int)) (Qa : List (Int × List Int)) (Qd : Int) (Qc : Bool) (s1 s2 t1 t2 : Value) (w : World) (L : List Nat) (hL : LL L w) (h1 : QD 128 L w s1 (Qb.map Qr)) (h2 : QD 129 L w s2 (Qa.map QG)) (h3 : QD 128 L w t1 (Qb.map Qr)) (h4 : QD 129 L w t2 (Qa.map QG)) : CV Tryd.prog 16 [.agg #[s1, s2, .int .i64 Qd, .bool Qc], .agg #[t1, t2, .int .i64 Qd, .bool Qc]] w fun v W => v = .bool true := by
 refine QN (N := 73) (f := [(0, .agg #[s1, s2, .int .i64 Qd, .bool Qc]), (1, .agg #[t1, t2, .int .i64 Qd, .bool Qc])]) Tryd.func16 rfl rfl rfl rfl fun Q hQ hE => ?_
 have hB := Below.refl w.heap.size w
 have h1m : Qb.length <= maxLen := by have := h1.len; rwa [List.length_map] at this
 unfold maxLen at h1m
 have h2m : Qa.length <= maxLen := by have := h2.len; rwa [List.length_map] at this
 unfold maxLen at h2m
 have h3m : Qb.length <= maxLen := by have := h3.len; rwa [List.length_map] at this
 unfold maxLen at h3m
 have h4m : Qa.length <= maxLen := by have := h4.len; rwa [List.length_map] at this
 unfold maxLen at h4m
 refine Sq fun K1 hK1 => (Rg ?_)
 refine Ge (Xa rfl rfl rfl) rfl rfl ?_
 rintro _ W2 ⟨rfl, k3, b4, z5⟩
 have l6 := hB.size
 replace h1 := h1.more b4 (Nat.le_refl _)
 replace h2 := h2.more b4 (Nat.le_refl _)
 replace h3 := h3.more b4 (Nat.le_refl _)
 replace h4 := h4.more b4 (Nat.le_refl _)
 replace hB := Qe hB b4
 replace hL := LL.more hL z5
 refine Ge (Xa rfl rfl rfl) rfl rfl ?_
 rintro _ W7 ⟨rfl, k8, b9, z10⟩
 have l12 := hB.size
 replace h1 := h1.more b9 (Nat.le_refl _)
 replace h2 := h2.more b9 (Nat.le_refl _)
 replace h3 := h3.more b9 (Nat.le_refl _)
 replace h4 := h4.more b9 (Nat.le_refl _)
 replace k3 := k3.below b9
 replace hB := Qe hB b9
 replace hL := LL.more hL z10
 refine Pu rfl (Ni (hK1 (Sq fun K13 hK13 => (Sq fun K14 hK14 => (Rg (Va (Qn (o1 := 0) rfl QE rfl rfl) rfl rfl (Va (Qi rfl Q7 rfl (k3.cell (k := 0) rfl)) rfl rfl ?_)))))))
 refine Va (QT rfl QW rfl h1) rfl rfl (Va (Qn (o1 := 0) rfl QE rfl rfl) rfl rfl (Va (Qi rfl Q7 rfl (k8.cell (k := 0) rfl)) rfl rfl (Va (QT rfl QW rfl h3) rfl rfl (Va (Xl rfl rfl rfl) rfl rfl (Pu rfl ?_)))))
 refine WL.split 14 rfl (fun g15 => ?_) (fun g15 => ?_)
 .
  replace g15 := Q4 g15
  exact absurd rfl (of_decide_eq_false g15)
 .
  replace g15 := Q2 g15
  replace g15 := dT g15
  refine Va (Qn (o1 := 1) rfl QJ rfl rfl) rfl rfl (Va (Qi rfl Xf rfl (k3.cell (k := 1) rfl)) rfl rfl (Va (QT rfl QY rfl h2) rfl rfl (Va (Qn (o1 := 1) rfl QJ rfl rfl) rfl rfl (Va (Qi rfl Xf rfl (k8.cell (k := 1) rfl)) rfl rfl (Va (QT rfl QY rfl h4) rfl rfl (Va (Xl rfl rfl rfl) rfl rfl (Pu rfl ?_)))))))
  refine Pu rfl ?_
  refine WL.split 23 rfl (fun g16 => ?_) (fun g16 => ?_)
  .
   replace g16 := Q4 g16
   exact absurd rfl (of_decide_eq_false g16)
  .
   replace g16 := Q2 g16
   replace g16 := dT g16
   refine Va (Qn (o1 := 2) rfl XZ rfl rfl) rfl rfl (Va (Qi rfl Qv rfl (k3.cell (k := 2) rfl)) rfl rfl (Va (Qn (o1 := 2) rfl XZ rfl rfl) rfl rfl (Va (Qi rfl Qv rfl (k8.cell (k := 2) rfl)) rfl rfl (Va (Xl rfl rfl rfl) rfl rfl (Pu rfl (Pu rfl ?_))))))
   refine WL.split 30 rfl (fun g17 => ?_) (fun g17 => ?_)
   .
    replace g17 := Q4 g17
    exact absurd rfl (of_decide_eq_false g17)
   .
    replace g17 := Q2 g17
    replace g17 := dT g17
    refine Va (Qn (o1 := 3) rfl XC rfl rfl) rfl rfl (Va (Qi rfl Yt rfl (k3.cell (k := 3) rfl)) rfl rfl (Va (Qn (o1 := 3) rfl XC rfl rfl) rfl rfl (Va (Qi rfl Yt rfl (k8.cell (k := 3) rfl)) rfl rfl (Va (D7 rfl Tryd.underlying4 rfl rfl) rfl rfl (Pu rfl (Ni (hK14 ?_)))))))
    refine WC.cond rfl (fun c18 => ?_) (fun c18 => ?_)
    .
     replace c18 := Q4 c18
     exact absurd rfl (of_decide_eq_false c18)
    .
     replace c18 := Q2 c18
     replace c18 := dT c18
     refine WC.skip (hK13 (Sq fun K19 hK19 => (Sq fun K20 hK20 => (Rg (Pu rfl (Ni (hK20 ?_)))))))
     refine WC.block ?_
     refine WC.loop (fun (i : Nat) => [(2, .pointer (some ⟨w.heap.size, 0, none⟩)), (3, .pointer (some ⟨W2.heap.size, 0, none⟩)), (5, .int .i64 (i : Int))]) (fun (i : Nat) W => i <= Qb.length /\ Below w.heap.size w W /\ LL (W2.heap.size :: w.heap.size :: L) W /\ QD 128 (W2.heap.size :: w.heap.size :: L) W s1 (Qb.map Qr) /\ QD 129 (W2.heap.size :: w.heap.size :: L) W s2 (Qa.map QG) /\ QD 128 (W2.heap.size :: w.heap.size :: L) W t1 (Qb.map Qr) /\ QD 129 (W2.heap.size :: w.heap.size :: L) W t2 (Qa.map QG) /\ Xc W w.heap.size [s1, s2, .int .i64 Qd, .bool Qc] /\ Xc W W2.heap.size [t1, t2, .int .i64 Qd, .bool Qc]) (fun (i : Nat) => Qb.length - i) 0 (by repeat first | exact trivial | refine aR ?_ | refine aI (by omega) ?_) ⟨Nat.zero_le _, hB, hL, h1, h2, h3, h4, k3, k8⟩ ?_
     clear h1 h2 h3 h4 k3 k8 hB hL
     rintro K21 i W22 ⟨hi, hB, hL, h1, h2, h3, h4, k3, k8⟩ hK21
     refine Sq fun K23 hK23 => (Sq fun K24 hK24 => (Rg (Pu rfl (Va (Qn (o1 := 0) rfl QE rfl rfl) rfl rfl (Va (Qi rfl Q7 rfl (k3.cell (k := 0) rfl)) rfl rfl (Va (QT rfl QW rfl h1) rfl rfl (Va (Xe rfl rfl rfl) rfl rfl ?_)))))))
     refine Ni (hK24 ?_)
     refine WC.cond rfl (fun c25 => ?_) (fun c25 => ?_)
     .
      replace c25 := dT c25
      refine WC.skip (hK23 (Sq fun K26 hK26 => (WC.block (Sq fun K27 hK27 => ?_))))
      obtain ⟨r28, e29⟩ : ∃ x, Qb[i]? = some x := ⟨_, List.getElem?_eq_getElem (by omega)⟩
      have Lr28 := Ed h1 e29
      refine dM 10 [(some 44, .is (.pointer (some ⟨w.heap.size, 0, none⟩))), (some 45, .is (s1)), (some 46, .is (.int .i64 (i : Int))), (some 47, .by fun u W => JB (W2.heap.size :: w.heap.size :: L) W u (Qr r28)), (some 48, .is (.agg (Qr r28).toArray)), (some 49, .is (.pointer (some ⟨W2.heap.size, 0, none⟩))), (some 50, .is (t1)), (some 51, .is (.int .i64 (i : Int))), (some 52, .by fun u W => JB (W2.heap.size :: w.heap.size :: L) W u (Qr r28)), (some 53, .is (.agg (Qr r28).toArray))] [[], [0], [], [1, 2], [3], [], [5], [], [6, 7], [8]] ⟨fun _ _ _ hb h => h.below hb, fun _ _ _ hb h => h.below hb, trivial⟩ ?_ ?_
      .
       refine Dc (fun Wd hd => ?_) ?_
       .
        exact Dd (Qn (o1 := 0) rfl QE rfl rfl) rfl
       refine Dc (fun Wd hd => ?_) ?_
       .
        have k3 := k3.below hd
        exact Dd (Qi rfl Q7 rfl (k3.cell (k := 0) rfl)) rfl
       refine Dc (fun Wd hd => ?_) ?_
       .
        exact Dd (Qt rfl rfl) rfl
       refine Dc (fun Wd hd => ?_) ?_
       .
        have h1 := h1.below hd
        exact (XH i rfl QW rfl rfl h1 (by omega) (XG e29)).mono (fun v W' h => ⟨by rw [<- h.1]; exact Below.refl _ _, by rw [<- h.1]; exact h.2⟩)
       refine Dc (fun Wd hd => ?_) ?_
       .
        intro u6_3 p6_3
        exact Dd (Zc rfl QF rfl p6_3 (by rw [Qo]; exact Lr28)) rfl
       refine Dc (fun Wd hd => ?_) ?_
       .
        exact Dd (Qn (o1 := 0) rfl QE rfl rfl) rfl
       refine Dc (fun Wd hd => ?_) ?_
       .
        have k8 := k8.below hd
        exact Dd (Qi rfl Q7 rfl (k8.cell (k := 0) rfl)) rfl
       refine Dc (fun Wd hd => ?_) ?_
       .
        exact Dd (Qt rfl rfl) rfl
       refine Dc (fun Wd hd => ?_) ?_
       .
        have h3 := h3.below hd
        exact (XH i rfl QW rfl rfl h3 (by omega) (XG e29)).mono (fun v W' h => ⟨by rw [<- h.1]; exact Below.refl _ _, by rw [<- h.1]; exact h.2⟩)
       refine Dc (fun Wd hd => ?_) ?_
       .
        intro u6_8 p6_8
        exact Dd (Zc rfl QF rfl p6_8 (by rw [Qo]; exact Lr28)) rfl
       exact trivial
      .
       intro W30 b31
       intro u6_3 p6_3
       intro u6_8 p6_8
       replace h1 := h1.below b31
       replace h2 := h2.below b31
       replace h3 := h3.below b31
       replace h4 := h4.below b31
       replace k3 := k3.below b31
       replace k8 := k8.below b31
       replace hB := Qe hB b31
       replace hL := LL.below hL b31
       refine Va (D8 (K := .u8) (xs := r28) (ys := r28) rfl Tryd.underlying75 Tryd.underlying5 QA (by kernel_rfl) rfl rfl Lr28 Lr28) rfl rfl (Ni (hK27 ?_))
       refine WC.cond rfl (fun c32 => ?_) (fun c32 => ?_)
       .
        replace c32 := Q4 c32
        exact absurd rfl (of_decide_eq_false c32)
       .
        replace c32 := Q2 c32
        replace c32 := dT c32
        refine WC.skip (hK26 (Rg (Pu rfl (Va (QR (r := (i : Int) + 1) rfl rfl rfl (Qm (by omega))) rfl rfl (Pu rfl (Ni ?_))))))
        exact hK21 (i + 1) ⟨(by omega), hB, hL, h1, h2, h3, h4, k3, k8⟩ (by omega) (by repeat first | exact trivial | refine aR ?_ | refine aI (by omega) ?_)
     .
      replace c25 := dF c25
      refine WC.exit ?_
      refine hK19 (Sq fun K33 hK33 => (Sq fun K34 hK34 => (Rg (Pu rfl (Ni (hK34 (WC.block ?_)))))))
      refine WC.loop (fun (i : Nat) => [(2, .pointer (some ⟨w.heap.size, 0, none⟩)), (3, .pointer (some ⟨W2.heap.size, 0, none⟩)), (6, .int .i64 (i : Int))]) (fun (i : Nat) W => i <= Qa.length /\ Below w.heap.size w W /\ LL (W2.heap.size :: w.heap.size :: L) W /\ QD 128 (W2.heap.size :: w.heap.size :: L) W s1 (Qb.map Qr) /\ QD 129 (W2.heap.size :: w.heap.size :: L) W s2 (Qa.map QG) /\ QD 128 (W2.heap.size :: w.heap.size :: L) W t1 (Qb.map Qr) /\ QD 129 (W2.heap.size :: w.heap.size :: L) W t2 (Qa.map QG) /\ Xc W w.heap.size [s1, s2, .int .i64 Qd, .bool Qc] /\ Xc W W2.heap.size [t1, t2, .int .i64 Qd, .bool Qc]) (fun (i : Nat) => Qa.length - i) 0 (by repeat first | exact trivial | refine aR ?_ | refine aI (by omega) ?_) ⟨Nat.zero_le _, hB, hL, h1, h2, h3, h4, k3, k8⟩ ?_
      clear h1 h2 h3 h4 k3 k8 hB hL
      rintro K35 i W36 ⟨hi, hB, hL, h1, h2, h3, h4, k3, k8⟩ hK35
      refine Sq fun K37 hK37 => (Sq fun K38 hK38 => (Rg (Pu rfl (Va (Qn (o1 := 1) rfl QJ rfl rfl) rfl rfl (Va (Qi rfl Xf rfl (k3.cell (k := 1) rfl)) rfl rfl (Va (QT rfl QY rfl h2) rfl rfl (Va (Xe rfl rfl rfl) rfl rfl ?_)))))))
      refine Ni (hK38 ?_)
      refine WC.cond rfl (fun c39 => ?_) (fun c39 => ?_)
      .
       replace c39 := dT c39
       refine WC.skip (hK37 (Sq fun K40 hK40 => (WC.block (Sq fun K41 hK41 => ?_))))
       obtain ⟨r42, e43⟩ : ∃ x, Qa[i]? = some x := ⟨_, List.getElem?_eq_getElem (by omega)⟩
       have Lr42 := J1 h2 e43
       refine dM 10 [(some 62, .is (.pointer (some ⟨w.heap.size, 1, none⟩))), (some 63, .is (s2)), (some 64, .is (.int .i64 (i : Int))), (some 65, .by fun u W => JB (W2.heap.size :: w.heap.size :: L) W u (QG r42)), (some 66, .is (.agg (QG r42).toArray)), (some 67, .is (.pointer (some ⟨W2.heap.size, 1, none⟩))), (some 68, .is (t2)), (some 69, .is (.int .i64 (i : Int))), (some 70, .by fun u W => JB (W2.heap.size :: w.heap.size :: L) W u (QG r42)), (some 71, .is (.agg (QG r42).toArray))] [[], [0], [], [1, 2], [3], [], [5], [], [6, 7], [8]] ⟨fun _ _ _ hb h => h.below hb, fun _ _ _ hb h => h.below hb, trivial⟩ ?_ ?_
       .
        refine Dc (fun Wd hd => ?_) ?_
        .
         exact Dd (Qn (o1 := 1) rfl QJ rfl rfl) rfl
        refine Dc (fun Wd hd => ?_) ?_
        .
         have k3 := k3.below hd
         exact Dd (Qi rfl Xf rfl (k3.cell (k := 1) rfl)) rfl
        refine Dc (fun Wd hd => ?_) ?_
        .
         exact Dd (Qt rfl rfl) rfl
        refine Dc (fun Wd hd => ?_) ?_
        .
         have h2 := h2.below hd
         exact (XH i rfl QY rfl rfl h2 (by omega) (XG e43)).mono (fun v W' h => ⟨by rw [<- h.1]; exact Below.refl _ _, by rw [<- h.1]; exact h.2⟩)
        refine Dc (fun Wd hd => ?_) ?_
        .
         intro u11_3 p11_3
         exact Dd (Zc rfl Vd rfl p11_3 (by simp [QG, Qo, Lr42])) rfl
        refine Dc (fun Wd hd => ?_) ?_
        .
         exact Dd (Qn (o1 := 1) rfl QJ rfl rfl) rfl
        refine Dc (fun Wd hd => ?_) ?_
        .
         have k8 := k8.below hd
         exact Dd (Qi rfl Xf rfl (k8.cell (k := 1) rfl)) rfl
        refine Dc (fun Wd hd => ?_) ?_
        .
         exact Dd (Qt rfl rfl) rfl
        refine Dc (fun Wd hd => ?_) ?_
        .
         have h4 := h4.below hd
         exact (XH i rfl QY rfl rfl h4 (by omega) (XG e43)).mono (fun v W' h => ⟨by rw [<- h.1]; exact Below.refl _ _, by rw [<- h.1]; exact h.2⟩)
        refine Dc (fun Wd hd => ?_) ?_
        .
         intro u11_8 p11_8
         exact Dd (Zc rfl Vd rfl p11_8 (by simp [QG, Qo, Lr42])) rfl
        exact trivial
       .
        intro W44 b45
        intro u11_3 p11_3
        intro u11_8 p11_8
        replace h1 := h1.below b45
        replace h2 := h2.below b45
        replace h3 := h3.below b45
        replace h4 := h4.below b45
        replace k3 := k3.below b45
        replace k8 := k8.below b45
        replace hB := Qe hB b45
        replace hL := LL.below hL b45
        refine Va (Qd9 rfl rfl rfl Lr42 Lr42) rfl rfl (Ni (hK41 ?_))
        refine WC.cond rfl (fun c46 => ?_) (fun c46 => ?_)
        .
         replace c46 := Q4 c46
         exact absurd rfl (of_decide_eq_false c46)
        .
         replace c46 := Q2 c46
         replace c46 := dT c46
         refine WC.skip (hK40 (Rg (Pu rfl (Va (QR (r := (i : Int) + 1) rfl rfl rfl (Qm (by omega))) rfl rfl (Pu rfl (Ni ?_))))))
         exact hK35 (i + 1) ⟨(by omega), hB, hL, h1, h2, h3, h4, k3, k8⟩ (by omega) (by repeat first | exact trivial | refine aR ?_ | refine aI (by omega) ?_)
      .
       replace c39 := dF c39
       refine WC.exit ?_
       refine hK33 (Sq fun K47 hK47 => (Rg (Pu rfl (Ni (hK47 ?_)))))
       exact WC.ret fun a_ ha_ => hQ (QI rfl (.tmp rfl) rfl hB ha_)

end Go.Proofs.YtfachlmgdlnpoaaDoor
