/- The records of a half. Records, laid in a half. Disks, logs, records, as arguments; the tables of the sum. Records, Format, Open, Append, Compact. App -/
import Derived.Test.YtfachlmgdlnpoaaDoorTie
import Derived.Test.YtfachlmgdlnpoaaDoorCards
import Derived.Lib.LaidTab
import Derived.Deep.Strs
import Derived.ChangeSame
import Derived.Stop.LaidErr
import Derived.MakeChecks
import Derived.Deep.DeepHandedRow
import Derived.Lay
import Derived.LaidLaws
import Derived.SevenTiedAt
import Derived.Test.YtfachlmgdlnpoaaDoorHC
namespace Go.Proofs.YtfachlmgdlnpoaaDoor
open Go.RowKit
set_option linter.unusedVariables false
set_option linter.unusedSimpArgs false
set_option maxRecDepth 8000
set_option maxHeartbeats 2000000

abbrev RcV := List Int × Value
abbrev encR (r : RcV) : List Value := [r.2]
def RdRs (L : List Nat) (w : World) (rs : List RcV) : Prop := ∀ r ∈ rs, RdF 1 L w r.2 (e8s r.1)
def LsR (base : Nat) (L : List Nat) (rs : List RcV) (u : Value) (W : World) : Prop := (u = .slice none 0 0 ∧ rs = []) ∨ ∃ D, base ≤ D ∧ D ∉ L ∧ OwS 1 W u (rs.map encR) D ∧ RdRs (D :: L) W rs
section
variable {base : Nat} {L L' : List Nat} {rs : List RcV} {u : Value} {w w' : World}
theorem LsR.nil : LsR base L [] (.slice none 0 0) w := .inl ⟨rfl, rfl⟩
theorem LsR.below (h : LsR base L rs u w) (hb : Below w.heap.size w w') : LsR base L rs u w' := by
 rcases h with h | ⟨D, h1, h2, h3, h4⟩
 · exact .inl h
 · exact .inr ⟨D, h1, h2, h3.below hb, fun r hr => (h4 r hr).below hb⟩
theorem LsR.more (h : LsR base L rs u w) (hb : Below w.heap.size w w') {B : Nat} (hB : w.heap.size ≤ B) : LsR base (B :: L) rs u w' := by
  rcases h with h | ⟨D, h1, h2, h3, h4⟩
  · exact .inl h
  · have hlt := h3.lt
    exact .inr ⟨D, h1, fun e => by rcases List.mem_cons.1 e with e | e; omega; exact h2 e, h3.below hb, fun r hr => ((h4 r hr).more hb hB).less fun x hx => by simp only [List.mem_cons] at hx ⊢; rcases hx with h | h | h <;> simp [h]⟩
theorem LsR.less (h : LsR base L rs u w) (hl : ∀ x, x ∈ L' → x ∈ L) : LsR base L' rs u w := by
 rcases h with h | ⟨D, h1, h2, h3, h4⟩
 · exact .inl h
 · exact .inr ⟨D, h1, fun e => h2 (hl D e), h3, fun r hr => (h4 r hr).less fun x hx => by rcases List.mem_cons.1 hx with h | h; exact h ▸ .head _; exact .tail _ (hl x h)⟩
theorem LsR.only (h : LsR base L rs u w) {B : Nat} (ho : Only B w w') (hB : B ∈ L) : LsR base L rs u w' := by
 rcases h with h | ⟨D, h1, h2, h3, h4⟩
 · exact .inl h
 · exact .inr ⟨D, h1, h2, h3.other ho (fun e => h2 (e ▸ hB)), fun r hr => (h4 r hr).only ho (.tail _ hB)⟩
theorem LsR.chgL (h : LsR base L rs u w) {B : Nat} (g : Chg B w w') (hB : B ∈ L) : LsR base L rs u w' := by
 rcases h with h | ⟨D, h1, h2, h3, h4⟩
 · exact .inl h
 · exact .inr ⟨D, h1, h2, h3.chgL g (fun e => h2 (e ▸ hB)), fun r hr => (h4 r hr).chgL g (.tail _ hB)⟩
theorem LsR.ltD (h : LsR base L rs u w) : ∀ {w' rs' D}, OwS 1 w' u rs' D → D < w.heap.size := fun {w' rs' D} hD => by
 rcases h with ⟨rfl, _⟩ | ⟨B, hB, _, hO, _⟩
 · obtain ⟨_, _, cap, sp, e, _⟩ := hD; cases e
 · exact NewW.ltD (.inr ⟨B, hB, hO⟩) hD
theorem LsR.one (h : LsR base L rs u w) : u.oneCell' = true := by
 rcases h with ⟨rfl, _⟩ | ⟨B, _, _, hO, _⟩
 · rfl
 · exact hO.one
theorem LsR.rd (h : LsR base L rs u w) {L0 : List Nat} (hL0 : ∀ x ∈ L0, x < base) (hl : ∀ x, x ∈ L0 → x ∈ L) : RdF 1 L0 w u (rs.map encR) ∧ RdRs L0 w rs := by
 rcases h with ⟨rfl, rfl⟩ | ⟨D, h1, h2, h3, h4⟩
 · exact ⟨RdF.nil (by decide), fun r hr => by cases hr⟩
 · exact ⟨h3.rd (fun e => by have := hL0 D e; omega), fun r hr => (h4 r hr).less fun x hx => .tail _ (hl x hx)⟩
end
section
variable {P : Program} {ops : Array Oper} {o : Oper} {N : Nat} {f : Fl} {w : World}
theorem dx_apL {t bytes base n0 : Nat} {x y : Operand} {u v2 dv : Value} {rs : List RcV} {z : List Int} {L : List Nat} {Cs : List (Nat × List Value)} (ho : o.op = .call { callee := .builtin .append, args := #[x, y], argTypes := #[t, t] }) (ht : apB P t 1 bytes = true) (hx : ev f x = some u) (hy : ev f y = some v2)
    (h : LsR base L rs u w) (h2 : RdF 1 [] w v2 [[dv]]) (hn : NewW 1 n0 (e8s z) dv w) (hLn : ∀ x ∈ L, x < n0) (hDn : ∀ {w' rs' D}, OwS 1 w' u rs' D → D < n0) (hm : rs.length + 1 ≤ maxLen) (hby : (rs.length + 1) * bytes ≤ 140737488355328) (hb : base ≤ w.heap.size) (hL : LL L w) (hC : ∀ c ∈ Cs, Blk w c.1 c.2 ∧ c.1 ∈ L) (hw : wantF ops o f = some true := by rfl) : DR P ops o N f w fun u' W => LsR base L (rs ++ [(z, dv)]) u' W ∧ Below base w W ∧ w.heap.size ≤ W.heap.size ∧ ∀ c ∈ Cs, Blk W c.1 c.2 := fun a ha => by
  have hone : ∀ r ∈ [[dv]], ∀ u ∈ r, u.oneCell' = true := fun r hr u hu => by
    rw [List.mem_singleton.1 hr] at hu
    rw [List.mem_singleton.1 hu]
    exact (hn.rd (L := []) (fun x hx => by cases hx)).one
  rcases h with ⟨rfl, rfl⟩ | ⟨D, h1, hDL, hO, hrs⟩
  · refine Does.mono (dx_apF (rs := []) (L := []) ho ht hx hy (RdF.nil (by decide)) h2 (by simp) (by simpa using hm) (by simpa using hby) hw a ha) fun v W ⟨k1, k2, k3⟩ => ⟨.inr ⟨w.heap.size, hb, fun e => Nat.lt_irrefl _ (hL _ e), k1, fun r hr => ?_⟩, k2.mono hb, Nat.le_of_lt k3, fun c hc => (hC c hc).1.below k2⟩
    rw [List.nil_append, List.mem_singleton] at hr
    subst hr
    exact (hn.rd hLn).more k2 (Nat.le_refl _)
  · refine Does.mono (dx_apO' ho ht hx hy hO h2 hone (by rw [List.length_map]; exact hm) (by rw [List.length_map]; exact hby) hw a ha) fun v W ⟨B', k1, k2⟩ => ⟨.inr ⟨B', k2.le h1 hb, ?_, ?_, fun r hr => ?_⟩, k2.from_base h1 hb, k2.size, fun c hc => (hC c hc).1.grow k2 (fun e => hDL (e ▸ (hC c hc).2))⟩
    · intro e
      have := k2.new
      rcases this with rfl | hh
      · exact hDL e
      · have := hL _ e; omega
    · rw [List.map_append]; exact k1
    · rcases List.mem_append.1 hr with hr | hr
      · exact (hrs r hr).grow k2
      · rw [List.mem_singleton] at hr
        subst hr
        exact (hn.rd (L := D :: L) (fun x hx => by rcases List.mem_cons.1 hx with h | h; exact h ▸ hDn hO; exact hLn x h)).grow k2
end
def recs1 (pg : Nat → Option Pg) (sz n : Nat) (gen : Int) : Nat → Nat → List (List Int) → Option (List (List Int) × Nat)
 | 0, _, _ => none
 | f + 1, k, l => if k < 1 + n then (match recD pg sz k gen with
   | none => none
   | some (out, k') => if 1 + n < k' then none else recs1 pg sz n gen f k' (l ++ [out])) else some (l, k)
def recs2 (pg : Nat → Option Pg) (sz : Nat) (gen : Int) : Nat → Nat → List (List Int) → List (List Int) × Nat
 | 0, k, l => (l, k)
 | f + 1, k, l => match recD pg sz k gen with
  | none => (l, k)
  | some (out, k') => recs2 pg sz gen f k' (l ++ [out])
def recsD (pg : Nat → Option Pg) (sz : Nat) : Option (List (List Int) × Int × Nat) := match pg 0 with
 | none => none
 | some p => match snapD p with
  | none => none
  | some n => if (sz : Int) - 1 < n then none else match recs1 pg sz n.toNat p.gen (sz + 1) 1 [] with
   | none => none
   | some (l, k) => some ((recs2 pg sz p.gen (sz + 1 - k) k l).1, p.gen, (recs2 pg sz p.gen (sz + 1 - k) k l).2)
theorem recs1_0 {pg : Nat → Option Pg} {sz n f k : Nat} {gen : Int} {l : List (List Int)} (h : ¬ k < 1 + n) : recs1 pg sz n gen (f + 1) k l = some (l, k) := by rw [recs1, if_neg h]
theorem recs1_n {pg : Nat → Option Pg} {sz n f k : Nat} {gen : Int} {l : List (List Int)} (h : k < 1 + n) (hr : recD pg sz k gen = none) : recs1 pg sz n gen (f + 1) k l = none := by rw [recs1, if_pos h, hr]
theorem recs1_o {pg : Nat → Option Pg} {sz n f k k' : Nat} {gen : Int} {l : List (List Int)} {out : List Int} (h : k < 1 + n) (hr : recD pg sz k gen = some (out, k')) (h2 : 1 + n < k') : recs1 pg sz n gen (f + 1) k l = none := by rw [recs1, if_pos h, hr]; dsimp only; rw [if_pos h2]
theorem recs1_c {pg : Nat → Option Pg} {sz n f k k' : Nat} {gen : Int} {l : List (List Int)} {out : List Int} (h : k < 1 + n) (hr : recD pg sz k gen = some (out, k')) (h2 : ¬ 1 + n < k') : recs1 pg sz n gen (f + 1) k l = recs1 pg sz n gen f k' (l ++ [out]) := by rw [recs1, if_pos h, hr]; dsimp only; rw [if_neg h2]
theorem recs2_n {pg : Nat → Option Pg} {sz k : Nat} {gen : Int} {l : List (List Int)} (hr : recD pg sz k gen = none) : ∀ f, recs2 pg sz gen f k l = (l, k)
 | 0 => rfl
 | f + 1 => by rw [recs2, hr]
theorem recs2_c {pg : Nat → Option Pg} {sz f k k' : Nat} {gen : Int} {l : List (List Int)} {out : List Int} (hr : recD pg sz k gen = some (out, k')) : recs2 pg sz gen (f + 1) k l = recs2 pg sz gen f k' (l ++ [out]) := by rw [recs2, hr]
section
variable {pg : Nat → Option Pg} {sz : Nat} {p : Pg} {n : Int}
theorem recsD_p (h : pg 0 = none) : recsD pg sz = none := by unfold recsD; rw [h]
theorem recsD_s (h : pg 0 = some p) (h2 : snapD p = none) : recsD pg sz = none := by unfold recsD; rw [h]; dsimp only; rw [h2]
theorem recsD_l (h : pg 0 = some p) (h2 : snapD p = some n) (h3 : (sz : Int) - 1 < n) : recsD pg sz = none := by unfold recsD; rw [h]; dsimp only; rw [h2]; dsimp only; rw [if_pos h3]
theorem recsD_1 {N : Nat} (h : pg 0 = some p) (h2 : snapD p = some n) (h3 : ¬ (sz : Int) - 1 < n) (hN : n.toNat = N) (h4 : recs1 pg sz N p.gen (sz + 1) 1 [] = none) : recsD pg sz = none := by subst hN; unfold recsD; rw [h]; dsimp only; rw [h2]; dsimp only; rw [if_neg h3, h4]
theorem recsD_k {N k k2 : Nat} {l l2 : List (List Int)} (h : pg 0 = some p) (h2 : snapD p = some n) (h3 : ¬ (sz : Int) - 1 < n) (hN : n.toNat = N) (h4 : recs1 pg sz N p.gen (sz + 1) 1 [] = some (l, k)) (h5 : recs2 pg sz p.gen (sz + 1 - k) k l = (l2, k2)) : recsD pg sz = some (l2, p.gen, k2) := by subst hN; unfold recsD; rw [h]; dsimp only; rw [h2]; dsimp only; rw [if_neg h3, h4]; dsimp only; rw [h5]
end
theorem snapD_nn {p : Pg} {n : Int} (h : snapD p = some n) (hb : Byt p.dat) : 0 ≤ n ∧ n < 4294967296 := by
  unfold snapD at h
  split at h
  · rename_i hc
    cases h
    have hl : (p.dat.drop 3).length = 4 := by rw [List.length_drop]; omega
    have := valN_lt (p.dat.drop 3) fun x hx => hb x (List.mem_of_mem_drop hx)
    rw [hl] at this
    unfold getS
    have e : (2 : Int) ^ (8 * 4) = 4294967296 := by decide
    rw [e] at this
    rw [wrap64_id (by omega)]
    exact this
  · cases h
def RecU (x : Option (List Int × Nat)) (st sz n0 : Nat) (out : List Int) (k' : Nat) (dv : Value) (b : Bool) (W : World) : Prop := (b = true → x = some (out, k') ∧ NewW 1 n0 (e8s out) dv W ∧ Byt out ∧ st < k' ∧ k' ≤ sz ∧ out.length ≤ 100 * (k' - st)) ∧ (b = false → x = none ∧ k' = st)
theorem rec_u (secs : List (List Int)) (loose : List (Int × List Int)) (fuse : Int) (down : Bool) (s1 s2 : Value) (fr gen : Int) (sz st : Nat) (P : Nat) (w : World) (L : List Nat) (hL : LL L w) (hPL : P ∈ L) (hp : Blk w P [s1, s2, .int .i64 fuse, .bool down, .int .i64 fr, .int .i64 (sz : Int), .int .i64 gen, .int .i64 (st : Int)]) (h1 : RdF 128 L w s1 (secs.map encS)) (h2 : RdF 129 L w s2 (loose.map encW)) (hfr : 0 ≤ fr ∧ fr ≤ 100000) (hsz : sz ≤ 2048) (hst : st ≤ 100000) (hbd : BytD secs loose) (tabC : ∀ {W}, Chg P w W → TabS W) :
  CW Tryd.prog 62 [.pointer (some ⟨P, 0, none⟩)] w P fun v W => ∃ (out : List Int) (k' : Nat) (dv : Value) (b : Bool), v = .tuple #[dv, .bool b] ∧ RecU (recD (pgA secs loose down fr) sz st gen) st sz w.heap.size out k' dv b W ∧ Blk W P [s1, s2, .int .i64 fuse, .bool down, .int .i64 fr, .int .i64 (sz : Int), .int .i64 gen, .int .i64 (k' : Int)] :=
 Calls.mono (rec_v secs loose fuse down s1 s2 fr gen sz st P w L hL hPL hp h1 h2 hp.lt hfr hsz hst hbd tabC) fun e w' h => by
  obtain ⟨v, he, ⟨out, k', dv, h1, h2, h3, h4, h5⟩ | ⟨h1, h2, h3⟩, hc⟩ := h
  · exact ⟨v, he, ⟨out, k', dv, true, h1, ⟨fun _ => ⟨h2, h3, h5⟩, fun h => (by cases h)⟩, h4⟩, hc⟩
  · exact ⟨v, he, ⟨[], st, _, false, h1, ⟨fun h => (by cases h), fun _ => ⟨h2, rfl⟩⟩, h3⟩, hc⟩
set_option maxHeartbeats 1000000 in
theorem recs_v (secs : List (List Int)) (loose : List (Int × List Int)) (fuse : Int) (down : Bool) (s1 s2 : Value) (fr : Int) (sz : Nat) (w : World) (L : List Nat) (hL : LL L w)   (hL0 : LL L w) (h1 : RdF 128 L w s1 (secs.map encS)) (h2 : RdF 129 L w s2 (loose.map encW)) (hfr : 0 ≤ fr ∧ fr ≤ 100000) (hsz : sz ≤ 2048) (hbd : BytD secs loose) (hT : TabS w) : CV Tryd.prog 39 [.agg #[s1, s2, .int .i64 fuse, .bool down, .int .i64 fr, .int .i64 (sz : Int)]] w fun v W => (∃ (rs : List RcV) (lv : Value) (g : Int) (used : Nat), v = .tuple #[lv, .int .i64 g, .bool true] ∧ recsD (pgA secs loose down fr) sz = some (rs.map Prod.fst, g, used) ∧ RdF 1 L W lv (rs.map encR) ∧ RdRs L W rs ∧ (∀ r ∈ rs, Byt r.1 ∧ r.1.length ≤ 300000) ∧ used ≤ sz + 1 ∧ rs.length + 1 ≤ used) ∨ (v = .tuple #[.slice none 0 0, .int .i64 0, .bool false] ∧ recsD (pgA secs loose down fr) sz = none) := by
 refine cv_enter (N := 80) (f := [(0, .agg #[s1, s2, .int .i64 fuse, .bool down, .int .i64 fr, .int .i64 (sz : Int)])]) Tryd.func39 rfl rfl rfl rfl fun Q hQ hE => ?_
 have hB := Below.refl w.heap.size w
 refine Sq fun K1 hK1 => (Rg ?_)
 refine Ge (dx_box rfl rfl rfl) rfl rfl ?_
 rintro _ W2 ⟨rfl, k3, b4, z5⟩
 have l6 := hB.size
 replace hB := below_then hB b4
 replace hL := LL.more hL z5
 refine Pu rfl (Pu rfl (Pu rfl (Ni (hK1 (Sq fun K7 hK7 => (Rg ?_))))))
 refine Ge (dx_cv rfl Tryd.func60 rfl rfl rfl (page_v secs loose fuse down s1 s2 fr (sz : Int) 0 w.heap.size [] W2 [] (LL.nil _) ((h1.less (fun x hx => by cases hx)).below hB) ((h2.less (fun x hx => by cases hx)).below hB) k3 hfr (by decide) hbd (hT.below hB))) rfl rfl ?_
 rintro _ W9 ⟨⟨p, dv, ub, rfl, hdv, hun, hpy, hpl⟩, b8⟩
 replace k3 := k3.below b8
 replace hB := below_then hB b8
 replace hL := LL.below hL b8
 refine Pu rfl (Pu rfl (Pu rfl ?_))
 refine Ge (dx_alloc rfl ty_zero_85 rfl) rfl rfl ?_
 rintro _ W10 ⟨rfl, k11, b12, z13⟩
 have n14 : w.heap.size ≠ W9.heap.size := Nat.ne_of_lt k3.lt
 have l15 := hB.size
 replace hdv := hdv.more b12 (Nat.le_refl _)
 replace k3 := k3.below b12
 replace hB := below_then hB b12
 replace hL := LL.more hL z13
 refine WL.do (dx_store (cs' := [.int .i64 p.gen, .int .i64 p.idx, .int .i64 p.mks, dv]) (vs := [.int .i64 p.gen, .int .i64 p.idx, .int .i64 p.mks, dv]) rfl ty_size_85_4 rfl rfl rfl (oC rfl (oC rfl (oC rfl (oC hdv.one oc_nil)))) k11 rfl (nB rfl) rfl) rfl ?_
 rintro _ W16 ⟨k18, o17⟩
 replace k3 := k3.other o17 n14
 clear k11
 replace hdv := hdv.only o17 (.head _)
 replace hB := o17.below hB l15
 replace hL := LL.only hL o17
 refine Pu rfl (Ni (hK7 (Sq fun K19 hK19 => (Sq fun K20 hK20 => ?_))))
 cases ub
 ·
  have hpn : pgA secs loose down fr 0 = none := hun.2 rfl
  refine Rg (Pu rfl (Va (dx_not rfl rfl) rfl rfl (Ni (hK20 (WC.condT rfl (Sq fun K21 hK21 => (Rg ?_)))))))
  refine Pu rfl (Pu rfl (Pu rfl (Ni (hK21 ?_))))
  exact WC.ret fun a_ ha_ => hQ (cv_ret3 rfl (.tmp rfl) (.tmp rfl) (.tmp rfl) (.inr ⟨rfl, recsD_p hpn⟩) hB ha_)
 ·
  have hpk : pgA secs loose down fr 0 = some p := hun.1 rfl
  refine Rg (Pu rfl (Va (dx_not rfl rfl) rfl rfl (Ni (hK20 (WC.condF rfl (WC.skip (hK19 ?_)))))))
  refine Sq fun K22 hK22 => (Rg (Va (dx_loadN rfl ty_agg_85_4 rfl k18.range rfl) rfl rfl ?_))
  refine Ge (dx_cv rfl Tryd.func61 rfl rfl rfl (snap_v p dv W16 [] (LL.nil _) (hdv.less (fun x hx => by cases hx)) hpy)) rfl rfl ?_
  rintro _ W24 ⟨⟨n, sb, rfl, hsn⟩, b23⟩
  replace k3 := k3.below b23
  replace k18 := k18.below b23
  replace hB := below_then hB b23
  replace hL := LL.below hL b23
  refine Pu rfl (Pu rfl (Pu rfl (Pu rfl (Pu rfl (Ni (hK22 (Sq fun K25 hK25 => ?_)))))))
  refine Sq fun K26 hK26 => ?_
  cases sb
  ·
   have hsk := hsn.2 rfl
   refine Rg (Pu rfl (Va (dx_not rfl rfl) rfl rfl (Pu rfl (Of rfl (Of rfl (Of rfl (Of rfl ?_)))))))
   refine Of rfl (Pu rfl (Ni (hK26 (WC.condT rfl (Sq fun K27 hK27 => (Rg (Pu rfl ?_)))))))
   refine Pu rfl (Pu rfl (Ni (hK27 ?_)))
   exact WC.ret fun a_ ha_ => hQ (cv_ret3 rfl (.tmp rfl) (.tmp rfl) (.tmp rfl) (.inr ⟨rfl, recsD_s hpk hsk⟩) hB ha_)
  ·
   have hsk := hsn.1 rfl
   have hnn := snapD_nn hsk hpy
   refine Rg (Pu rfl (Va (dx_not rfl rfl) rfl rfl (Pu rfl (Pu rfl (Va (dx_fld (o1 := 5) rfl ty_fld_71_2_5 rfl rfl) rfl rfl (Va (dx_load rfl ty_one_3 rfl (k3.cell (k := 5) rfl)) rfl rfl (Va (dx_sub (r := (sz : Int) - 1) rfl rfl rfl (wrap64_id (by omega))) rfl rfl ?_)))))))
   refine Va (dx_gtr rfl rfl rfl) rfl rfl (Pu rfl (Ni (hK26 ?_)))
   refine WC.cond rfl (fun c28 => ?_) (fun c28 => ?_)
   ·
    replace c28 := dT c28
    refine Sq fun K29 hK29 => (Rg (Pu rfl (Pu rfl (Pu rfl (Ni (hK29 ?_))))))
    exact WC.ret fun a_ ha_ => hQ (cv_ret3 rfl (.tmp rfl) (.tmp rfl) (.tmp rfl) (.inr ⟨rfl, recsD_l hpk hsk (by first | omega | (simp_all; omega))⟩) hB ha_)
   ·
    replace c28 := dF c28
    refine WC.skip (hK25 (Sq fun K30 hK30 => ?_))
    obtain ⟨N, hN⟩ : ∃ N : Nat, n.toNat = N := ⟨_, rfl⟩
    have hNn : n = (N : Int) := by omega
    have hNs : N + 1 ≤ sz := by first | omega | (simp_all; omega)
    refine Rg (Va (dx_loadN rfl ty_agg_71_6 rfl k3.range rfl) rfl rfl (Va (dx_fld (o1 := 0) rfl ty_fld_85_0_0 rfl rfl) rfl rfl (Va (dx_load rfl ty_one_3 rfl (k18.cell (k := 0) rfl)) rfl rfl (Va (dx_build rfl rfl (bld_reader _ _ _ _ _ _ _ _)) rfl rfl ?_))))
    refine Ge (dx_box rfl rfl rfl) rfl rfl ?_
    rintro _ W31 ⟨rfl, k32, b33, z34⟩
    have n35 : w.heap.size ≠ W24.heap.size := Nat.ne_of_lt k3.lt
    have n36 : W9.heap.size ≠ W24.heap.size := Nat.ne_of_lt k18.lt
    have l37 := hB.size
    replace k3 := k3.below b33
    replace k18 := k18.below b33
    replace hB := below_then hB b33
    replace hL := LL.more hL z34
    refine Pu rfl (Ni (hK30 (Sq fun K38 hK38 => (Rg (Pu rfl (Ni (hK38 ?_)))))))
    refine Sq fun K39 hK39 => (WC.block ?_)
    have hls : LsR w.heap.size (W24.heap.size :: W9.heap.size :: w.heap.size :: L) ([] : List RcV) (.slice none 0 0) W31 := LsR.nil
    refine WC.loop3 (fun (k : Nat) (rs : List RcV) (lv : Value) => [(1, .pointer (some ⟨w.heap.size, 0, none⟩)), (2, .slice none 0 0), (3, .int .i64 0), (4, .bool false), (5, .pointer (some ⟨W9.heap.size, 0, none⟩)), (7, .int .i64 n), (8, .pointer (some ⟨W24.heap.size, 0, none⟩)), (9, lv)]) (fun (k : Nat) (rs : List RcV) (lv : Value) W => 1 ≤ k ∧ k ≤ sz + 1 ∧ (∃ f, sz + 2 - k ≤ f ∧ recs1 (pgA secs loose down fr) sz N p.gen (sz + 1) 1 [] = recs1 (pgA secs loose down fr) sz N p.gen f k (rs.map Prod.fst)) ∧ rs.length + 1 ≤ k ∧ (∀ r ∈ rs, Byt r.1 ∧ r.1.length ≤ 300000) ∧ Below w.heap.size w W ∧ LL (W24.heap.size :: W9.heap.size :: w.heap.size :: L) W ∧ LsR w.heap.size (W24.heap.size :: W9.heap.size :: w.heap.size :: L) rs lv W ∧ Blk W w.heap.size [s1, s2, .int .i64 fuse, .bool down, .int .i64 fr, .int .i64 (sz : Int)] ∧ Blk W W9.heap.size [.int .i64 p.gen, .int .i64 p.idx, .int .i64 p.mks, dv] ∧ Blk W W24.heap.size [s1, s2, .int .i64 fuse, .bool down, .int .i64 fr, .int .i64 (sz : Int), .int .i64 p.gen, .int .i64 (k : Int)]) (fun (k : Nat) (rs : List RcV) (lv : Value) => sz + 1 - k) 1 ([] : List RcV) (.slice none 0 0) (by repeat first | exact trivial | refine aR ?_ | refine aI (by omega) ?_) ⟨(Nat.le_refl _), (by omega), ⟨sz + 1, by omega, rfl⟩, (Nat.le_refl _), (fun r hr => by cases hr), hB, hL, hls, k3, k18, k32⟩ ?_
    clear hls k3 k18 k32 hB hL
    rintro K40 k rs lv W41 ⟨hk1, hk2, hv, hrl, hrb, hB, hL, hls, k3, k18, k32⟩ hK40
    refine Sq fun K42 hK42 => (Sq fun K43 hK43 => (Rg (Pu rfl (Va (dx_nilCheck rfl rfl) rfl rfl (Va (dx_fld (o1 := 7) rfl ty_fld_116_2_7 rfl rfl) rfl rfl (Va (dx_load rfl ty_one_3 rfl (k32.cell (k := 7) rfl)) rfl rfl (Pu rfl ?_)))))))
    refine Va (dx_add (r := 1 + n) rfl rfl rfl (by rw [wrap64_id (by omega)])) rfl rfl (Va (dx_lss rfl rfl rfl) rfl rfl (Ni (hK43 ?_)))
    refine WC.cond rfl (fun c44 => ?_) (fun c44 => ?_)
    ·
     replace c44 := dT c44
     refine WC.skip (hK42 (WC.block (Sq fun K45 hK45 => (Rg (Pu rfl ?_)))))
     have hLr := hL
     have hDr : ∀ {w_ : World} {rs_ : List (List Value)} {D : Nat}, OwS 1 w_ lv rs_ D → D < W41.heap.size := fun hD => hls.ltD hD
     refine Ge (dx_cw rfl Tryd.func62 rfl rfl rfl (rec_u secs loose fuse down s1 s2 fr p.gen sz k W24.heap.size W41 [W24.heap.size] (LL.cons (LL.nil _) k32.lt) (.head _) k32 (((h1.less (L' := []) (fun x hx => by cases hx)).more (Below.refl _ _) l37).below hB) (((h2.less (L' := []) (fun x hx => by cases hx)).more (Below.refl _ _) l37).below hB) hfr hsz (by omega) hbd (fun {_} g => hT.below (g.toBelow hB l37)))) rfl rfl ?_
     rintro _ W52 ⟨⟨out46, kk47, dv48, rb49, rfl, hre50, hp53⟩, g51⟩
     replace hls := hls.chgL g51 (.head _)
     replace k3 := k3.chg g51 n35
     replace k18 := k18.chg g51 n36
     replace hB := g51.toBelow hB l37
     replace hL := hL.chg g51
     refine Pu rfl (Pu rfl (Pu rfl (Pu rfl (Pu rfl (Ni (hK45 (Sq fun K54 hK54 => ?_)))))))
     refine Sq fun K55 hK55 => (Rg (Pu rfl (Va (dx_not rfl rfl) rfl rfl (Pu rfl ?_))))
     refine WL.split 53 rfl (fun g56 => ?_) (fun g56 => ?_)
     ·
      replace g56 := bnot_t g56
      replace g56 := bvar_f g56
      refine Of rfl (Of rfl (Of rfl (Of rfl (Of rfl (Of rfl (Of rfl (Pu rfl ?_)))))))
      refine Ni (hK55 (WC.condT rfl (Sq fun K57 hK57 => (Rg (Pu rfl (Pu rfl (Pu rfl ?_)))))))
      refine Ni (hK57 ?_)
      exact WC.ret fun a_ ha_ => hQ (cv_ret3 rfl (.tmp rfl) (.tmp rfl) (.tmp rfl) (.inr ⟨rfl, recsD_1 hpk hsk (by omega) hN (by obtain ⟨f_, hf1_, hf2_⟩ := hv; obtain ⟨g_, rfl⟩ : ∃ g, f_ = g + 1 := ⟨f_ - 1, by omega⟩; refine hf2_.trans ?_; cases hb_ : rb49 with | false => exact recs1_n (by omega) (hre50.2 hb_).1 | true => exact recs1_o (by omega) (hre50.1 hb_).1 (by simp_all <;> omega))⟩) hB ha_)
     ·
      replace g56 := bnot_f g56
      refine Pu rfl (Va (dx_nilCheck rfl rfl) rfl rfl (Va (dx_fld (o1 := 7) rfl ty_fld_116_2_7 rfl rfl) rfl rfl (Va (dx_load rfl ty_one_3 rfl (hp53.cell (k := 7) rfl)) rfl rfl (Pu rfl (Va (dx_add (r := 1 + n) rfl rfl rfl (wrap64_id (by omega))) rfl rfl (Va (dx_gtr rfl rfl rfl) rfl rfl (Pu rfl ?_)))))))
      refine Ni (hK55 ?_)
      refine WC.cond rfl (fun c58 => ?_) (fun c58 => ?_)
      ·
       replace c58 := dT c58
       refine Sq fun K59 hK59 => (Rg (Pu rfl (Pu rfl (Pu rfl (Ni (hK59 ?_))))))
       exact WC.ret fun a_ ha_ => hQ (cv_ret3 rfl (.tmp rfl) (.tmp rfl) (.tmp rfl) (.inr ⟨rfl, recsD_1 hpk hsk (by omega) hN (by obtain ⟨f_, hf1_, hf2_⟩ := hv; obtain ⟨g_, rfl⟩ : ∃ g, f_ = g + 1 := ⟨f_ - 1, by omega⟩; refine hf2_.trans ?_; cases hb_ : rb49 with | false => exact recs1_n (by omega) (hre50.2 hb_).1 | true => exact recs1_o (by omega) (hre50.1 hb_).1 (by simp_all <;> omega))⟩) hB ha_)
      ·
       replace c58 := dF c58
       refine WC.skip (hK54 (Rg (Pu rfl (Pu rfl ?_))))
       obtain ⟨hr1, hr2, hr3, hr4, hr5, hr6⟩ := hre50.1 (by first | assumption | simp_all)
       refine Ge (dx_lit1 (r := [dv48]) rfl ty_ap_31 (by decide) (by decide) rfl (oc_one (hr2.rd (L := []) (fun x hx => by cases hx)).one) rfl) rfl rfl ?_
       rintro u64 W60 ⟨k61, b62, z63⟩
       replace hls := hls.below b62
       replace k3 := k3.below b62
       replace k18 := k18.below b62
       replace hp53 := hp53.below b62
       replace hB := below_then hB b62
       replace hL := LL.below hL b62
       refine Ge (dx_apL (base := w.heap.size) (n0 := W41.heap.size) (Cs := [(w.heap.size, [s1, s2, .int .i64 fuse, .bool down, .int .i64 fr, .int .i64 (sz : Int)]), (W9.heap.size, [.int .i64 p.gen, .int .i64 p.idx, .int .i64 p.mks, dv]), (W24.heap.size, [s1, s2, .int .i64 fuse, .bool down, .int .i64 fr, .int .i64 (sz : Int), .int .i64 p.gen, .int .i64 (kk47 : Int)])]) rfl ty_ap_31 rfl rfl hls (k61.rd (L := []) (by simp)) (hr2.below b62) hLr hDr (by unfold maxLen; omega) (by omega) hB.size hL (fun c hc => by simp only [List.mem_cons, List.not_mem_nil, or_false] at hc; rcases hc with rfl | rfl | rfl; exact ⟨k3, (.tail _ (.tail _ (.head _)))⟩; exact ⟨k18, (.tail _ (.head _))⟩; exact ⟨hp53, (.head _)⟩)) rfl rfl ?_
       rintro u65 W66 ⟨hls2, b67, z68, hk69⟩
       replace k3 := hk69 _ (.head _)
       replace k18 := hk69 _ (.tail _ (.head _))
       replace hp53 := hk69 _ (.tail _ (.tail _ (.head _)))
       replace hB := hB.trans b67
       replace hL : LL (W24.heap.size :: W9.heap.size :: w.heap.size :: L) W66 := fun x hx => Nat.lt_of_lt_of_le (hL x hx) z68
       refine Pu rfl (Ni ?_)
       exact hK40 kk47 (rs ++ [(out46, dv48)]) u65 ⟨(by omega), (by omega), (by obtain ⟨f_, hf1_, hf2_⟩ := hv; obtain ⟨g_, rfl⟩ : ∃ g, f_ = g + 1 := ⟨f_ - 1, by omega⟩; exact ⟨g_, by omega, hf2_.trans ((recs1_c (by omega) hr1 (by first | omega | (simp_all; omega))).trans (by rw [List.map_append]; rfl))⟩), (by rw [List.length_append]; simp only [List.length_singleton]; omega), (fun r hr => by rcases List.mem_append.1 hr with h_ | h_; exact hrb r h_; rw [List.mem_singleton.1 h_]; exact ⟨hr3, by show out46.length ≤ 300000; omega⟩), hB, hL, hls2, k3, k18, hp53⟩ (by omega) (by repeat first | exact trivial | refine aR ?_ | refine aI (by omega) ?_)
    ·
     replace c44 := dF c44
     refine WC.exit ?_
     refine hK39 (WC.block ?_)
     have hv1 : recs1 (pgA secs loose down fr) sz N p.gen (sz + 1) 1 [] = some (rs.map Prod.fst, k) := by obtain ⟨f_, hf1_, hf2_⟩ := hv; obtain ⟨g_, rfl⟩ : ∃ g, f_ = g + 1 := ⟨f_ - 1, by omega⟩; exact hf2_.trans (recs1_0 (by omega))
     obtain ⟨k0, hk0⟩ : ∃ k0, k0 = k := ⟨_, rfl⟩
     obtain ⟨l0, hl0⟩ : ∃ l0, l0 = rs.map Prod.fst := ⟨_, rfl⟩
     rw [← hk0, ← hl0] at hv1
     have hv2 : ∃ f, sz + 1 - k ≤ f ∧ recs2 (pgA secs loose down fr) sz p.gen (sz + 1 - k0) k0 l0 = recs2 (pgA secs loose down fr) sz p.gen f k (rs.map Prod.fst) := ⟨sz + 1 - k0, by omega, by rw [hk0, hl0]⟩
     clear hv hk0 hl0
     refine WC.loop3 (fun (k : Nat) (rs : List RcV) (lv : Value) => [(1, .pointer (some ⟨w.heap.size, 0, none⟩)), (2, .slice none 0 0), (3, .int .i64 0), (4, .bool false), (5, .pointer (some ⟨W9.heap.size, 0, none⟩)), (7, .int .i64 n), (8, .pointer (some ⟨W24.heap.size, 0, none⟩)), (9, lv)]) (fun (k : Nat) (rs : List RcV) (lv : Value) W => 1 ≤ k ∧ k ≤ sz + 1 ∧ (∃ f, sz + 1 - k ≤ f ∧ recs2 (pgA secs loose down fr) sz p.gen (sz + 1 - k0) k0 l0 = recs2 (pgA secs loose down fr) sz p.gen f k (rs.map Prod.fst)) ∧ rs.length + 1 ≤ k ∧ (∀ r ∈ rs, Byt r.1 ∧ r.1.length ≤ 300000) ∧ Below w.heap.size w W ∧ LL (W24.heap.size :: W9.heap.size :: w.heap.size :: L) W ∧ LsR w.heap.size (W24.heap.size :: W9.heap.size :: w.heap.size :: L) rs lv W ∧ Blk W w.heap.size [s1, s2, .int .i64 fuse, .bool down, .int .i64 fr, .int .i64 (sz : Int)] ∧ Blk W W9.heap.size [.int .i64 p.gen, .int .i64 p.idx, .int .i64 p.mks, dv] ∧ Blk W W24.heap.size [s1, s2, .int .i64 fuse, .bool down, .int .i64 fr, .int .i64 (sz : Int), .int .i64 p.gen, .int .i64 (k : Int)]) (fun (k : Nat) (rs : List RcV) (lv : Value) => sz + 1 - k) k rs lv (by repeat first | exact trivial | refine aR ?_ | refine aI (by omega) ?_) ⟨hk1, hk2, hv2, hrl, hrb, hB, hL, hls, k3, k18, k32⟩ ?_
     clear hls k3 k18 k32 hB hL
     rintro K70 k rs lv W71 ⟨hk1, hk2, hv2, hrl, hrb, hB, hL, hls, k3, k18, k32⟩ hK70
     refine WC.block (Sq fun K72 hK72 => (Rg (Pu rfl ?_)))
     have hLr := hL
     have hDr : ∀ {w_ : World} {rs_ : List (List Value)} {D : Nat}, OwS 1 w_ lv rs_ D → D < W71.heap.size := fun hD => hls.ltD hD
     refine Ge (dx_cw rfl Tryd.func62 rfl rfl rfl (rec_u secs loose fuse down s1 s2 fr p.gen sz k W24.heap.size W71 [W24.heap.size] (LL.cons (LL.nil _) k32.lt) (.head _) k32 (((h1.less (L' := []) (fun x hx => by cases hx)).more (Below.refl _ _) l37).below hB) (((h2.less (L' := []) (fun x hx => by cases hx)).more (Below.refl _ _) l37).below hB) hfr hsz (by omega) hbd (fun {_} g => hT.below (g.toBelow hB l37)))) rfl rfl ?_
     rintro _ W79 ⟨⟨out73, kk74, dv75, rb76, rfl, hre77, hp80⟩, g78⟩
     replace hls := hls.chgL g78 (.head _)
     replace k3 := k3.chg g78 n35
     replace k18 := k18.chg g78 n36
     replace hB := g78.toBelow hB l37
     replace hL := hL.chg g78
     refine Pu rfl (Pu rfl (Pu rfl (Pu rfl (Pu rfl (Ni (hK72 (Sq fun K81 hK81 => ?_)))))))
     refine Sq fun K82 hK82 => (Rg (Pu rfl (Va (dx_not rfl rfl) rfl rfl (Ni (hK82 ?_)))))
     refine WC.cond rfl (fun c83 => ?_) (fun c83 => ?_)
     ·
      replace c83 := bnot_t c83
      replace c83 := bvar_f c83
      refine Sq fun K84 hK84 => ?_
      refine dM 4 [(some 73, .is (lv)), (some 74, .is (.pointer (some ⟨W9.heap.size, 0, none⟩))), (some 75, .is (.int .i64 p.gen)), (some 2, .is (lv))] [[], [], [1], [0, 0]] (by exact trivial) ?_ ?_
      ·
       refine Dc (fun Wd hd => ?_) ?_
       ·
        exact Dd (dx_move rfl rfl) rfl
       refine Dc (fun Wd hd => ?_) ?_
       ·
        exact Dd (dx_fld (o1 := 0) rfl ty_fld_85_0_0 rfl rfl) rfl
       refine Dc (fun Wd hd => ?_) ?_
       ·
        have k18 := k18.below hd
        exact Dd (dx_load rfl ty_one_3 rfl (k18.cell (k := 0) rfl)) rfl
       refine Dc (fun Wd hd => ?_) ?_
       ·
        exact Dd (dx_assign rfl rfl) rfl
       exact trivial
      ·
       intro W85 b86
       replace hls := hls.below b86
       replace hB := below_then hB b86
       refine Pu rfl (Pu rfl (Ni (hK84 ?_)))
       exact WC.ret fun a_ ha_ => hQ (cv_ret3 rfl (.tmp rfl) (.tmp rfl) (.tmp rfl) (.inl ⟨rs, lv, p.gen, k, rfl, recsD_k hpk hsk (by omega) hN hv1 (by obtain ⟨f_, hf1_, hf2_⟩ := hv2; exact hf2_.trans (recs2_n (hre77.2 (by first | assumption | simp_all)).1 _)), (hls.rd (fun x hx => hL0 x hx) (fun x hx => (.tail _ (.tail _ (.tail _ hx))))).1, (hls.rd (fun x hx => hL0 x hx) (fun x hx => (.tail _ (.tail _ (.tail _ hx))))).2, hrb, by omega, by omega⟩) hB ha_)
     ·
      replace c83 := bnot_f c83
      refine WC.skip (hK81 (Rg (Pu rfl (Pu rfl ?_))))
      obtain ⟨hr1, hr2, hr3, hr4, hr5, hr6⟩ := hre77.1 (by first | assumption | simp_all)
      refine Ge (dx_lit1 (r := [dv75]) rfl ty_ap_31 (by decide) (by decide) rfl (oc_one (hr2.rd (L := []) (fun x hx => by cases hx)).one) rfl) rfl rfl ?_
      rintro u91 W87 ⟨k88, b89, z90⟩
      replace hls := hls.below b89
      replace k3 := k3.below b89
      replace k18 := k18.below b89
      replace hp80 := hp80.below b89
      replace hB := below_then hB b89
      replace hL := LL.below hL b89
      refine Ge (dx_apL (base := w.heap.size) (n0 := W71.heap.size) (Cs := [(w.heap.size, [s1, s2, .int .i64 fuse, .bool down, .int .i64 fr, .int .i64 (sz : Int)]), (W9.heap.size, [.int .i64 p.gen, .int .i64 p.idx, .int .i64 p.mks, dv]), (W24.heap.size, [s1, s2, .int .i64 fuse, .bool down, .int .i64 fr, .int .i64 (sz : Int), .int .i64 p.gen, .int .i64 (kk74 : Int)])]) rfl ty_ap_31 rfl rfl hls (k88.rd (L := []) (by simp)) (hr2.below b89) hLr hDr (by unfold maxLen; omega) (by omega) hB.size hL (fun c hc => by simp only [List.mem_cons, List.not_mem_nil, or_false] at hc; rcases hc with rfl | rfl | rfl; exact ⟨k3, (.tail _ (.tail _ (.head _)))⟩; exact ⟨k18, (.tail _ (.head _))⟩; exact ⟨hp80, (.head _)⟩)) rfl rfl ?_
      rintro u92 W93 ⟨hls2, b94, z95, hk96⟩
      replace k3 := hk96 _ (.head _)
      replace k18 := hk96 _ (.tail _ (.head _))
      replace hp80 := hk96 _ (.tail _ (.tail _ (.head _)))
      replace hB := hB.trans b94
      replace hL : LL (W24.heap.size :: W9.heap.size :: w.heap.size :: L) W93 := fun x hx => Nat.lt_of_lt_of_le (hL x hx) z95
      refine Pu rfl (Ni ?_)
      exact hK70 kk74 (rs ++ [(out73, dv75)]) u92 ⟨(by omega), (by omega), (by obtain ⟨f_, hf1_, hf2_⟩ := hv2; obtain ⟨g_, rfl⟩ : ∃ g, f_ = g + 1 := ⟨f_ - 1, by omega⟩; exact ⟨g_, by omega, hf2_.trans ((recs2_c hr1).trans (by rw [List.map_append]; rfl))⟩), (by rw [List.length_append]; simp only [List.length_singleton]; omega), (fun r hr => by rcases List.mem_append.1 hr with h_ | h_; exact hrb r h_; rw [List.mem_singleton.1 h_]; exact ⟨hr3, by show out73.length ≤ 300000; omega⟩), hB, hL, hls2, k3, k18, hp80⟩ (by omega) (by repeat first | exact trivial | refine aR ?_ | refine aI (by omega) ?_)

theorem RdRs.below {L : List Nat} {w w' : World} {rs : List RcV} (h : RdRs L w rs) (hb : Below w.heap.size w w') : RdRs L w' rs := fun q hq => (h q hq).below hb
theorem RdRs.more {L : List Nat} {w w' : World} {rs : List RcV} (h : RdRs L w rs) (hb : Below w.heap.size w w') {B : Nat} (hB : w.heap.size ≤ B) : RdRs (B :: L) w' rs := fun q hq => (h q hq).more hb hB
theorem RdRs.less {L L' : List Nat} {w : World} {rs : List RcV} (h : RdRs L w rs) (hl : ∀ x, x ∈ L' → x ∈ L) : RdRs L' w rs := fun q hq => (h q hq).less hl
theorem RdRs.only {L : List Nat} {w w' : World} {rs : List RcV} (h : RdRs L w rs) {B : Nat} (ho : Only B w w') (hB : B ∈ L) : RdRs L w' rs := fun q hq => (h q hq).only ho hB
theorem RdRs.chgL {L : List Nat} {w w' : World} {rs : List RcV} (h : RdRs L w rs) {B : Nat} (g : Chg B w w') (hB : B ∈ L) : RdRs L w' rs := fun q hq => (h q hq).chgL g hB
theorem RdRs.chgM {L : List Nat} {w w' : World} {rs : List RcV} (h : RdRs L w rs) {Cs : List Nat} (g : ChgM Cs w w') (hC : ∀ C ∈ Cs, C ∈ L) : RdRs L w' rs := fun q hq => (h q hq).chgM g hC
def cntP (l : List (List Int)) : Nat := (l.map nPg).sum
def pAll (gen : Int) : Int → List (List Int) → List Pg
 | _, [] => []
 | u, r :: l => pagesD gen u r ++ pAll gen (u + (nPg r : Int)) l
theorem pAll_add (gen : Int) : ∀ (l : List (List Int)) (u : Int) (r : List Int), pAll gen u (l ++ [r]) = pAll gen u l ++ pagesD gen (u + (cntP l : Int)) r
 | [], u, r => by simp [pAll, cntP]
 | a :: l, u, r => by
  rw [List.cons_append, pAll, pAll, pAll_add gen l, List.append_assoc]
  have e : u + (nPg a : Int) + (cntP l : Int) = u + (cntP (a :: l) : Int) := by unfold cntP; rw [List.map_cons, List.sum_cons]; omega
  rw [e]
theorem cntP_add (l : List (List Int)) (r : List Int) : cntP (l ++ [r]) = cntP l + nPg r := by unfold cntP; simp
theorem cntP_take {l : List (List Int)} : ∀ (i : Nat), cntP (l.take i) ≤ cntP l := fun i => by
 have e := congrArg cntP (List.take_append_drop i l)
 have : cntP (l.take i ++ l.drop i) = cntP (l.take i) + cntP (l.drop i) := by unfold cntP; rw [List.map_append, List.sum_append]
 omega
theorem pagesD_len (gen fr : Int) (rec : List Int) : (pagesD gen fr rec).length = nPg rec := by unfold pagesD; simp
theorem pagesD_mem {gen fr : Int} {rec : List Int} {k : Nat} {p : Pg} (h : (pagesD gen fr rec)[k]? = some p) : p.idx = fr + (k : Int) ∧ k < nPg rec ∧ p.dat = chD rec k := by
 have hk := (List.getElem?_eq_some_iff.1 h).1
 rw [pagesD_len] at hk
 unfold pagesD at h
 rw [List.getElem?_map, List.getElem?_range hk, Option.map_some] at h
 have e := Option.some.inj h
 rw [← e]
 exact ⟨rfl, hk, rfl⟩
def wrAll (d : DO) (fr : Int) (ps : List Pg) : DO := ps.foldl (fun d p => wrW d fr p) d
theorem wrAll_app (d : DO) (fr : Int) (a b : List Pg) : wrAll d fr (a ++ b) = wrAll (wrAll d fr a) fr b := by unfold wrAll; rw [List.foldl_append]
theorem wrAll_add {d : DO} {fr : Int} {ps : List Pg} {k : Nat} {p : Pg} (h : ps[k]? = some p) : wrAll d fr (ps.take (k + 1)) = wrW (wrAll d fr (ps.take k)) fr p := by
 rw [List.take_add_one, h]
 unfold wrAll
 rw [List.foldl_append]; rfl
abbrev FuD (d : DO) : Prop := -9223372036854775808 ≤ d.fuse ∧ d.fuse ≤ 9223372036854775807
theorem burn_fu {f : Int} {b : Bool} (h : -9223372036854775808 ≤ f ∧ f ≤ 9223372036854775807) : -9223372036854775808 ≤ (burnS f b).1 ∧ (burnS f b).1 ≤ 9223372036854775807 := by
  unfold burnS
  split
  · exact h
  · split
    · show _ ≤ f - 1 ∧ f - 1 ≤ _; omega
    · exact h
theorem write_fu {secs : List (List Int)} {loose : List (Int × List Int)} {f : Int} {b : Bool} {a : Int} {z : List Int} (h : -9223372036854775808 ≤ f ∧ f ≤ 9223372036854775807) : FuD (writeS secs loose f b a z) := by
  have hb := burn_fu (b := b) h
  unfold writeS FuD
  split
  · exact h
  · split
    · exact h
    · split
      · exact h
      · split
        · exact h
        · split
          · exact hb
          · exact hb
theorem sync_fu {secs : List (List Int)} {loose : List (Int × List Int)} {f : Int} {b : Bool} (h : -9223372036854775808 ≤ f ∧ f ≤ 9223372036854775807) : FuD (syncS secs loose f b) := by
  have hb := burn_fu (b := b) h
  unfold syncS FuD
  split
  · exact h
  · split
    · exact h
    · split
      · exact hb
      · exact hb
theorem wrW_fu {d : DO} {fr : Int} {p : Pg} (h : FuD d) : FuD (wrW d fr p) := by
 unfold wrW
 split
 · exact write_fu h
 · exact h
theorem wrS_fu {d : DO} (h : FuD d) : FuD (wrS d) := by
 unfold wrS
 split
 · exact sync_fu h
 · exact h
def layW (d : DO) (fr gen : Int) (recs : List (List Int)) : DO := wrS (wrW (wrS (wrAll d fr (pAll gen 1 recs))) fr (hdrP gen (cntP recs : Int)))
def d0D (secs : List (List Int)) (loose : List (Int × List Int)) (fuse : Int) (down : Bool) : DO := ⟨secs, loose, fuse, down, 0⟩
def layD (secs : List (List Int)) (loose : List (Int × List Int)) (fuse : Int) (down : Bool) (q : Int) (recs : List (List Int)) : DO × Int × Int × Int :=
 if ¬ (nextD secs loose down).2 = 0 then (⟨secs, loose, fuse, down, (nextD secs loose down).2⟩, 0, 0, 0)
 else if (doneD (d0D secs loose fuse down) (layW (d0D secs loose fuse down) (q * ((secs.length : Int) / 2)) (nextD secs loose down).1 recs)).err = 0 then (doneD (d0D secs loose fuse down) (layW (d0D secs loose fuse down) (q * ((secs.length : Int) / 2)) (nextD secs loose down).1 recs), q, (nextD secs loose down).1, 1 + (cntP recs : Int))
 else (doneD (d0D secs loose fuse down) (layW (d0D secs loose fuse down) (q * ((secs.length : Int) / 2)) (nextD secs loose down).1 recs), 0, 0, 0)
theorem hdr_byt (gen n : Int) : Byt (hdrP gen n).dat := fun x hx => by
 rcases List.mem_append.1 hx with h | h
 · simp only [List.mem_cons, List.not_mem_nil, or_false] at h; omega
 · exact leN_bytes _ _ x h
theorem lay_ok {x y : Value} {e : Int} (h : e = 0) : Value.tuple #[x, y, .int .i64 0] = .tuple #[x, y, .int .i64 e] := by rw [h]
theorem layD_e {secs : List (List Int)} {loose : List (Int × List Int)} {fuse q : Int} {down : Bool} {recs : List (List Int)} (h : ¬ (nextD secs loose down).2 = 0) : layD secs loose fuse down q recs = (⟨secs, loose, fuse, down, (nextD secs loose down).2⟩, 0, 0, 0) := by unfold layD; rw [if_pos h]
theorem layD_k {secs : List (List Int)} {loose : List (Int × List Int)} {fuse q : Int} {down : Bool} {recs : List (List Int)} {d : DO} (h : ¬ ¬ (nextD secs loose down).2 = 0) (hd : d = wrAll (d0D secs loose fuse down) (q * ((secs.length : Int) / 2)) (pAll (nextD secs loose down).1 1 recs)) (he : (doneD (d0D secs loose fuse down) (wrS (wrW (wrS d) (q * ((secs.length : Int) / 2)) (hdrP (nextD secs loose down).1 ((cntP recs : Nat) : Int))))).err = 0) : layD secs loose fuse down q recs = (doneD (d0D secs loose fuse down) (wrS (wrW (wrS d) (q * ((secs.length : Int) / 2)) (hdrP (nextD secs loose down).1 ((cntP recs : Nat) : Int)))), q, (nextD secs loose down).1, 1 + (cntP recs : Int)) := by
 subst hd
 unfold layD
 rw [if_neg h]
 exact if_pos he
theorem layD_f {secs : List (List Int)} {loose : List (Int × List Int)} {fuse q : Int} {down : Bool} {recs : List (List Int)} {d : DO} (h : ¬ ¬ (nextD secs loose down).2 = 0) (hd : d = wrAll (d0D secs loose fuse down) (q * ((secs.length : Int) / 2)) (pAll (nextD secs loose down).1 1 recs)) (he : ¬ (doneD (d0D secs loose fuse down) (wrS (wrW (wrS d) (q * ((secs.length : Int) / 2)) (hdrP (nextD secs loose down).1 ((cntP recs : Nat) : Int))))).err = 0) : layD secs loose fuse down q recs = (doneD (d0D secs loose fuse down) (wrS (wrW (wrS d) (q * ((secs.length : Int) / 2)) (hdrP (nextD secs loose down).1 ((cntP recs : Nat) : Int)))), 0, 0, 0) := by
 subst hd
 unfold layD
 rw [if_neg h]
 exact if_neg he
set_option maxHeartbeats 1000000 in
theorem lay_v (secs : List (List Int)) (loose : List (Int × List Int)) (fuse : Int) (down : Bool) (s1 s2 : Value) (q : Int) (rs : List RcV) (rv : Value) (w : World) (L : List Nat) (hL : LL L w) (h1 : RdF 128 L w s1 (secs.map encS)) (h2 : RdF 129 L w s2 (loose.map encW)) (h3 : RdF 1 L w rv (rs.map encR)) (hrs : RdRs L w rs)  (hfu : -9223372036854775808 ≤ fuse ∧ fuse ≤ 9223372036854775807) (hq : q = 0 ∨ q = 1) (hsl : secs.length ≤ 2048) (hbd : BytD secs loose) (hrb : ∀ r ∈ rs, Byt r.1 ∧ r.1.length ≤ 1000000) (hcnt : cntP (rs.map Prod.fst) ≤ 90000) (hT : TabS w) : CV Tryd.prog 33 [.agg #[s1, s2, .int .i64 fuse, .bool down], .int .i64 q, rv] w fun v W => ∃ t1 t2, v = .tuple #[.agg #[t1, t2, .int .i64 (layD secs loose fuse down q (rs.map Prod.fst)).1.fuse, .bool (layD secs loose fuse down q (rs.map Prod.fst)).1.down], .agg #[.int .i64 (layD secs loose fuse down q (rs.map Prod.fst)).2.1, .int .i64 (layD secs loose fuse down q (rs.map Prod.fst)).2.2.1, .int .i64 (layD secs loose fuse down q (rs.map Prod.fst)).2.2.2], .int .i64 (layD secs loose fuse down q (rs.map Prod.fst)).1.err] ∧ RdF 128 L W t1 ((layD secs loose fuse down q (rs.map Prod.fst)).1.secs.map encS) ∧ RdF 129 L W t2 ((layD secs loose fuse down q (rs.map Prod.fst)).1.loose.map encW) := by
 refine cv_enter (N := 81) (f := [(0, .agg #[s1, s2, .int .i64 fuse, .bool down]), (1, .int .i64 q), (2, rv)]) Tryd.func33 rfl rfl rfl rfl fun Q hQ hE => ?_
 have hB := Below.refl w.heap.size w
 have h1m : secs.length ≤ maxLen := by have := h1.len; rwa [List.length_map] at this
 unfold maxLen at h1m
 have h2m : loose.length ≤ maxLen := by have := h2.len; rwa [List.length_map] at this
 unfold maxLen at h2m
 have h3m : rs.length ≤ maxLen := by have := h3.len; rwa [List.length_map] at this
 unfold maxLen at h3m
 refine Sq fun K1 hK1 => (Rg ?_)
 refine Ge (dx_box rfl rfl rfl) rfl rfl ?_
 rintro _ W2 ⟨rfl, k3, b4, z5⟩
 have l6 := hB.size
 replace h1 := h1.more b4 (Nat.le_refl _)
 replace h2 := h2.more b4 (Nat.le_refl _)
 replace h3 := h3.more b4 (Nat.le_refl _)
 replace hrs := hrs.more b4 (Nat.le_refl _)
 replace hB := below_then hB b4
 replace hL := LL.more hL z5
 refine Ge (dx_alloc rfl ty_zero_25 rfl) rfl rfl ?_
 rintro _ W7 ⟨rfl, k8, b9, z10⟩
 have l12 := hB.size
 replace h1 := h1.more b9 (Nat.le_refl _)
 replace h2 := h2.more b9 (Nat.le_refl _)
 replace h3 := h3.more b9 (Nat.le_refl _)
 replace hrs := hrs.more b9 (Nat.le_refl _)
 replace k3 := k3.below b9
 replace hB := below_then hB b9
 replace hL := LL.more hL z10
 refine Ge (dx_alloc rfl ty_zero_30 rfl) rfl rfl ?_
 rintro _ W13 ⟨rfl, k14, b15, z16⟩
 have n18 : W2.heap.size ≠ W7.heap.size := Nat.ne_of_lt k8.lt
 have l19 := hB.size
 replace h1 := h1.more b15 (Nat.le_refl _)
 replace h2 := h2.more b15 (Nat.le_refl _)
 replace h3 := h3.more b15 (Nat.le_refl _)
 replace hrs := hrs.more b15 (Nat.le_refl _)
 replace k3 := k3.below b15
 replace k8 := k8.below b15
 replace hB := below_then hB b15
 replace hL := LL.more hL z16
 refine Pu rfl (Ni (hK1 (Sq fun K20 hK20 => (Rg (Va (dx_loadN rfl ty_agg_25_4 rfl k3.range rfl) rfl rfl ?_)))))
 refine Ge (dx_cv rfl Tryd.func54 rfl rfl rfl (next_v secs loose fuse down _ _ W13 _ hL h1 h2 hbd (by omega) (hT.below hB))) rfl rfl ?_
 rintro _ W22 ⟨rfl, b21⟩
 replace h1 := h1.below b21
 replace h2 := h2.below b21
 replace h3 := h3.below b21
 replace hrs := hrs.below b21
 replace k3 := k3.below b21
 replace k8 := k8.below b21
 replace k14 := k14.below b21
 replace hB := below_then hB b21
 replace hL := LL.below hL b21
 refine Pu rfl (Pu rfl (Pu rfl (Pu rfl (Pu rfl (Ni (hK20 (Sq fun K23 hK23 => ?_)))))))
 refine Sq fun K24 hK24 => (Rg (Pu rfl (Va (dx_neq rfl rfl rfl) rfl rfl (Ni (hK24 ?_)))))
 refine WC.cond rfl (fun c25 => ?_) (fun c25 => ?_)
 ·
  replace c25 := bnot_t c25
  replace c25 := dF c25
  refine Sq fun K26 hK26 => (Rg (Va (dx_loadN rfl ty_agg_25_4 rfl k3.range rfl) rfl rfl (Va (dx_build rfl rfl (built_of_O (cs := [.int .i64 0, .int .i64 0, .int .i64 0]) (by kernel_rfl) oc_nil)) rfl rfl (Pu rfl ?_))))
  refine WL.do (dx_store (cs' := [s1, s2, .int .i64 fuse, .bool down]) (vs := [s1, s2, .int .i64 fuse, .bool down]) rfl ty_size_25_4 rfl rfl rfl (oC h1.one (oC h2.one (oC rfl (oC rfl oc_nil)))) k8 rfl (nB rfl) rfl) rfl ?_
  rintro _ W27 ⟨k29, o28⟩
  replace k14 := k14.other o28 n18.symm
  clear k8
  replace h1 := h1.only o28 (.tail _ (.head _))
  replace h2 := h2.only o28 (.tail _ (.head _))
  replace hB := o28.below hB l12
  refine WL.do (dx_store (cs' := [.int .i64 0, .int .i64 0, .int .i64 0]) (vs := [.int .i64 0, .int .i64 0, .int .i64 0]) rfl ty_size_30_3 rfl rfl rfl (oC rfl (oC rfl (oC rfl oc_nil))) k14 rfl (nB rfl) rfl) rfl ?_
  rintro _ W30 ⟨k32, o31⟩
  replace k29 := k29.other o31 n18
  clear k14
  replace h1 := h1.only o31 (.head _)
  replace h2 := h2.only o31 (.head _)
  replace hB := o31.below hB l19
  refine Pu rfl (Ni (hK26 ?_))
  exact WC.ret fun a_ ha_ => hQ (cv_ret3 rfl (.agg rfl ty_agg_25_4 k29.range rfl) (.agg rfl ty_agg_30_3 k32.range rfl) (.tmp rfl) (by rw [layD_e (by first | assumption | simp_all)]; exact ⟨_, _, rfl, (h1.less (fun x hx => (.tail _ (.tail _ (.tail _ hx))))), (h2.less (fun x hx => (.tail _ (.tail _ (.tail _ hx)))))⟩) hB ha_)
 ·
  replace c25 := bnot_f c25
  replace c25 := dT c25
  refine WC.skip (hK23 (Sq fun K33 hK33 => ?_))
  have hmg := maxG_in secs loose down secs.length
  have hfr : 0 ≤ (q * ((secs.length : Int) / 2)) ∧ (q * ((secs.length : Int) / 2)) ≤ 100000 := by rcases hq with rfl | rfl <;> omega
  refine Rg (Va (dx_loadN rfl ty_agg_25_4 rfl k3.range rfl) rfl rfl (Pu rfl ?_))
  refine Ge (dx_cv rfl Tryd.func38 rfl rfl rfl (halfOf_v secs loose fuse down _ _ q W22 _ hL h1 h2 hq (by omega))) rfl rfl ?_
  rintro _ W35 ⟨rfl, b34⟩
  replace h1 := h1.below b34
  replace h2 := h2.below b34
  replace h3 := h3.below b34
  replace hrs := hrs.below b34
  replace k3 := k3.below b34
  replace k8 := k8.below b34
  replace k14 := k14.below b34
  replace hB := below_then hB b34
  replace hL := LL.below hL b34
  refine Va (dx_build rfl rfl (bld_writer _ _ _ _ _ _)) rfl rfl ?_
  refine Ge (dx_box rfl rfl rfl) rfl rfl ?_
  rintro _ W36 ⟨rfl, k37, b38, z39⟩
  have n40 : w.heap.size ≠ W35.heap.size := Nat.ne_of_lt k3.lt
  have n41 : W2.heap.size ≠ W35.heap.size := Nat.ne_of_lt k8.lt
  have n42 : W7.heap.size ≠ W35.heap.size := Nat.ne_of_lt k14.lt
  have l43 := hB.size
  replace h1 := h1.more b38 (Nat.le_refl _)
  replace h2 := h2.more b38 (Nat.le_refl _)
  replace h3 := h3.more b38 (Nat.le_refl _)
  replace hrs := hrs.more b38 (Nat.le_refl _)
  replace k3 := k3.below b38
  replace k8 := k8.below b38
  replace k14 := k14.below b38
  replace hB := below_then hB b38
  replace hL := LL.more hL z39
  refine Pu rfl (Ni (hK33 (Sq fun K44 hK44 => ?_)))
  have h1w := h1
  have h2w := h2
  replace k37 : Blk W36 W35.heap.size (wrC s1 s2 (d0D secs loose fuse down) (q * ((secs.length : Int) / 2)) ((secs.length : Int) / 2)) := k37
  refine Rg (Pu rfl (Ni (hK44 (Sq fun K45 hK45 => (Sq fun K46 hK46 => (Rg (Pu rfl ?_)))))))
  refine Va (dx_lenM rfl ty_slice_31 rfl h3) rfl rfl (Pu rfl (Ni (hK46 (WC.block ?_))))
  have hfu0 : FuD (d0D secs loose fuse down) := hfu
  have j1 := h1w
  have j2 := h2w
  refine WC.loop4 (fun (i : Nat) (d : DO) (t1 : Value) (t2 : Value) => [(1, .int .i64 q), (2, rv), (3, .pointer (some ⟨w.heap.size, 0, none⟩)), (6, .pointer (some ⟨W2.heap.size, 0, none⟩)), (7, .pointer (some ⟨W7.heap.size, 0, none⟩)), (8, .int .i64 0), (9, .int .i64 ((nextD secs loose down).1)), (10, .int .i64 ((nextD secs loose down).2)), (11, .pointer (some ⟨W35.heap.size, 0, none⟩)), (33, rv), (34, .int .i64 (rs.length : Int)), (35, .int .i64 (i : Int)), (12, .int .i64 (1 + (cntP ((rs.take i).map Prod.fst) : Int)))]) (fun (i : Nat) (d : DO) (t1 : Value) (t2 : Value) W => i ≤ rs.length ∧ d = wrAll (d0D secs loose fuse down) (q * ((secs.length : Int) / 2)) (pAll (nextD secs loose down).1 1 ((rs.take i).map Prod.fst)) ∧ FuD d ∧ Below w.heap.size w W ∧ LL (W35.heap.size :: W7.heap.size :: W2.heap.size :: w.heap.size :: L) W ∧ RdF 128 (W35.heap.size :: W7.heap.size :: W2.heap.size :: w.heap.size :: L) W s1 (secs.map encS) ∧ RdF 129 (W35.heap.size :: W7.heap.size :: W2.heap.size :: w.heap.size :: L) W s2 (loose.map encW) ∧ RdF 1 (W35.heap.size :: W7.heap.size :: W2.heap.size :: w.heap.size :: L) W rv (rs.map encR) ∧ RdRs (W35.heap.size :: W7.heap.size :: W2.heap.size :: w.heap.size :: L) W rs ∧ RdF 128 (W35.heap.size :: W7.heap.size :: W2.heap.size :: w.heap.size :: L) W t1 (d.secs.map encS) ∧ RdF 129 (W35.heap.size :: W7.heap.size :: W2.heap.size :: w.heap.size :: L) W t2 (d.loose.map encW) ∧ Blk W w.heap.size [s1, s2, .int .i64 fuse, .bool down] ∧ Blk W W2.heap.size [.slice none 0 0, .slice none 0 0, .int .i64 0, .bool false] ∧ Blk W W7.heap.size [.int .i64 0, .int .i64 0, .int .i64 0] ∧ Blk W W35.heap.size [t1, t2, .int .i64 d.fuse, .bool d.down, .int .i64 (q * ((secs.length : Int) / 2)), .int .i64 ((secs.length : Int) / 2), .int .i64 d.err]) (fun (i : Nat) (d : DO) (t1 : Value) (t2 : Value) => rs.length - i) 0 (d0D secs loose fuse down) s1 s2 (by repeat first | exact trivial | refine aR ?_ | refine aI (by omega) ?_) ⟨Nat.zero_le _, rfl, hfu0, hB, hL, h1, h2, h3, hrs, j1, j2, k3, k8, k14, k37⟩ ?_
  clear h1 h2 h3 hrs j1 j2 k3 k8 k14 k37 hB hL
  rintro K47 i d t1 t2 W48 ⟨hi, hd, hfd, hB, hL, h1, h2, h3, hrs, j1, j2, k3, k8, k14, k37⟩ hK47
  refine Sq fun K49 hK49 => (Rg (Va (dx_lss rfl rfl rfl) rfl rfl (Ni (hK49 (Sq fun K50 hK50 => ?_)))))
  refine WC.cond rfl (fun c51 => ?_) (fun c51 => ?_)
  ·
   replace c51 := dT c51
   refine WC.skip (hK50 (Sq fun K52 hK52 => (WC.block (Sq fun K53 hK53 => (Rg ?_)))))
   obtain ⟨r54, e55⟩ : ∃ x, rs[i]? = some x := ⟨_, List.getElem?_eq_getElem (by omega)⟩
   refine Ge (dx_idxF i rfl ty_slice_31 rfl rfl h3 (by omega) (at_map (enc := encR) e55)) rfl rfl ?_
   rintro u56 _ ⟨rfl, p57⟩
   refine Va (dx_loadP rfl ty_one_40 rfl p57) rfl rfl (Pu rfl (Ni (hK53 (Sq fun K58 hK58 => (Rg (Pu rfl (Pu rfl ?_)))))))
   refine Pu rfl ?_
   have hrm := List.mem_of_getElem? e55
   have hcn : cntP ((rs.take i).map Prod.fst) + nPg r54.1 ≤ cntP (rs.map Prod.fst) := by rw [← cntP_add, show (rs.take i).map Prod.fst ++ [r54.1] = (rs.map Prod.fst).take (i + 1) by rw [← List.map_take, List.take_add_one, e55, List.map_append]; rfl]; exact cntP_take _
   have hrm := List.mem_of_getElem? e55
   have hcn : cntP ((rs.take i).map Prod.fst) + nPg r54.1 ≤ cntP (rs.map Prod.fst) := by rw [← cntP_add, show (rs.take i).map Prod.fst ++ [r54.1] = (rs.map Prod.fst).take (i + 1) by rw [← List.map_take, List.take_add_one, e55, List.map_append]; rfl]; exact cntP_take _
   refine Ge (dx_cv rfl Tryd.func41 rfl rfl rfl (pages_v (nextD secs loose down).1 (1 + (cntP ((rs.take i).map Prod.fst) : Int)) r54.1 r54.2 W48 _ hL hL (hrs r54 hrm) (by omega) (hrb r54 hrm).2)) rfl rfl ?_
   rintro pv60 W62 ⟨⟨qs, h6, hqf, hqs⟩, b61⟩
   replace h1 := h1.below b61
   replace h2 := h2.below b61
   replace h3 := h3.below b61
   replace hrs := hrs.below b61
   replace j1 := j1.below b61
   replace j2 := j2.below b61
   replace k3 := k3.below b61
   replace k8 := k8.below b61
   replace k14 := k14.below b61
   replace k37 := k37.below b61
   replace hB := below_then hB b61
   replace hL := LL.below hL b61
   refine Va (dx_lenM rfl ty_slice_82 rfl h6) rfl rfl (Pu rfl (Ni (hK58 (WC.block ?_))))
   have hql : qs.length = nPg r54.1 := by rw [← pagesD_len, ← hqf, List.length_map]
   have y1 := j1
   have y2 := j2
   refine WC.loop4 (fun (j : Nat) (e : DO) (z1 : Value) (z2 : Value) => [(1, .int .i64 q), (2, rv), (3, .pointer (some ⟨w.heap.size, 0, none⟩)), (6, .pointer (some ⟨W2.heap.size, 0, none⟩)), (7, .pointer (some ⟨W7.heap.size, 0, none⟩)), (8, .int .i64 0), (9, .int .i64 ((nextD secs loose down).1)), (10, .int .i64 ((nextD secs loose down).2)), (11, .pointer (some ⟨W35.heap.size, 0, none⟩)), (33, rv), (34, .int .i64 (rs.length : Int)), (35, .int .i64 (i : Int)), (42, pv60), (43, .int .i64 (qs.length : Int)), (44, .int .i64 (j : Int)), (12, .int .i64 (1 + (cntP ((rs.take i).map Prod.fst) : Int) + (j : Int)))]) (fun (j : Nat) (e : DO) (z1 : Value) (z2 : Value) W => j ≤ qs.length ∧ e = wrAll d (q * ((secs.length : Int) / 2)) ((qs.map Prod.fst).take j) ∧ FuD e ∧ Below w.heap.size w W ∧ LL (W35.heap.size :: W7.heap.size :: W2.heap.size :: w.heap.size :: L) W ∧ RdF 128 (W35.heap.size :: W7.heap.size :: W2.heap.size :: w.heap.size :: L) W s1 (secs.map encS) ∧ RdF 129 (W35.heap.size :: W7.heap.size :: W2.heap.size :: w.heap.size :: L) W s2 (loose.map encW) ∧ RdF 1 (W35.heap.size :: W7.heap.size :: W2.heap.size :: w.heap.size :: L) W rv (rs.map encR) ∧ RdRs (W35.heap.size :: W7.heap.size :: W2.heap.size :: w.heap.size :: L) W rs ∧ RdF 4 (W35.heap.size :: W7.heap.size :: W2.heap.size :: w.heap.size :: L) W pv60 (qs.map encPg) ∧ RdQs (W35.heap.size :: W7.heap.size :: W2.heap.size :: w.heap.size :: L) W qs ∧ RdF 128 (W35.heap.size :: W7.heap.size :: W2.heap.size :: w.heap.size :: L) W z1 (e.secs.map encS) ∧ RdF 129 (W35.heap.size :: W7.heap.size :: W2.heap.size :: w.heap.size :: L) W z2 (e.loose.map encW) ∧ Blk W w.heap.size [s1, s2, .int .i64 fuse, .bool down] ∧ Blk W W2.heap.size [.slice none 0 0, .slice none 0 0, .int .i64 0, .bool false] ∧ Blk W W7.heap.size [.int .i64 0, .int .i64 0, .int .i64 0] ∧ Blk W W35.heap.size [z1, z2, .int .i64 e.fuse, .bool e.down, .int .i64 (q * ((secs.length : Int) / 2)), .int .i64 ((secs.length : Int) / 2), .int .i64 e.err]) (fun (j : Nat) (e : DO) (z1 : Value) (z2 : Value) => qs.length - j) 0 d t1 t2 (by repeat first | exact trivial | refine aR ?_ | refine aI (by omega) ?_) ⟨Nat.zero_le _, rfl, hfd, hB, hL, h1, h2, h3, hrs, h6, hqs, y1, y2, k3, k8, k14, k37⟩ ?_
   clear h1 h2 h3 hrs h6 hqs y1 y2 k3 k8 k14 k37 hB hL
   rintro K63 j e z1 z2 W64 ⟨hj, he, hfe, hB, hL, h1, h2, h3, hrs, h6, hqs, y1, y2, k3, k8, k14, k37⟩ hK63
   refine Sq fun K65 hK65 => (Rg (Va (dx_lss rfl rfl rfl) rfl rfl (Ni (hK65 (Sq fun K66 hK66 => ?_)))))
   refine WC.cond rfl (fun c67 => ?_) (fun c67 => ?_)
   ·
    replace c67 := dT c67
    refine WC.skip (hK66 (Sq fun K68 hK68 => (WC.block (Sq fun K69 hK69 => (Rg ?_)))))
    obtain ⟨r70, e71⟩ : ∃ x, qs[j]? = some x := ⟨_, List.getElem?_eq_getElem (by omega)⟩
    refine Ge (dx_idxF j rfl ty_slice_82 rfl rfl h6 (by omega) (at_map (enc := encPg) e71)) rfl rfl ?_
    rintro u72 _ ⟨rfl, p73⟩
    refine Va (dx_loadPN rfl ty_agg_85_4 rfl p73 rfl) rfl rfl ?_
    refine Ge (dx_alloc rfl ty_zero_85 rfl) rfl rfl ?_
    rintro _ W74 ⟨rfl, k75, b76, z77⟩
    have n78 : w.heap.size ≠ W64.heap.size := Nat.ne_of_lt k3.lt
    have n79 : W2.heap.size ≠ W64.heap.size := Nat.ne_of_lt k8.lt
    have n80 : W7.heap.size ≠ W64.heap.size := Nat.ne_of_lt k14.lt
    have n81 : W35.heap.size ≠ W64.heap.size := Nat.ne_of_lt k37.lt
    have l82 := hB.size
    replace h1 := h1.more b76 (Nat.le_refl _)
    replace h2 := h2.more b76 (Nat.le_refl _)
    replace h3 := h3.more b76 (Nat.le_refl _)
    replace hrs := hrs.more b76 (Nat.le_refl _)
    replace h6 := h6.more b76 (Nat.le_refl _)
    replace hqs := hqs.more b76 (Nat.le_refl _)
    replace y1 := y1.more b76 (Nat.le_refl _)
    replace y2 := y2.more b76 (Nat.le_refl _)
    replace k3 := k3.below b76
    replace k8 := k8.below b76
    replace k14 := k14.below b76
    replace k37 := k37.below b76
    replace hB := below_then hB b76
    replace hL := LL.more hL z77
    refine WL.do (dx_store (cs' := [.int .i64 r70.1.gen, .int .i64 r70.1.idx, .int .i64 r70.1.mks, r70.2]) (vs := [.int .i64 r70.1.gen, .int .i64 r70.1.idx, .int .i64 r70.1.mks, r70.2]) rfl ty_size_85_4 rfl rfl rfl (oC rfl (oC rfl (oC rfl (oC (hqs r70 (List.mem_of_getElem? e71)).one oc_nil)))) k75 rfl (nB rfl) rfl) rfl ?_
    rintro _ W83 ⟨k85, o84⟩
    replace k3 := k3.other o84 n78
    replace k8 := k8.other o84 n79
    replace k14 := k14.other o84 n80
    replace k37 := k37.other o84 n81
    clear k75
    replace h1 := h1.only o84 (.head _)
    replace h2 := h2.only o84 (.head _)
    replace h3 := h3.only o84 (.head _)
    replace hrs := hrs.only o84 (.head _)
    replace h6 := h6.only o84 (.head _)
    replace hqs := hqs.only o84 (.head _)
    replace y1 := y1.only o84 (.head _)
    replace y2 := y2.only o84 (.head _)
    replace hB := o84.below hB l82
    replace hL := LL.only hL o84
    refine Ni (hK69 (Sq fun K86 hK86 => ?_))
    obtain ⟨hqi, hqk, hqd⟩ := pagesD_mem (gen := (nextD secs loose down).1) (fr := (1 + (cntP ((rs.take i).map Prod.fst) : Int))) (rec := r54.1) (k := j) (p := r70.1) (by rw [← hqf, List.getElem?_map, e71]; rfl)
    refine Rg (Pu rfl (Va (dx_loadN rfl ty_agg_85_4 rfl k85.range rfl) rfl rfl ?_))
    have y1o := y1
    have y2o := y2
    refine Ge (dx_cw rfl Tryd.func42 rfl rfl rfl (wr_v e r70.1 (q * ((secs.length : Int) / 2)) ((secs.length : Int) / 2) z1 z2 r70.2 W35.heap.size W83 _ hL (.tail _ (.head _)) k37 y1o y2o (hqs r70 (List.mem_of_getElem? e71)) hfe hfr (by rw [hqi]; omega) (by rw [hqd]; exact ch_byt (hrb r54 hrm).1 _) (by rw [hqd]; exact ch_len _ _) (fun {_} g => hT.below (g.toBelow hB l43)))) rfl rfl ?_
    rintro _ W92 ⟨⟨rfl, x87, x88, hp93, j89, j90⟩, g91⟩
    replace h1 := h1.chgL g91 (.tail _ (.head _))
    replace h2 := h2.chgL g91 (.tail _ (.head _))
    replace h3 := h3.chgL g91 (.tail _ (.head _))
    replace hrs := hrs.chgL g91 (.tail _ (.head _))
    replace h6 := h6.chgL g91 (.tail _ (.head _))
    replace hqs := hqs.chgL g91 (.tail _ (.head _))
    replace k3 := k3.chg g91 n40
    replace k8 := k8.chg g91 n41
    replace k14 := k14.chg g91 n42
    replace hB := g91.toBelow hB l43
    replace hL := hL.chg g91
    clear y1o y2o
    refine Ni (hK86 (Rg (Pu rfl (Va (dx_add (r := 1 + (cntP ((rs.take i).map Prod.fst) : Int) + ((j + 1 : Nat) : Int)) rfl rfl rfl (by rw [wrap64_id (by omega)]; omega)) rfl rfl (Pu rfl (Ni (hK68 ?_)))))))
    refine Rg (Va (dx_add (r := (j : Int) + 1) rfl rfl rfl (wrap64_id (by omega))) rfl rfl (Pu rfl (Ni ?_)))
    replace hL := hL.less (fun x hx => (.tail _ hx))
    replace h1 := h1.less (fun x hx => (.tail _ hx))
    replace h2 := h2.less (fun x hx => (.tail _ hx))
    replace h3 := h3.less (fun x hx => (.tail _ hx))
    replace hrs := hrs.less (fun x hx => (.tail _ hx))
    replace h6 := h6.less (fun x hx => (.tail _ hx))
    replace hqs := hqs.less (fun x hx => (.tail _ hx))
    replace j89 := j89.less (fun x hx => (.tail _ hx))
    replace j90 := j90.less (fun x hx => (.tail _ hx))
    exact hK63 (j + 1) (wrW e (q * ((secs.length : Int) / 2)) r70.1) x87 x88 ⟨(by omega), (by rw [he]; exact (wrAll_add (by rw [List.getElem?_map, e71]; rfl)).symm), (wrW_fu hfe), hB, hL, h1, h2, h3, hrs, h6, hqs, j89, j90, k3, k8, k14, hp93⟩ (by omega) (by repeat first | exact trivial | refine aR ?_ | refine aI (by omega) ?_)
   ·
    replace c67 := dF c67
    refine WC.exit ?_
    refine hK52 ?_
    have hjq : j = qs.length := by omega
    have hjend : e = wrAll d (q * ((secs.length : Int) / 2)) (qs.map Prod.fst) := by rw [he, List.take_of_length_le (by rw [List.length_map]; omega)]
    have hcs : cntP ((rs.take (i + 1)).map Prod.fst) = cntP ((rs.take i).map Prod.fst) + nPg r54.1 := by rw [← cntP_add, List.take_add_one, e55, List.map_append]; rfl
    refine Rg (Va (dx_add (r := (i : Int) + 1) rfl rfl rfl (wrap64_id (by omega))) rfl rfl (Pu rfl (Ni ?_)))
    exact hK47 (i + 1) e z1 z2 ⟨(by omega), (by rw [List.take_add_one, e55, List.map_append, Option.toList_some, List.map_cons, List.map_nil, pAll_add, wrAll_app, ← hd, ← hqf, hjend]), hfe, hB, hL, h1, h2, h3, hrs, y1, y2, k3, k8, k14, k37⟩ (by omega) (by repeat first | exact trivial | refine aR ?_ | refine aI (by omega) ?_)
  ·
   replace c51 := dF c51
   refine WC.exit ?_
   refine hK45 (Sq fun K94 hK94 => ?_)
   have hcie : cntP ((rs.take i).map Prod.fst) = cntP (rs.map Prod.fst) := by rw [List.take_of_length_le (by omega)]
   have hdL : d = wrAll (d0D secs loose fuse down) (q * ((secs.length : Int) / 2)) (pAll (nextD secs loose down).1 1 (rs.map Prod.fst)) := by rw [hd, List.take_of_length_le (by omega)]
   rw [hcie]
   refine Rg (Pu rfl ?_)
   have j1o := j1
   have j2o := j2
   refine Ge (dx_cw rfl Tryd.func43 rfl rfl rfl (sy_v d (q * ((secs.length : Int) / 2)) ((secs.length : Int) / 2) t1 t2 W35.heap.size W48 _ hL (.head _) k37 j1o j2o hfd)) rfl rfl ?_
   rintro _ W100 ⟨⟨rfl, x95, x96, hp101, j97, j98⟩, g99⟩
   replace h1 := h1.chgL g99 (.head _)
   replace h2 := h2.chgL g99 (.head _)
   replace k3 := k3.chg g99 n40
   replace k8 := k8.chg g99 n41
   replace k14 := k14.chg g99 n42
   replace hB := g99.toBelow hB l43
   replace hL := hL.chg g99
   clear j1o j2o
   refine Ni (hK94 (Sq fun K102 hK102 => (Rg (Pu rfl (Pu rfl (Pu rfl (Va (dx_sub (r := ((cntP (rs.map Prod.fst) : Nat) : Int)) rfl rfl rfl (by rw [wrap64_id (by omega)]; omega)) rfl rfl ?_)))))))
   refine Ge (dx_cv rfl Tryd.func55 rfl rfl rfl (header_v ((nextD secs loose down).1) ((cntP (rs.map Prod.fst) : Nat) : Int) W100 _ hL hL)) rfl rfl ?_
   rintro _ W104 ⟨⟨hv_, rfl, hhd⟩, b103⟩
   replace h1 := h1.below b103
   replace h2 := h2.below b103
   replace j97 := j97.below b103
   replace j98 := j98.below b103
   replace k3 := k3.below b103
   replace k8 := k8.below b103
   replace k14 := k14.below b103
   replace hp101 := hp101.below b103
   replace hB := below_then hB b103
   replace hL := LL.below hL b103
   have j97o := j97
   have j98o := j98
   refine Ge (dx_cw rfl Tryd.func42 rfl rfl rfl (wr_v (wrS d) (hdrP (nextD secs loose down).1 ((cntP (rs.map Prod.fst) : Nat) : Int)) (q * ((secs.length : Int) / 2)) ((secs.length : Int) / 2) x95 x96 hv_ W35.heap.size W104 _ hL (.head _) hp101 j97o j98o hhd (wrS_fu hfd) hfr (by show (0 : Int) ≤ 0 ∧ (0 : Int) ≤ 100000; decide) (hdr_byt _ _) (by show 7 ≤ 100; decide) (fun {_} g => hT.below (g.toBelow hB l43)))) rfl rfl ?_
   rintro _ W110 ⟨⟨rfl, x105, x106, hp111, j107, j108⟩, g109⟩
   replace h1 := h1.chgL g109 (.head _)
   replace h2 := h2.chgL g109 (.head _)
   replace k3 := k3.chg g109 n40
   replace k8 := k8.chg g109 n41
   replace k14 := k14.chg g109 n42
   replace hB := g109.toBelow hB l43
   replace hL := hL.chg g109
   clear j97o j98o
   refine Ni (hK102 (Sq fun K112 hK112 => (Rg (Pu rfl ?_))))
   have j107o := j107
   have j108o := j108
   refine Ge (dx_cw rfl Tryd.func43 rfl rfl rfl (sy_v (wrW (wrS d) (q * ((secs.length : Int) / 2)) (hdrP (nextD secs loose down).1 ((cntP (rs.map Prod.fst) : Nat) : Int))) (q * ((secs.length : Int) / 2)) ((secs.length : Int) / 2) x105 x106 W35.heap.size W110 _ hL (.head _) hp111 j107o j108o (wrW_fu (wrS_fu hfd)))) rfl rfl ?_
   rintro _ W118 ⟨⟨rfl, x113, x114, hp119, j115, j116⟩, g117⟩
   replace h1 := h1.chgL g117 (.head _)
   replace h2 := h2.chgL g117 (.head _)
   replace k3 := k3.chg g117 n40
   replace k8 := k8.chg g117 n41
   replace k14 := k14.chg g117 n42
   replace hB := g117.toBelow hB l43
   replace hL := hL.chg g117
   clear j107o j108o
   refine Ni (hK112 (Sq fun K120 hK120 => (Rg (Pu rfl (Va (dx_loadN rfl ty_agg_25_4 rfl k3.range rfl) rfl rfl ?_)))))
   refine Ge (dx_cv rfl Tryd.func44 rfl rfl rfl (done_v (d0D secs loose fuse down) (wrS (wrW (wrS d) (q * ((secs.length : Int) / 2)) (hdrP (nextD secs loose down).1 ((cntP (rs.map Prod.fst) : Nat) : Int)))) (q * ((secs.length : Int) / 2)) ((secs.length : Int) / 2) W35.heap.size s1 s2 x113 x114 W118 _ hL j115 j116 h1 h2 hp119)) rfl rfl ?_
   rintro _ W122 ⟨⟨a1, a2, rfl, g1, g2⟩, b121⟩
   replace k8 := k8.below b121
   replace k14 := k14.below b121
   replace hB := below_then hB b121
   refine Pu rfl (Pu rfl (Pu rfl ?_))
   refine Ge (dx_alloc rfl ty_zero_25 rfl) rfl rfl ?_
   rintro _ W123 ⟨rfl, k124, b125, z126⟩
   have n128 : W2.heap.size ≠ W122.heap.size := Nat.ne_of_lt k8.lt
   have n129 : W7.heap.size ≠ W122.heap.size := Nat.ne_of_lt k14.lt
   have l131 := hB.size
   replace g1 := g1.more b125 (Nat.le_refl _)
   replace g2 := g2.more b125 (Nat.le_refl _)
   replace k8 := k8.below b125
   replace k14 := k14.below b125
   replace hB := below_then hB b125
   refine WL.do (dx_store (cs' := [a1, a2, .int .i64 ((doneD (d0D secs loose fuse down) (wrS (wrW (wrS d) (q * ((secs.length : Int) / 2)) (hdrP (nextD secs loose down).1 ((cntP (rs.map Prod.fst) : Nat) : Int))))).fuse), .bool ((doneD (d0D secs loose fuse down) (wrS (wrW (wrS d) (q * ((secs.length : Int) / 2)) (hdrP (nextD secs loose down).1 ((cntP (rs.map Prod.fst) : Nat) : Int))))).down)]) (vs := [a1, a2, .int .i64 ((doneD (d0D secs loose fuse down) (wrS (wrW (wrS d) (q * ((secs.length : Int) / 2)) (hdrP (nextD secs loose down).1 ((cntP (rs.map Prod.fst) : Nat) : Int))))).fuse), .bool ((doneD (d0D secs loose fuse down) (wrS (wrW (wrS d) (q * ((secs.length : Int) / 2)) (hdrP (nextD secs loose down).1 ((cntP (rs.map Prod.fst) : Nat) : Int))))).down)]) rfl ty_size_25_4 rfl rfl rfl (oC g1.one (oC g2.one (oC rfl (oC rfl oc_nil)))) k124 rfl (nB rfl) rfl) rfl ?_
   rintro _ W132 ⟨k134, o133⟩
   replace k8 := k8.other o133 n128
   replace k14 := k14.other o133 n129
   clear k124
   replace g1 := g1.only o133 (.head _)
   replace g2 := g2.only o133 (.head _)
   replace hB := o133.below hB l131
   refine Pu rfl (Ni (hK120 (Sq fun K135 hK135 => (Sq fun K136 hK136 => (Rg (Pu rfl (Va (dx_neq rfl rfl rfl) rfl rfl ?_)))))))
   refine Ni (hK136 ?_)
   refine WC.cond rfl (fun c137 => ?_) (fun c137 => ?_)
   ·
    replace c137 := bnot_t c137
    replace c137 := dF c137
    refine Sq fun K138 hK138 => (Rg (Va (dx_loadN rfl ty_agg_25_4 rfl k134.range rfl) rfl rfl (Va (dx_build rfl rfl (built_of_O (cs := [.int .i64 0, .int .i64 0, .int .i64 0]) (by kernel_rfl) oc_nil)) rfl rfl (Pu rfl ?_))))
    refine WL.do (dx_store (cs' := [a1, a2, .int .i64 ((doneD (d0D secs loose fuse down) (wrS (wrW (wrS d) (q * ((secs.length : Int) / 2)) (hdrP (nextD secs loose down).1 ((cntP (rs.map Prod.fst) : Nat) : Int))))).fuse), .bool ((doneD (d0D secs loose fuse down) (wrS (wrW (wrS d) (q * ((secs.length : Int) / 2)) (hdrP (nextD secs loose down).1 ((cntP (rs.map Prod.fst) : Nat) : Int))))).down)]) (vs := [a1, a2, .int .i64 ((doneD (d0D secs loose fuse down) (wrS (wrW (wrS d) (q * ((secs.length : Int) / 2)) (hdrP (nextD secs loose down).1 ((cntP (rs.map Prod.fst) : Nat) : Int))))).fuse), .bool ((doneD (d0D secs loose fuse down) (wrS (wrW (wrS d) (q * ((secs.length : Int) / 2)) (hdrP (nextD secs loose down).1 ((cntP (rs.map Prod.fst) : Nat) : Int))))).down)]) rfl ty_size_25_4 rfl rfl rfl (oC g1.one (oC g2.one (oC rfl (oC rfl oc_nil)))) k8 rfl (nB rfl) rfl) rfl ?_
    rintro _ W139 ⟨k141, o140⟩
    replace k14 := k14.other o140 n18.symm
    clear k8
    replace g1 := g1.only o140 (.tail _ (.tail _ (.tail _ (.head _))))
    replace g2 := g2.only o140 (.tail _ (.tail _ (.tail _ (.head _))))
    replace hB := o140.below hB l12
    refine WL.do (dx_store (cs' := [.int .i64 0, .int .i64 0, .int .i64 0]) (vs := [.int .i64 0, .int .i64 0, .int .i64 0]) rfl ty_size_30_3 rfl rfl rfl (oC rfl (oC rfl (oC rfl oc_nil))) k14 rfl (nB rfl) rfl) rfl ?_
    rintro _ W142 ⟨k144, o143⟩
    replace k141 := k141.other o143 n18
    clear k14
    replace g1 := g1.only o143 (.tail _ (.tail _ (.head _)))
    replace g2 := g2.only o143 (.tail _ (.tail _ (.head _)))
    replace hB := o143.below hB l19
    refine Pu rfl (Ni (hK138 ?_))
    exact WC.ret fun a_ ha_ => hQ (cv_ret3 rfl (.agg rfl ty_agg_25_4 k141.range rfl) (.agg rfl ty_agg_30_3 k144.range rfl) (.tmp rfl) (by rw [layD_f (by first | assumption | simp_all) hdL (by first | assumption | simp_all)]; exact ⟨_, _, rfl, (g1.less (fun x hx => (.tail _ (.tail _ (.tail _ (.tail _ (.tail _ hx))))))), (g2.less (fun x hx => (.tail _ (.tail _ (.tail _ (.tail _ (.tail _ hx)))))))⟩) hB ha_)
   ·
    replace c137 := bnot_f c137
    replace c137 := dT c137
    refine WC.skip (hK135 (Sq fun K145 hK145 => (Rg (Va (dx_loadN rfl ty_agg_25_4 rfl k134.range rfl) rfl rfl (Pu rfl (Pu rfl (Pu rfl ?_)))))))
    refine Va (dx_build rfl rfl (built_of_O (cs := [.int .i64 q, .int .i64 ((nextD secs loose down).1), .int .i64 (1 + (cntP (rs.map Prod.fst) : Int))]) (by kernel_rfl) (oC rfl (oC rfl (oC rfl oc_nil))))) rfl rfl ?_
    refine WL.do (dx_store (cs' := [a1, a2, .int .i64 ((doneD (d0D secs loose fuse down) (wrS (wrW (wrS d) (q * ((secs.length : Int) / 2)) (hdrP (nextD secs loose down).1 ((cntP (rs.map Prod.fst) : Nat) : Int))))).fuse), .bool ((doneD (d0D secs loose fuse down) (wrS (wrW (wrS d) (q * ((secs.length : Int) / 2)) (hdrP (nextD secs loose down).1 ((cntP (rs.map Prod.fst) : Nat) : Int))))).down)]) (vs := [a1, a2, .int .i64 ((doneD (d0D secs loose fuse down) (wrS (wrW (wrS d) (q * ((secs.length : Int) / 2)) (hdrP (nextD secs loose down).1 ((cntP (rs.map Prod.fst) : Nat) : Int))))).fuse), .bool ((doneD (d0D secs loose fuse down) (wrS (wrW (wrS d) (q * ((secs.length : Int) / 2)) (hdrP (nextD secs loose down).1 ((cntP (rs.map Prod.fst) : Nat) : Int))))).down)]) rfl ty_size_25_4 rfl rfl rfl (oC g1.one (oC g2.one (oC rfl (oC rfl oc_nil)))) k8 rfl (nB rfl) rfl) rfl ?_
    rintro _ W146 ⟨k148, o147⟩
    replace k14 := k14.other o147 n18.symm
    clear k8
    replace g1 := g1.only o147 (.tail _ (.tail _ (.tail _ (.head _))))
    replace g2 := g2.only o147 (.tail _ (.tail _ (.tail _ (.head _))))
    replace hB := o147.below hB l12
    refine WL.do (dx_store (cs' := [.int .i64 q, .int .i64 ((nextD secs loose down).1), .int .i64 (1 + (cntP (rs.map Prod.fst) : Int))]) (vs := [.int .i64 q, .int .i64 ((nextD secs loose down).1), .int .i64 (1 + (cntP (rs.map Prod.fst) : Int))]) rfl ty_size_30_3 rfl rfl rfl (oC rfl (oC rfl (oC rfl oc_nil))) k14 rfl (nB rfl) rfl) rfl ?_
    rintro _ W149 ⟨k151, o150⟩
    replace k148 := k148.other o150 n18
    clear k14
    replace g1 := g1.only o150 (.tail _ (.tail _ (.head _)))
    replace g2 := g2.only o150 (.tail _ (.tail _ (.head _)))
    replace hB := o150.below hB l19
    refine Pu rfl (Ni (hK145 ?_))
    exact WC.ret fun a_ ha_ => hQ (cv_ret3 rfl (.agg rfl ty_agg_25_4 k148.range rfl) (.agg rfl ty_agg_30_3 k151.range rfl) (.tmp rfl) (by rw [layD_k (by first | assumption | simp_all) hdL (by first | assumption | exact Classical.not_not.1 (by assumption) | simp_all)]; exact ⟨_, _, lay_ok (by first | assumption | exact Classical.not_not.1 (by assumption) | simp_all), (g1.less (fun x hx => (.tail _ (.tail _ (.tail _ (.tail _ (.tail _ hx))))))), (g2.less (fun x hx => (.tail _ (.tail _ (.tail _ (.tail _ (.tail _ hx)))))))⟩) hB ha_)

end Go.Proofs.YtfachlmgdlnpoaaDoor
namespace Go.Proofs.YtfachlmgdlnpoaaDoor
open Go.ChangeShapes Go.WideShapes Go.ChangeAt Go.RowKit
set_option linter.unusedVariables false
set_option maxRecDepth 8000
theorem own : ownKnob Tryd.prog.godebug = none := by kernel_rfl
theorem laidOut : laidOutB Tryd.prog = true := by kernel_rfl
theorem tab_two {W : World} {l} (hL : laidMet Tryd.prog (("vouchsafe/sha.cubes", Rows.laid_vouchsafe_sha_cubes) :: ("vouchsafe/sha.squares", Rows.laid_vouchsafe_sha_squares) :: l) W) : TabS W := by
 have h1 : Go.Lib.TabIs Tryd.prog W "vouchsafe/sha.cubes" .u64 cubesL :=
  Go.Lib.tabIs_of_head (g := 3) (t := 154) (e := 149) (n := 80) (by kernel_rfl) (by kernel_rfl) Tryd.underlying154 Tryd.underlying149 (by kernel_rfl) (by kernel_rfl) hL
 have hL2 := laidMet.tail hL
 have h2 : Go.Lib.TabIs Tryd.prog W "vouchsafe/sha.squares" .u64 squaresL :=
  Go.Lib.tabIs_of_head (g := 0) (t := 150) (e := 149) (n := 8) (by kernel_rfl) (by kernel_rfl) Tryd.underlying150 Tryd.underlying149 (by kernel_rfl) (by kernel_rfl) hL2
 have g1 : Tryd.prog.globalNamed "vouchsafe/sha.cubes" = some 3 := by kernel_rfl
 have g2 : Tryd.prog.globalNamed "vouchsafe/sha.squares" = some 0 := by kernel_rfl
 refine ⟨fun k hk => ?_, fun k hk => ?_⟩
 · rw [h2.cell g2 k hk]; simp [at0, List.getD_eq_getElem?_getD]
 · rw [h1.cell g1 k hk]; simp [at0, List.getD_eq_getElem?_getD]
theorem u8_one {n : Int} (h : (Lit.int .u8 n).wf = true) : 0 ≤ n ∧ n ≤ 255 := by
 simpa [Lit.wf, IntKind.min, IntKind.max, IntKind.signed, IntKind.bits] using h
section
variable {H : Type} {enc : TypeId × Value → H} {W : World} {base : Nat} {sp : Nat → Bool} {held : Bool}
theorem el_e8 (n : Nat) (cs : List Value) (x : DataW H × List MemPlace) (h : DataW.trod enc Tryd.prog W base sp held n 5 cs = some x) : ∃ z : Int, cs = [Value.int .u8 z] ∧ (0 ≤ z ∧ z ≤ 255) := by
 obtain ⟨b, hb, _, wa⟩ := DataW.trod_int Tryd.underlying5 h
 exact ⟨b, hb, u8_one wa⟩
theorem el_R (n : Nat) (cs : List Value) (x : DataW H × List MemPlace) (h : DataW.trod enc Tryd.prog W base sp held n 40 cs = some x) : ∃ p : RcV, cs = encR p ∧ (RdF 1 [] W p.2 (e8s p.1) ∧ Byt p.1) := by
 obtain ⟨v, zs, e, r, g⟩ := rd_of_slice (s := 1) (fun z : Int => [Value.int .u8 z]) (fun z => 0 ≤ z ∧ z ≤ 255) (by decide) Tryd.underlying40 (by kernel_rfl) (fun a _ => rfl) el_e8 h
 exact ⟨(zs, v), e, r, g⟩
theorem open_recs {r : Reach} {b0 : Nat} {v : Value} {d : DataW H} {p : List MemPlace} (hv : Value.okWide Tryd.prog W r b0 31 v) (h : DataW.Trod enc Tryd.prog W base sp held 31 v d p) : ∃ rs : List RcV, RdF 1 [] W v (rs.map encR) ∧ RdRs [] W rs ∧ ∀ r ∈ rs, Byt r.1 := by
 obtain ⟨a, len, cap, rfl⟩ := okWide_slice Tryd.underlying31 hv
 obtain ⟨fuel, hf⟩ := h
 obtain ⟨v, fs, e, r, g⟩ := rd_of_slice (s := 1) encR (fun p => RdF 1 [] W p.2 (e8s p.1) ∧ Byt p.1) (by decide) Tryd.underlying31 (by kernel_rfl) (fun a _ => rfl) el_R hf
 simp [Value.cells] at e
 subst e
 exact ⟨fs, r, fun q hq => (g q hq).1, fun q hq => (g q hq).2⟩
end
end Go.Proofs.YtfachlmgdlnpoaaDoor
namespace Go.Proofs.YtfachlmgdlnpoaaDoor
open Go.RowKit
set_option linter.unusedVariables false
set_option linter.unusedSimpArgs false
set_option maxRecDepth 8000
set_option maxHeartbeats 2000000

theorem unseal_dat {z : List Int} {p : Pg} (h : unsealS z = some p) : p.dat.length ≤ 100 := by
  unfold unsealS at h
  split at h
  · cases h
  · rename_i hb
    split at h
    · cases h
      unfold badS at hb
      show ((z.drop 14).take (z[12]?.getD 0).toNat).length ≤ 100
      rw [List.length_take]
      omega
    · cases h
theorem pageD_dat {secs : List (List Int)} {loose : List (Int × List Int)} {down : Bool} {a ix : Int} {p : Pg} (h : pageD secs loose down a ix = some p) : p.dat.length ≤ 100 := by
  unfold pageD at h
  split at h
  · cases h
  · split at h
    · rename_i q hq
      split at h
      · cases h; exact unseal_dat hq
      · cases h
    · cases h
theorem recN_n {pg : Nat → Option Pg} {sz st : Nat} {gen : Int} (hpg : ∀ k p, pg k = some p → p.dat.length ≤ 100) : ∀ (f k : Nat) (out r : List Int) (k' : Nat), recN pg sz st gen f k out = some (r, k') → st ≤ k → out.length = 100 * (k - st) → st < k' ∧ nPg r = k' - st ∧ k' ≤ sz
  | 0, k, out, r, k', h, _, _ => by cases h
  | f + 1, k, out, r, k', h, hk, ho => by
    rw [recN] at h
    split at h
    · rename_i hks
      split at h
      · cases h
      · rename_i p hp
        have hd := hpg k p hp
        split at h
        · cases h
        · split at h
          · split at h
            · cases h
            · rename_i hz
              cases h
              refine ⟨by omega, ?_, by omega⟩
              unfold nPg
              rw [List.length_append, ho]
              split <;> omega
          · split at h
            · cases h
            · rename_i h100
              obtain ⟨h1, h2, h3⟩ := recN_n hpg f (k + 1) _ r k' h (by omega) (by rw [List.length_append, ho]; omega)
              exact ⟨h1, h2, h3⟩
    · cases h
theorem recD_n {pg : Nat → Option Pg} {sz st : Nat} {gen : Int} (hpg : ∀ k p, pg k = some p → p.dat.length ≤ 100) {r : List Int} {k' : Nat} (h : recD pg sz st gen = some (r, k')) : st < k' ∧ nPg r = k' - st ∧ k' ≤ sz := recN_n hpg _ _ _ _ _ h (Nat.le_refl _) (by simp)
theorem recs1_n2 {pg : Nat → Option Pg} {sz n : Nat} {gen : Int} (hpg : ∀ k p, pg k = some p → p.dat.length ≤ 100) : ∀ (f k : Nat) (l l' : List (List Int)) (k' : Nat), recs1 pg sz n gen f k l = some (l', k') → k = 1 + cntP l → k' = 1 + cntP l'
  | 0, k, l, l', k', h, _ => by cases h
  | f + 1, k, l, l', k', h, hk => by
    rw [recs1] at h
    split at h
    · split at h
      · cases h
      · rename_i out k2 hr
        split at h
        · cases h
        · have := recD_n hpg hr
          exact recs1_n2 hpg f k2 _ l' k' h (by rw [cntP_add]; omega)
    · cases h; exact hk
theorem recs2_n2 {pg : Nat → Option Pg} {sz : Nat} {gen : Int} (hpg : ∀ k p, pg k = some p → p.dat.length ≤ 100) : ∀ (f k : Nat) (l : List (List Int)), k = 1 + cntP l → (recs2 pg sz gen f k l).2 = 1 + cntP (recs2 pg sz gen f k l).1
  | 0, k, l, hk => hk
  | f + 1, k, l, hk => by
    rw [recs2]
    split
    · exact hk
    · rename_i out k2 hr
      have := recD_n hpg hr
      exact recs2_n2 hpg f k2 _ (by rw [cntP_add]; omega)
theorem recsD_n {pg : Nat → Option Pg} {sz : Nat} (hpg : ∀ k p, pg k = some p → p.dat.length ≤ 100) {l : List (List Int)} {g : Int} {u : Nat} (h : recsD pg sz = some (l, g, u)) : u = 1 + cntP l := by
  unfold recsD at h
  split at h
  · cases h
  · split at h
    · cases h
    · split at h
      · cases h
      · split at h
        · cases h
        · rename_i l1 k1 h1
          cases h
          exact recs2_n2 hpg _ _ _ (recs1_n2 hpg _ _ _ _ _ h1 rfl)
def halfD (secs : List (List Int)) (loose : List (Int × List Int)) (down : Bool) (q : Int) : Option (List (List Int) × Int × Nat) := recsD (pgA secs loose down (q * ((secs.length : Int) / 2))) (secs.length / 2)
def recordsD (secs : List (List Int)) (loose : List (Int × List Int)) (down : Bool) (q : Int) : Option (List (List Int) × Int × Nat) := if ¬ checkD secs loose down = 0 ∨ (¬ q = 0 ∧ ¬ q = 1) then none else halfD secs loose down q
theorem halfD_n {secs : List (List Int)} {loose : List (Int × List Int)} {down : Bool} {q : Int} {l : List (List Int)} {g : Int} {u : Nat} (h : halfD secs loose down q = some (l, g, u)) : u = 1 + cntP l := recsD_n (fun _ _ => pageD_dat) h
def HalfU (x : Option (List (List Int) × Int × Nat)) (sz : Nat) (rs : List RcV) (g : Int) (b : Bool) : Prop := (b = true → ∃ used, x = some (rs.map Prod.fst, g, used) ∧ used ≤ sz + 1 ∧ used = 1 + cntP (rs.map Prod.fst)) ∧ (b = false → x = none ∧ rs = [] ∧ g = 0)
theorem recs_w (secs : List (List Int)) (loose : List (Int × List Int)) (fuse : Int) (down : Bool) (s1 s2 : Value) (q : Int) (fr : Int) (hfe : fr = q * ((secs.length : Int) / 2)) (sz : Int) (hse : sz = (secs.length : Int) / 2) (w : World) (L : List Nat) (hL : LL L w) (h1 : RdF 128 L w s1 (secs.map encS)) (h2 : RdF 129 L w s2 (loose.map encW)) (hq : q = 0 ∨ q = 1) (hsz : secs.length ≤ 2048) (hbd : BytD secs loose) (hT : TabS w) : CV Tryd.prog 39 [.agg #[s1, s2, .int .i64 fuse, .bool down, .int .i64 fr, .int .i64 sz]] w fun v W => ∃ (rs : List RcV) (lv : Value) (g : Int) (b : Bool), v = .tuple #[lv, .int .i64 g, .bool b] ∧ RdF 1 L W lv (rs.map encR) ∧ RdRs L W rs ∧ (∀ r ∈ rs, Byt r.1 ∧ r.1.length ≤ 1000000) ∧ HalfU (halfD secs loose down q) (secs.length / 2) rs g b := by
 have e : sz = ((secs.length / 2 : Nat) : Int) := by omega
 rw [e]
 subst hfe
 refine Calls.mono (recs_v secs loose fuse down s1 s2 (q * ((secs.length : Int) / 2)) (secs.length / 2) w L hL hL h1 h2 (by rcases hq with rfl | rfl <;> omega) (by omega) hbd hT) fun _ W h => ?_
 obtain ⟨v, he, hr, hb⟩ := h
 refine ⟨v, he, ?_, hb⟩
 rcases hr with ⟨rs, lv, g, used, hv, hx, h3, h4, h5, h6, h7⟩ | ⟨hv, hx⟩
 · exact ⟨rs, lv, g, true, hv, h3, h4, fun r hr => ⟨(h5 r hr).1, Nat.le_trans (h5 r hr).2 (by decide)⟩, fun _ => ⟨used, hx, h6, halfD_n (q := q) hx⟩, fun h => by cases h⟩
 · exact ⟨[], _, 0, false, hv, RdF.nil (by decide), (fun r hr => by cases hr), (fun r hr => by cases hr), fun h => (by cases h), fun _ => ⟨hx, rfl, rfl⟩⟩
theorem check_ok {secs : List (List Int)} {loose : List (Int × List Int)} {down : Bool} (h : checkD secs loose down = 0) : rightD secs loose = true ∧ 8 ≤ secs.length ∧ secs.length ≤ 2048 ∧ down = false := by
  unfold checkD at h
  split at h
  · cases h
  · rename_i hc
    split at h
    · cases h
    · rename_i hd
      have hr : rightD secs loose = true := by
        cases e : rightD secs loose
        · exact absurd (.inl e) hc
        · rfl
      exact ⟨hr, by omega, (right_of hr).2.1, by simpa using hd⟩

set_option maxHeartbeats 1000000 in
theorem records_v (secs : List (List Int)) (loose : List (Int × List Int)) (fuse : Int) (down : Bool) (s1 s2 : Value) (q : Int) (w : World) (L : List Nat) (hL : LL L w) (h1 : RdF 128 L w s1 (secs.map encS)) (h2 : RdF 129 L w s2 (loose.map encW))  (hbd : BytD secs loose) (hT : TabS w) : CV Tryd.prog 14 [.agg #[s1, s2, .int .i64 fuse, .bool down], .int .i64 q] w fun v W => ∃ (rs : List RcV) (lv : Value) (g : Int) (b : Bool), v = .tuple #[lv, .int .i64 g, .bool b] ∧ RdF 1 L W lv (rs.map encR) ∧ RdRs L W rs ∧ (∀ r ∈ rs, Byt r.1 ∧ r.1.length ≤ 1000000) ∧ HalfU (recordsD secs loose down q) (secs.length / 2) rs g b := by
 refine cv_enter (N := 25) (f := [(0, .agg #[s1, s2, .int .i64 fuse, .bool down]), (1, .int .i64 q)]) Tryd.func14 rfl rfl rfl rfl fun Q hQ hE => ?_
 have hB := Below.refl w.heap.size w
 have h1m : secs.length ≤ maxLen := by have := h1.len; rwa [List.length_map] at this
 unfold maxLen at h1m
 have h2m : loose.length ≤ maxLen := by have := h2.len; rwa [List.length_map] at this
 unfold maxLen at h2m
 refine Sq fun K1 hK1 => (Rg ?_)
 refine Ge (dx_box rfl rfl rfl) rfl rfl ?_
 rintro _ W2 ⟨rfl, k3, b4, z5⟩
 have l6 := hB.size
 replace h1 := h1.more b4 (Nat.le_refl _)
 replace h2 := h2.more b4 (Nat.le_refl _)
 replace hB := below_then hB b4
 replace hL := LL.more hL z5
 refine Pu rfl (Pu rfl (Pu rfl (Ni (hK1 (Sq fun K7 hK7 => (Sq fun K8 hK8 => (Rg ?_)))))))
 refine Va (dx_loadN rfl ty_agg_25_4 rfl k3.range rfl) rfl rfl ?_
 refine Ge (dx_cv rfl Tryd.func32 rfl rfl rfl (check_v secs loose fuse down _ _ W2 _ hL h1 h2)) rfl rfl ?_
 rintro _ W10 ⟨rfl, b9⟩
 replace h1 := h1.below b9
 replace h2 := h2.below b9
 replace k3 := k3.below b9
 replace hB := below_then hB b9
 replace hL := LL.below hL b9
 refine Va (dx_neq rfl rfl rfl) rfl rfl (Pu rfl ?_)
 refine WL.split 10 rfl (fun g11 => ?_) (fun g11 => ?_)
 ·
  replace g11 := bnot_t g11
  replace g11 := dF g11
  refine Of rfl (Of rfl (Of rfl (Of rfl (Of rfl (Of rfl (Pu rfl (Ni ?_)))))))
  refine hK8 (WC.condT rfl (Sq fun K12 hK12 => (Rg (Pu rfl (Pu rfl (Pu rfl (Ni ?_)))))))
  refine hK12 ?_
  exact WC.ret fun a_ ha_ => hQ (cv_ret3 rfl (.tmp rfl) (.tmp rfl) (.tmp rfl) ⟨[], _, 0, false, rfl, RdF.nil (by decide), (fun r hr => by cases hr), (fun r hr => by cases hr), fun h => (by cases h), fun _ => ⟨by unfold recordsD; rw [if_pos (by first | omega | (simp_all; done))], rfl, rfl⟩⟩ hB ha_)
 ·
  replace g11 := bnot_f g11
  replace g11 := dT g11
  refine Pu rfl (Va (dx_neq rfl rfl rfl) rfl rfl (Pu rfl ?_))
  refine WL.split 13 rfl (fun g13 => ?_) (fun g13 => ?_)
  ·
   replace g13 := bnot_t g13
   replace g13 := dF g13
   refine Pu rfl (Va (dx_neq rfl rfl rfl) rfl rfl (Pu rfl (Pu rfl (Ni (hK8 ?_)))))
   refine WC.cond rfl (fun c14 => ?_) (fun c14 => ?_)
   ·
    replace c14 := bnot_t c14
    replace c14 := dF c14
    refine Sq fun K15 hK15 => (Rg (Pu rfl (Pu rfl (Pu rfl (Ni (hK15 ?_))))))
    exact WC.ret fun a_ ha_ => hQ (cv_ret3 rfl (.tmp rfl) (.tmp rfl) (.tmp rfl) ⟨[], _, 0, false, rfl, RdF.nil (by decide), (fun r hr => by cases hr), (fun r hr => by cases hr), fun h => (by cases h), fun _ => ⟨by unfold recordsD; rw [if_pos (by first | omega | (simp_all; done))], rfl, rfl⟩⟩ hB ha_)
   ·
    replace c14 := bnot_f c14
    replace c14 := dT c14
    refine WC.skip (hK7 (Sq fun K16 hK16 => ?_))
    obtain ⟨hr1, hr2, hr3, hr4⟩ := check_ok (secs := secs) (loose := loose) (down := down) (by first | assumption | omega)
    have hq : q = 0 ∨ q = 1 := by omega
    refine Rg (Va (dx_loadN rfl ty_agg_25_4 rfl k3.range rfl) rfl rfl (Pu rfl ?_))
    refine Ge (dx_cv rfl Tryd.func38 rfl rfl rfl (halfOf_v secs loose fuse down _ _ q W10 _ hL h1 h2 hq (by omega))) rfl rfl ?_
    rintro _ W18 ⟨rfl, b17⟩
    replace h1 := h1.below b17
    replace h2 := h2.below b17
    replace hB := below_then hB b17
    replace hL := LL.below hL b17
    refine Ge (dx_cv rfl Tryd.func39 rfl rfl rfl (recs_w secs loose fuse down _ _ q _ rfl _ rfl W18 _ hL h1 h2 hq (by omega) hbd (hT.below hB))) rfl rfl ?_
    rintro _ W20 ⟨⟨rs, lv, g, hb_, rfl, h3, hrs, hrb, hhu⟩, b19⟩
    replace hB := below_then hB b19
    refine Pu rfl (Pu rfl (Pu rfl (Pu rfl (Pu rfl (Pu rfl (Ni (hK16 ?_)))))))
    exact WC.ret fun a_ ha_ => hQ (cv_ret3 rfl (.tmp rfl) (.tmp rfl) (.tmp rfl) ⟨rs, lv, g, hb_, rfl, (h3.less (fun x hx => (.tail _ hx))), (hrs.less (fun x hx => (.tail _ hx))), hrb, by unfold recordsD; rw [if_neg (by first | omega | (simp_all; done))]; exact hhu⟩ hB ha_)
  ·
   replace g13 := bnot_f g13
   replace g13 := dT g13
   refine Of rfl (Of rfl (Pu rfl (Pu rfl (Ni (hK8 (WC.condF rfl (WC.skip ?_)))))))
   refine hK7 (Sq fun K21 hK21 => ?_)
   obtain ⟨hr1, hr2, hr3, hr4⟩ := check_ok (secs := secs) (loose := loose) (down := down) (by first | assumption | omega)
   have hq : q = 0 ∨ q = 1 := by omega
   refine Rg (Va (dx_loadN rfl ty_agg_25_4 rfl k3.range rfl) rfl rfl (Pu rfl ?_))
   refine Ge (dx_cv rfl Tryd.func38 rfl rfl rfl (halfOf_v secs loose fuse down _ _ q W10 _ hL h1 h2 hq (by omega))) rfl rfl ?_
   rintro _ W23 ⟨rfl, b22⟩
   replace h1 := h1.below b22
   replace h2 := h2.below b22
   replace hB := below_then hB b22
   replace hL := LL.below hL b22
   refine Ge (dx_cv rfl Tryd.func39 rfl rfl rfl (recs_w secs loose fuse down _ _ q _ rfl _ rfl W23 _ hL h1 h2 hq (by omega) hbd (hT.below hB))) rfl rfl ?_
   rintro _ W25 ⟨⟨rs, lv, g, hb_, rfl, h3, hrs, hrb, hhu⟩, b24⟩
   replace hB := below_then hB b24
   refine Pu rfl (Pu rfl (Pu rfl (Pu rfl (Pu rfl (Pu rfl (Ni (hK21 ?_)))))))
   exact WC.ret fun a_ ha_ => hQ (cv_ret3 rfl (.tmp rfl) (.tmp rfl) (.tmp rfl) ⟨rs, lv, g, hb_, rfl, (h3.less (fun x hx => (.tail _ hx))), (hrs.less (fun x hx => (.tail _ hx))), hrb, by unfold recordsD; rw [if_neg (by first | omega | (simp_all; done))]; exact hhu⟩ hB ha_)

theorem sizeD_n {r : List Int} (h : r.length ≤ 4096) : sizeD (r.length : Int) = (nPg r : Int) := by
 unfold sizeD nPg
 rw [if_neg (show ¬ ((r.length : Int) < 0 ∨ 4096 < (r.length : Int)) by omega)]
 split <;> split <;> omega
def formatD (secs : List (List Int)) (loose : List (Int × List Int)) (fuse : Int) (down : Bool) : DO × Int × Int × Int :=
 if ¬ checkD secs loose down = 0 then (⟨secs, loose, fuse, down, checkD secs loose down⟩, 0, 0, 0) else layD secs loose fuse down 0 []
def pickD : Option (List (List Int) × Int × Nat) → Option (List (List Int) × Int × Nat) → Option (List (List Int) × Int)
 | none, none => none
 | some a, none => some (a.1, 1)
 | none, some b => some (b.1, 0)
 | some a, some b => if a.2.1 < b.2.1 then some (b.1, 0) else some (a.1, 1)
def bothD (secs : List (List Int)) (loose : List (Int × List Int)) (down : Bool) : Option (List (List Int) × Int) := pickD (recordsD secs loose down 0) (recordsD secs loose down 1)
def openD (secs : List (List Int)) (loose : List (Int × List Int)) (fuse : Int) (down : Bool) : (DO × Int × Int × Int) × List (List Int) :=
 if ¬ checkD secs loose down = 0 then ((⟨secs, loose, fuse, down, checkD secs loose down⟩, 0, 0, 0), [])
 else match bothD secs loose down with
  | none => ((⟨secs, loose, fuse, down, 20⟩, 0, 0, 0), [])
  | some (l, q) => if (layD secs loose fuse down q l).1.err = 0 then (layD secs loose fuse down q l, l) else (layD secs loose fuse down q l, [])
def appW (secs : List (List Int)) (loose : List (Int × List Int)) (fuse : Int) (down : Bool) (half gen used : Int) (rec : List Int) : DO := doneD (d0D secs loose fuse down) (wrS (wrAll (d0D secs loose fuse down) (half * ((secs.length : Int) / 2)) (pagesD gen used rec)))
def appendD (secs : List (List Int)) (loose : List (Int × List Int)) (fuse : Int) (down : Bool) (half gen used : Int) (rec : List Int) : DO × Int × Int × Int :=
 if ¬ checkD secs loose down = 0 then (⟨secs, loose, fuse, down, checkD secs loose down⟩, half, gen, used)
 else if ¬ logD (secs.length : Int) half gen used = 0 then (⟨secs, loose, fuse, down, logD (secs.length : Int) half gen used⟩, half, gen, used)
 else if 4096 < rec.length then (⟨secs, loose, fuse, down, 3⟩, half, gen, used)
 else if (secs.length : Int) / 2 < used + sizeD (rec.length : Int) then (⟨secs, loose, fuse, down, 10⟩, half, gen, used)
 else if (appW secs loose fuse down half gen used rec).err = 0 then (appW secs loose fuse down half gen used rec, half, gen, used + sizeD (rec.length : Int))
 else (appW secs loose fuse down half gen used rec, half, gen, used)
section
variable {secs : List (List Int)} {loose : List (Int × List Int)} {fuse : Int} {down : Bool}
theorem formatD_e (h : ¬ checkD secs loose down = 0) : formatD secs loose fuse down = (⟨secs, loose, fuse, down, checkD secs loose down⟩, 0, 0, 0) := if_pos h
theorem formatD_k (h : checkD secs loose down = 0) : formatD secs loose fuse down = layD secs loose fuse down 0 [] := if_neg (fun q => q h)
theorem openD_e (h : ¬ checkD secs loose down = 0) : openD secs loose fuse down = ((⟨secs, loose, fuse, down, checkD secs loose down⟩, 0, 0, 0), []) := if_pos h
theorem openD_n (h : checkD secs loose down = 0) (hb : bothD secs loose down = none) : openD secs loose fuse down = ((⟨secs, loose, fuse, down, 20⟩, 0, 0, 0), []) := by unfold openD; rw [if_neg (fun q => q h), hb]
theorem openD_k {l : List (List Int)} {q : Int} (h : checkD secs loose down = 0) (hb : bothD secs loose down = some (l, q)) (he : (layD secs loose fuse down q l).1.err = 0) : openD secs loose fuse down = (layD secs loose fuse down q l, l) := by unfold openD; rw [if_neg (fun q => q h), hb]; exact if_pos he
theorem openD_f {l : List (List Int)} {q : Int} (h : checkD secs loose down = 0) (hb : bothD secs loose down = some (l, q)) (he : ¬ (layD secs loose fuse down q l).1.err = 0) : openD secs loose fuse down = (layD secs loose fuse down q l, []) := by unfold openD; rw [if_neg (fun q => q h), hb]; exact if_neg he
end
theorem layD_err0 {secs : List (List Int)} {loose : List (Int × List Int)} {fuse : Int} {down : Bool} {q : Int} {l : List (List Int)} (h : ¬ (layD secs loose fuse down q l).1.err = 0) : (layD secs loose fuse down q l).2 = (0, 0, 0) := by
  unfold layD at h ⊢
  split
  · rfl
  · rename_i h1
    rw [if_neg h1] at h
    split
    · rename_i h2
      rw [if_pos h2] at h
      exact absurd h2 h
    · rfl
theorem HalfU.cnt {x : Option (List (List Int) × Int × Nat)} {sz : Nat} {rs : List RcV} {g : Int} {b : Bool} (h : HalfU x sz rs g b) : cntP (rs.map Prod.fst) ≤ sz := by
 cases b with
 | false => rw [(h.2 rfl).2.1]; exact Nat.zero_le _
 | true => obtain ⟨u, _, h1, h2⟩ := h.1 rfl; omega
set_option maxHeartbeats 1000000 in
theorem format_v (secs : List (List Int)) (loose : List (Int × List Int)) (fuse : Int) (down : Bool) (s1 s2 : Value) (w : World) (L : List Nat) (hL : LL L w) (h1 : RdF 128 L w s1 (secs.map encS)) (h2 : RdF 129 L w s2 (loose.map encW))  (hfu : -9223372036854775808 ≤ fuse ∧ fuse ≤ 9223372036854775807) (hbd : BytD secs loose) (hT : TabS w) : CV Tryd.prog 20 [.agg #[s1, s2, .int .i64 fuse, .bool down]] w fun v W => ∃ t1 t2, v = .tuple #[.agg #[t1, t2, .int .i64 (formatD secs loose fuse down).1.fuse, .bool (formatD secs loose fuse down).1.down], .agg #[.int .i64 (formatD secs loose fuse down).2.1, .int .i64 (formatD secs loose fuse down).2.2.1, .int .i64 (formatD secs loose fuse down).2.2.2], .int .i64 (formatD secs loose fuse down).1.err] ∧ RdF 128 L W t1 ((formatD secs loose fuse down).1.secs.map encS) ∧ RdF 129 L W t2 ((formatD secs loose fuse down).1.loose.map encW) := by
 refine cv_enter (N := 18) (f := [(0, .agg #[s1, s2, .int .i64 fuse, .bool down])]) Tryd.func20 rfl rfl rfl rfl fun Q hQ hE => ?_
 have hB := Below.refl w.heap.size w
 have h1m : secs.length ≤ maxLen := by have := h1.len; rwa [List.length_map] at this
 unfold maxLen at h1m
 have h2m : loose.length ≤ maxLen := by have := h2.len; rwa [List.length_map] at this
 unfold maxLen at h2m
 refine Sq fun K1 hK1 => (Rg ?_)
 refine Ge (dx_box rfl rfl rfl) rfl rfl ?_
 rintro _ W2 ⟨rfl, k3, b4, z5⟩
 have l6 := hB.size
 replace h1 := h1.more b4 (Nat.le_refl _)
 replace h2 := h2.more b4 (Nat.le_refl _)
 replace hB := below_then hB b4
 replace hL := LL.more hL z5
 refine Ge (dx_alloc rfl ty_zero_25 rfl) rfl rfl ?_
 rintro _ W7 ⟨rfl, k8, b9, z10⟩
 have l12 := hB.size
 replace h1 := h1.more b9 (Nat.le_refl _)
 replace h2 := h2.more b9 (Nat.le_refl _)
 replace k3 := k3.below b9
 replace hB := below_then hB b9
 replace hL := LL.more hL z10
 refine Ge (dx_alloc rfl ty_zero_30 rfl) rfl rfl ?_
 rintro _ W13 ⟨rfl, k14, b15, z16⟩
 have n18 : W2.heap.size ≠ W7.heap.size := Nat.ne_of_lt k8.lt
 have l19 := hB.size
 replace h1 := h1.more b15 (Nat.le_refl _)
 replace h2 := h2.more b15 (Nat.le_refl _)
 replace k3 := k3.below b15
 replace k8 := k8.below b15
 replace hB := below_then hB b15
 replace hL := LL.more hL z16
 refine Pu rfl (Ni (hK1 (Sq fun K20 hK20 => (Sq fun K21 hK21 => (Rg (Va (dx_loadN rfl ty_agg_25_4 rfl k3.range rfl) rfl rfl ?_))))))
 refine Ge (dx_cv rfl Tryd.func32 rfl rfl rfl (check_v secs loose fuse down _ _ W13 _ hL h1 h2)) rfl rfl ?_
 rintro _ W23 ⟨rfl, b22⟩
 replace h1 := h1.below b22
 replace h2 := h2.below b22
 replace k3 := k3.below b22
 replace k8 := k8.below b22
 replace k14 := k14.below b22
 replace hB := below_then hB b22
 replace hL := LL.below hL b22
 refine Pu rfl (Ni (hK21 (Sq fun K24 hK24 => (Rg (Pu rfl (Va (dx_neq rfl rfl rfl) rfl rfl (Ni ?_)))))))
 refine hK24 ?_
 refine WC.cond rfl (fun c25 => ?_) (fun c25 => ?_)
 ·
  replace c25 := bnot_t c25
  replace c25 := dF c25
  refine Sq fun K26 hK26 => (Rg (Va (dx_loadN rfl ty_agg_25_4 rfl k3.range rfl) rfl rfl (Va (dx_build rfl rfl (built_of_O (cs := [.int .i64 0, .int .i64 0, .int .i64 0]) (by kernel_rfl) oc_nil)) rfl rfl (Pu rfl ?_))))
  refine WL.do (dx_store (cs' := [s1, s2, .int .i64 fuse, .bool down]) (vs := [s1, s2, .int .i64 fuse, .bool down]) rfl ty_size_25_4 rfl rfl rfl (oC h1.one (oC h2.one (oC rfl (oC rfl oc_nil)))) k8 rfl (nB rfl) rfl) rfl ?_
  rintro _ W27 ⟨k29, o28⟩
  replace k14 := k14.other o28 n18.symm
  clear k8
  replace h1 := h1.only o28 (.tail _ (.head _))
  replace h2 := h2.only o28 (.tail _ (.head _))
  replace hB := o28.below hB l12
  refine WL.do (dx_store (cs' := [.int .i64 0, .int .i64 0, .int .i64 0]) (vs := [.int .i64 0, .int .i64 0, .int .i64 0]) rfl ty_size_30_3 rfl rfl rfl (oC rfl (oC rfl (oC rfl oc_nil))) k14 rfl (nB rfl) rfl) rfl ?_
  rintro _ W30 ⟨k32, o31⟩
  replace k29 := k29.other o31 n18
  clear k14
  replace h1 := h1.only o31 (.head _)
  replace h2 := h2.only o31 (.head _)
  replace hB := o31.below hB l19
  refine Pu rfl (Ni (hK26 ?_))
  exact WC.ret fun a_ ha_ => hQ (cv_ret3 rfl (.agg rfl ty_agg_25_4 k29.range rfl) (.agg rfl ty_agg_30_3 k32.range rfl) (.tmp rfl) (by rw [formatD_e (by first | assumption | omega)]; exact ⟨_, _, rfl, (h1.less (fun x hx => (.tail _ (.tail _ (.tail _ hx))))), (h2.less (fun x hx => (.tail _ (.tail _ (.tail _ hx)))))⟩) hB ha_)
 ·
  replace c25 := bnot_f c25
  replace c25 := dT c25
  refine WC.skip (hK20 (Sq fun K33 hK33 => ?_))
  obtain ⟨hr1, hr2, hr3, hr4⟩ := check_ok (secs := secs) (loose := loose) (down := down) (by first | assumption | omega)
  refine Rg (Va (dx_loadN rfl ty_agg_25_4 rfl k3.range rfl) rfl rfl ?_)
  refine Ge (dx_cv rfl Tryd.func33 rfl rfl rfl (lay_v secs loose fuse down _ _ 0 [] (.slice none 0 0) W23 _ hL h1 h2 (RdF.nil (by decide)) (fun r hr => by cases hr) hfu (.inl rfl) (by omega) hbd (fun r hr => by cases hr) (Nat.zero_le _) (hT.below hB))) rfl rfl ?_
  rintro _ W35 ⟨⟨a1, a2, rfl, ag1, ag2⟩, b34⟩
  replace k8 := k8.below b34
  replace k14 := k14.below b34
  replace hB := below_then hB b34
  refine Pu rfl (Pu rfl (Pu rfl ?_))
  refine WL.do (dx_store (cs' := [a1, a2, .int .i64 ((layD secs loose fuse down 0 []).1.fuse), .bool ((layD secs loose fuse down 0 []).1.down)]) (vs := [a1, a2, .int .i64 ((layD secs loose fuse down 0 []).1.fuse), .bool ((layD secs loose fuse down 0 []).1.down)]) rfl ty_size_25_4 rfl rfl rfl (oC ag1.one (oC ag2.one (oC rfl (oC rfl oc_nil)))) k8 rfl (nB rfl) rfl) rfl ?_
  rintro _ W36 ⟨k38, o37⟩
  replace k14 := k14.other o37 n18.symm
  clear k8
  replace ag1 := ag1.only o37 (.tail _ (.head _))
  replace ag2 := ag2.only o37 (.tail _ (.head _))
  replace hB := o37.below hB l12
  refine WL.do (dx_store (cs' := [.int .i64 ((layD secs loose fuse down 0 []).2.1), .int .i64 ((layD secs loose fuse down 0 []).2.2.1), .int .i64 ((layD secs loose fuse down 0 []).2.2.2)]) (vs := [.int .i64 ((layD secs loose fuse down 0 []).2.1), .int .i64 ((layD secs loose fuse down 0 []).2.2.1), .int .i64 ((layD secs loose fuse down 0 []).2.2.2)]) rfl ty_size_30_3 rfl rfl rfl (oC rfl (oC rfl (oC rfl oc_nil))) k14 rfl (nB rfl) rfl) rfl ?_
  rintro _ W39 ⟨k41, o40⟩
  replace k38 := k38.other o40 n18
  clear k14
  replace ag1 := ag1.only o40 (.head _)
  replace ag2 := ag2.only o40 (.head _)
  replace hB := o40.below hB l19
  refine Pu rfl (Ni (hK33 ?_))
  exact WC.ret fun a_ ha_ => hQ (cv_ret3 rfl (.agg rfl ty_agg_25_4 k38.range rfl) (.agg rfl ty_agg_30_3 k41.range rfl) (.tmp rfl) (by rw [formatD_k (by first | assumption | omega)]; exact ⟨_, _, rfl, (ag1.less (fun x hx => (.tail _ (.tail _ (.tail _ hx))))), (ag2.less (fun x hx => (.tail _ (.tail _ (.tail _ hx)))))⟩) hB ha_)

section
variable {x0 x1 : Option (List (List Int) × Int × Nat)} {n : Nat} {rs0 rs1 : List RcV} {g0 g1 : Int} {b0 b1 : Bool}
theorem pick_1 (h0 : HalfU x0 n rs0 g0 b0) (h1 : HalfU x1 n rs1 g1 b1) (hc : b1 = true ∧ (b0 = false ∨ g0 < g1)) : pickD x0 x1 = some (rs1.map Prod.fst, 0) := by
 obtain ⟨u1, e1, _⟩ := h1.1 hc.1
 cases b0 with
 | false => rw [(h0.2 rfl).1, e1]; rfl
 | true =>
  obtain ⟨u0, e0, _⟩ := h0.1 rfl
  rw [e0, e1]
  exact if_pos (hc.2.resolve_left (by decide))
theorem pick_0 (h0 : HalfU x0 n rs0 g0 b0) (h1 : HalfU x1 n rs1 g1 b1) (hc : ¬ (b1 = true ∧ (b0 = false ∨ g0 < g1))) (hb : b0 = true) : pickD x0 x1 = some (rs0.map Prod.fst, 1) := by
 subst hb
 obtain ⟨u0, e0, _⟩ := h0.1 rfl
 cases b1 with
 | false => rw [(h1.2 rfl).1, e0]; rfl
 | true =>
  obtain ⟨u1, e1, _⟩ := h1.1 rfl
  rw [e0, e1]
  exact if_neg (fun q => hc ⟨rfl, .inr q⟩)
theorem pick_n (h0 : HalfU x0 n rs0 g0 b0) (h1 : HalfU x1 n rs1 g1 b1) (hc : ¬ (b1 = true ∧ (b0 = false ∨ g0 < g1))) (hb : b0 = false) : pickD x0 x1 = none := by
 subst hb
 have : b1 = false := by
  cases b1
  · rfl
  · exact absurd ⟨rfl, .inl rfl⟩ hc
 subst this
 rw [(h0.2 rfl).1, (h1.2 rfl).1]; rfl
end
theorem log0 {x : Int × Int × Int} {d r : Value} {e : Int} (h : x = (0, 0, 0)) : Value.tuple #[d, .agg #[.int .i64 0, .int .i64 0, .int .i64 0], r, .int .i64 e] = .tuple #[d, .agg #[.int .i64 x.1, .int .i64 x.2.1, .int .i64 x.2.2], r, .int .i64 e] := by rw [h]
theorem open_ok {d l r : Value} {e : Int} (h : e = 0) : Value.tuple #[d, l, r, .int .i64 0] = .tuple #[d, l, r, .int .i64 e] := by rw [h]
set_option maxHeartbeats 1000000 in
theorem open_v (secs : List (List Int)) (loose : List (Int × List Int)) (fuse : Int) (down : Bool) (s1 s2 : Value) (w : World) (L : List Nat) (hL : LL L w) (h1 : RdF 128 L w s1 (secs.map encS)) (h2 : RdF 129 L w s2 (loose.map encW))  (hfu : -9223372036854775808 ≤ fuse ∧ fuse ≤ 9223372036854775807) (hbd : BytD secs loose) (hT : TabS w) : CV Tryd.prog 12 [.agg #[s1, s2, .int .i64 fuse, .bool down]] w fun v W => ∃ t1 t2 lv rs, v = .tuple #[.agg #[t1, t2, .int .i64 (openD secs loose fuse down).1.1.fuse, .bool (openD secs loose fuse down).1.1.down], .agg #[.int .i64 (openD secs loose fuse down).1.2.1, .int .i64 (openD secs loose fuse down).1.2.2.1, .int .i64 (openD secs loose fuse down).1.2.2.2], lv, .int .i64 (openD secs loose fuse down).1.1.err] ∧ RdF 128 L W t1 ((openD secs loose fuse down).1.1.secs.map encS) ∧ RdF 129 L W t2 ((openD secs loose fuse down).1.1.loose.map encW) ∧ RdF 1 L W lv (rs.map encR) ∧ RdRs L W rs ∧ (∀ r ∈ rs, Byt r.1 ∧ r.1.length ≤ 1000000) ∧ rs.map Prod.fst = (openD secs loose fuse down).2 := by
 refine cv_enter (N := 67) (f := [(0, .agg #[s1, s2, .int .i64 fuse, .bool down])]) Tryd.func12 rfl rfl rfl rfl fun Q hQ hE => ?_
 have hB := Below.refl w.heap.size w
 have h1m : secs.length ≤ maxLen := by have := h1.len; rwa [List.length_map] at this
 unfold maxLen at h1m
 have h2m : loose.length ≤ maxLen := by have := h2.len; rwa [List.length_map] at this
 unfold maxLen at h2m
 refine Sq fun K1 hK1 => (Rg ?_)
 refine Ge (dx_box rfl rfl rfl) rfl rfl ?_
 rintro _ W2 ⟨rfl, k3, b4, z5⟩
 have l6 := hB.size
 replace h1 := h1.more b4 (Nat.le_refl _)
 replace h2 := h2.more b4 (Nat.le_refl _)
 replace hB := below_then hB b4
 replace hL := LL.more hL z5
 refine Ge (dx_alloc rfl ty_zero_25 rfl) rfl rfl ?_
 rintro _ W7 ⟨rfl, k8, b9, z10⟩
 have n11 : w.heap.size ≠ W2.heap.size := Nat.ne_of_lt k3.lt
 have l12 := hB.size
 replace h1 := h1.more b9 (Nat.le_refl _)
 replace h2 := h2.more b9 (Nat.le_refl _)
 replace k3 := k3.below b9
 replace hB := below_then hB b9
 replace hL := LL.more hL z10
 refine Ge (dx_alloc rfl ty_zero_30 rfl) rfl rfl ?_
 rintro _ W13 ⟨rfl, k14, b15, z16⟩
 have n17 : w.heap.size ≠ W7.heap.size := Nat.ne_of_lt k3.lt
 have n18 : W2.heap.size ≠ W7.heap.size := Nat.ne_of_lt k8.lt
 have l19 := hB.size
 replace h1 := h1.more b15 (Nat.le_refl _)
 replace h2 := h2.more b15 (Nat.le_refl _)
 replace k3 := k3.below b15
 replace k8 := k8.below b15
 replace hB := below_then hB b15
 replace hL := LL.more hL z16
 refine Pu rfl (Pu rfl (Ni (hK1 (Sq fun K20 hK20 => (Sq fun K21 hK21 => (Rg (Va (dx_loadN rfl ty_agg_25_4 rfl k3.range rfl) rfl rfl ?_)))))))
 refine Ge (dx_cv rfl Tryd.func32 rfl rfl rfl (check_v secs loose fuse down _ _ W13 _ hL h1 h2)) rfl rfl ?_
 rintro _ W23 ⟨rfl, b22⟩
 replace h1 := h1.below b22
 replace h2 := h2.below b22
 replace k3 := k3.below b22
 replace k8 := k8.below b22
 replace k14 := k14.below b22
 replace hB := below_then hB b22
 replace hL := LL.below hL b22
 refine Pu rfl (Ni (hK21 (Sq fun K24 hK24 => (Rg (Pu rfl (Va (dx_neq rfl rfl rfl) rfl rfl (Ni ?_)))))))
 refine hK24 ?_
 refine WC.cond rfl (fun c25 => ?_) (fun c25 => ?_)
 ·
  replace c25 := bnot_t c25
  replace c25 := dF c25
  refine Sq fun K26 hK26 => (Rg (Va (dx_loadN rfl ty_agg_25_4 rfl k3.range rfl) rfl rfl (Va (dx_build rfl rfl (built_of_O (cs := [.int .i64 0, .int .i64 0, .int .i64 0]) (by kernel_rfl) oc_nil)) rfl rfl (Pu rfl ?_))))
  refine WL.do (dx_store (cs' := [s1, s2, .int .i64 fuse, .bool down]) (vs := [s1, s2, .int .i64 fuse, .bool down]) rfl ty_size_25_4 rfl rfl rfl (oC h1.one (oC h2.one (oC rfl (oC rfl oc_nil)))) k8 rfl (nB rfl) rfl) rfl ?_
  rintro _ W27 ⟨k29, o28⟩
  replace k14 := k14.other o28 n18.symm
  clear k8
  replace h1 := h1.only o28 (.tail _ (.head _))
  replace h2 := h2.only o28 (.tail _ (.head _))
  replace hB := o28.below hB l12
  refine WL.do (dx_store (cs' := [.int .i64 0, .int .i64 0, .int .i64 0]) (vs := [.int .i64 0, .int .i64 0, .int .i64 0]) rfl ty_size_30_3 rfl rfl rfl (oC rfl (oC rfl (oC rfl oc_nil))) k14 rfl (nB rfl) rfl) rfl ?_
  rintro _ W30 ⟨k32, o31⟩
  replace k29 := k29.other o31 n18
  clear k14
  replace h1 := h1.only o31 (.head _)
  replace h2 := h2.only o31 (.head _)
  replace hB := o31.below hB l19
  refine Pu rfl (Pu rfl (Ni (hK26 ?_)))
  exact WC.ret fun a_ ha_ => hQ (cv_ret4 rfl (.agg rfl ty_agg_25_4 k29.range rfl) (.agg rfl ty_agg_30_3 k32.range rfl) (.tmp rfl) (.tmp rfl) (by rw [openD_e (by first | assumption | omega)]; exact ⟨_, _, _, [], rfl, (h1.less (fun x hx => (.tail _ (.tail _ (.tail _ hx))))), (h2.less (fun x hx => (.tail _ (.tail _ (.tail _ hx))))), RdF.nil (by decide), (fun r hr => by cases hr), (fun r hr => by cases hr), rfl⟩) hB ha_)
 ·
  replace c25 := bnot_f c25
  replace c25 := dT c25
  refine WC.skip (hK20 (Sq fun K33 hK33 => ?_))
  obtain ⟨hr1, hr2, hr3, hr4⟩ := check_ok (secs := secs) (loose := loose) (down := down) (by first | assumption | omega)
  refine Rg (Va (dx_loadN rfl ty_agg_25_4 rfl k3.range rfl) rfl rfl ?_)
  refine Ge (dx_cv rfl Tryd.func14 rfl rfl rfl (records_v secs loose fuse down _ _ 0 W23 _ hL h1 h2 hbd (hT.below hB))) rfl rfl ?_
  rintro _ W35 ⟨⟨rs0, lv0, gn0, bb0, rfl, hl0, hs0, hy0, hu0⟩, b34⟩
  replace h1 := h1.below b34
  replace h2 := h2.below b34
  replace k3 := k3.below b34
  replace k8 := k8.below b34
  replace k14 := k14.below b34
  replace hB := below_then hB b34
  replace hL := LL.below hL b34
  refine Pu rfl (Pu rfl (Pu rfl (Pu rfl (Pu rfl (Pu rfl (Pu rfl (Ni ?_)))))))
  refine hK33 (Sq fun K36 hK36 => (Rg (Pu rfl (Ni (hK36 (Sq fun K37 hK37 => (Sq fun K38 hK38 => ?_)))))))
  refine Rg (Va (dx_loadN rfl ty_agg_25_4 rfl k3.range rfl) rfl rfl ?_)
  refine Ge (dx_cv rfl Tryd.func14 rfl rfl rfl (records_v secs loose fuse down _ _ 1 W35 _ hL h1 h2 hbd (hT.below hB))) rfl rfl ?_
  rintro _ W40 ⟨⟨rs1, lv1, gn1, bb1, rfl, hl1, hs1, hy1, hu1⟩, b39⟩
  replace h1 := h1.below b39
  replace h2 := h2.below b39
  replace hl0 := hl0.below b39
  replace hs0 := hs0.below b39
  replace k3 := k3.below b39
  replace k8 := k8.below b39
  replace k14 := k14.below b39
  replace hB := below_then hB b39
  replace hL := LL.below hL b39
  refine Pu rfl (Pu rfl (Pu rfl (Pu rfl (Pu rfl (Pu rfl (Pu rfl (Ni ?_)))))))
  refine hK38 (Sq fun K41 hK41 => (Rg (Pu rfl (Pu rfl ?_))))
  refine WL.split 37 rfl (fun g42 => ?_) (fun g42 => ?_)
  ·
   refine Pu rfl (Va (dx_not rfl rfl) rfl rfl (Pu rfl ?_))
   refine WL.split 40 rfl (fun g43 => ?_) (fun g43 => ?_)
   ·
    replace g43 := bnot_t g43
    replace g43 := bvar_f g43
    refine Of rfl (Of rfl (Of rfl (Pu rfl (Pu rfl (Ni (hK41 (WC.condT rfl ?_)))))))
    have hpk : bothD secs loose down = some (rs1.map Prod.fst, 0) := pick_1 hu0 hu1 (by first | (simp_all; done) | (simp_all; omega))
    refine Rg (Pu rfl (Pu rfl (Pu rfl (Pu rfl (Ni (hK37 (Sq fun K44 hK44 => ?_)))))))
    refine Sq fun K45 hK45 => (Rg (Pu rfl (Va (dx_not rfl rfl) rfl rfl (Ni (hK45 (WC.condF rfl (WC.skip ?_)))))))
    refine hK44 (Sq fun K46 hK46 => (Rg (Va (dx_loadN rfl ty_agg_25_4 rfl k3.range rfl) rfl rfl (Pu rfl (Pu rfl ?_)))))
    refine Ge (dx_cv rfl Tryd.func33 rfl rfl rfl (lay_v secs loose fuse down _ _ 0 rs1 lv1 W40 _ hL h1 h2 hl1 hs1 hfu (.inl rfl) (by omega) hbd hy1 (Nat.le_trans hu1.cnt (by omega)) (hT.below hB))) rfl rfl ?_
    rintro _ W48 ⟨⟨a1, a2, rfl, ag1, ag2⟩, b47⟩
    replace h1 := h1.below b47
    replace h2 := h2.below b47
    replace hl0 := hl0.below b47
    replace hs0 := hs0.below b47
    replace hl1 := hl1.below b47
    replace hs1 := hs1.below b47
    replace k3 := k3.below b47
    replace k8 := k8.below b47
    replace k14 := k14.below b47
    replace hB := below_then hB b47
    replace hL := LL.below hL b47
    refine Pu rfl (Pu rfl (Pu rfl (Pu rfl ?_)))
    refine Ge (dx_alloc rfl ty_zero_25 rfl) rfl rfl ?_
    rintro _ W49 ⟨rfl, k50, b51, z52⟩
    have n53 : w.heap.size ≠ W48.heap.size := Nat.ne_of_lt k3.lt
    have n54 : W2.heap.size ≠ W48.heap.size := Nat.ne_of_lt k8.lt
    have n55 : W7.heap.size ≠ W48.heap.size := Nat.ne_of_lt k14.lt
    have l56 := hB.size
    replace h1 := h1.more b51 (Nat.le_refl _)
    replace h2 := h2.more b51 (Nat.le_refl _)
    replace hl0 := hl0.more b51 (Nat.le_refl _)
    replace hs0 := hs0.more b51 (Nat.le_refl _)
    replace hl1 := hl1.more b51 (Nat.le_refl _)
    replace hs1 := hs1.more b51 (Nat.le_refl _)
    replace ag1 := ag1.more b51 (Nat.le_refl _)
    replace ag2 := ag2.more b51 (Nat.le_refl _)
    replace k3 := k3.below b51
    replace k8 := k8.below b51
    replace k14 := k14.below b51
    replace hB := below_then hB b51
    replace hL := LL.more hL z52
    refine Ge (dx_alloc rfl ty_zero_30 rfl) rfl rfl ?_
    rintro _ W57 ⟨rfl, k58, b59, z60⟩
    have n61 : w.heap.size ≠ W49.heap.size := Nat.ne_of_lt k3.lt
    have n62 : W2.heap.size ≠ W49.heap.size := Nat.ne_of_lt k8.lt
    have n63 : W7.heap.size ≠ W49.heap.size := Nat.ne_of_lt k14.lt
    have n64 : W48.heap.size ≠ W49.heap.size := Nat.ne_of_lt k50.lt
    have l65 := hB.size
    replace h1 := h1.more b59 (Nat.le_refl _)
    replace h2 := h2.more b59 (Nat.le_refl _)
    replace hl0 := hl0.more b59 (Nat.le_refl _)
    replace hs0 := hs0.more b59 (Nat.le_refl _)
    replace hl1 := hl1.more b59 (Nat.le_refl _)
    replace hs1 := hs1.more b59 (Nat.le_refl _)
    replace ag1 := ag1.more b59 (Nat.le_refl _)
    replace ag2 := ag2.more b59 (Nat.le_refl _)
    replace k3 := k3.below b59
    replace k8 := k8.below b59
    replace k14 := k14.below b59
    replace k50 := k50.below b59
    replace hB := below_then hB b59
    replace hL := LL.more hL z60
    refine WL.do (dx_store (cs' := [a1, a2, .int .i64 ((layD secs loose fuse down 0 (rs1.map Prod.fst)).1.fuse), .bool ((layD secs loose fuse down 0 (rs1.map Prod.fst)).1.down)]) (vs := [a1, a2, .int .i64 ((layD secs loose fuse down 0 (rs1.map Prod.fst)).1.fuse), .bool ((layD secs loose fuse down 0 (rs1.map Prod.fst)).1.down)]) rfl ty_size_25_4 rfl rfl rfl (oC ag1.one (oC ag2.one (oC rfl (oC rfl oc_nil)))) k50 rfl (nB rfl) rfl) rfl ?_
    rintro _ W66 ⟨k68, o67⟩
    replace k3 := k3.other o67 n53
    replace k8 := k8.other o67 n54
    replace k14 := k14.other o67 n55
    replace k58 := k58.other o67 n64.symm
    clear k50
    replace h1 := h1.only o67 (.tail _ (.head _))
    replace h2 := h2.only o67 (.tail _ (.head _))
    replace hl0 := hl0.only o67 (.tail _ (.head _))
    replace hs0 := hs0.only o67 (.tail _ (.head _))
    replace hl1 := hl1.only o67 (.tail _ (.head _))
    replace hs1 := hs1.only o67 (.tail _ (.head _))
    replace ag1 := ag1.only o67 (.tail _ (.head _))
    replace ag2 := ag2.only o67 (.tail _ (.head _))
    replace hB := o67.below hB l56
    replace hL := LL.only hL o67
    refine WL.do (dx_store (cs' := [.int .i64 ((layD secs loose fuse down 0 (rs1.map Prod.fst)).2.1), .int .i64 ((layD secs loose fuse down 0 (rs1.map Prod.fst)).2.2.1), .int .i64 ((layD secs loose fuse down 0 (rs1.map Prod.fst)).2.2.2)]) (vs := [.int .i64 ((layD secs loose fuse down 0 (rs1.map Prod.fst)).2.1), .int .i64 ((layD secs loose fuse down 0 (rs1.map Prod.fst)).2.2.1), .int .i64 ((layD secs loose fuse down 0 (rs1.map Prod.fst)).2.2.2)]) rfl ty_size_30_3 rfl rfl rfl (oC rfl (oC rfl (oC rfl oc_nil))) k58 rfl (nB rfl) rfl) rfl ?_
    rintro _ W69 ⟨k71, o70⟩
    replace k3 := k3.other o70 n61
    replace k8 := k8.other o70 n62
    replace k14 := k14.other o70 n63
    replace k68 := k68.other o70 n64
    clear k58
    replace h1 := h1.only o70 (.head _)
    replace h2 := h2.only o70 (.head _)
    replace hl0 := hl0.only o70 (.head _)
    replace hs0 := hs0.only o70 (.head _)
    replace hl1 := hl1.only o70 (.head _)
    replace hs1 := hs1.only o70 (.head _)
    replace ag1 := ag1.only o70 (.head _)
    replace ag2 := ag2.only o70 (.head _)
    replace hB := o70.below hB l65
    replace hL := LL.only hL o70
    refine Pu rfl (Ni (hK46 (Sq fun K72 hK72 => (Sq fun K73 hK73 => (Rg (Pu rfl (Va (dx_neq rfl rfl rfl) rfl rfl ?_)))))))
    refine Ni (hK73 ?_)
    refine WC.cond rfl (fun c74 => ?_) (fun c74 => ?_)
    ·
     replace c74 := bnot_t c74
     replace c74 := dF c74
     refine Sq fun K75 hK75 => (Rg (Va (dx_loadN rfl ty_agg_25_4 rfl k68.range rfl) rfl rfl (Va (dx_build rfl rfl (built_of_O (cs := [.int .i64 0, .int .i64 0, .int .i64 0]) (by kernel_rfl) oc_nil)) rfl rfl (Pu rfl ?_))))
     refine WL.do (dx_store (cs' := [a1, a2, .int .i64 ((layD secs loose fuse down 0 (rs1.map Prod.fst)).1.fuse), .bool ((layD secs loose fuse down 0 (rs1.map Prod.fst)).1.down)]) (vs := [a1, a2, .int .i64 ((layD secs loose fuse down 0 (rs1.map Prod.fst)).1.fuse), .bool ((layD secs loose fuse down 0 (rs1.map Prod.fst)).1.down)]) rfl ty_size_25_4 rfl rfl rfl (oC ag1.one (oC ag2.one (oC rfl (oC rfl oc_nil)))) k8 rfl (nB rfl) rfl) rfl ?_
     rintro _ W76 ⟨k78, o77⟩
     replace k14 := k14.other o77 n18.symm
     clear k8
     replace ag1 := ag1.only o77 (.tail _ (.tail _ (.tail _ (.head _))))
     replace ag2 := ag2.only o77 (.tail _ (.tail _ (.tail _ (.head _))))
     replace hB := o77.below hB l12
     refine WL.do (dx_store (cs' := [.int .i64 0, .int .i64 0, .int .i64 0]) (vs := [.int .i64 0, .int .i64 0, .int .i64 0]) rfl ty_size_30_3 rfl rfl rfl (oC rfl (oC rfl (oC rfl oc_nil))) k14 rfl (nB rfl) rfl) rfl ?_
     rintro _ W79 ⟨k81, o80⟩
     replace k78 := k78.other o80 n18
     clear k14
     replace ag1 := ag1.only o80 (.tail _ (.tail _ (.head _)))
     replace ag2 := ag2.only o80 (.tail _ (.tail _ (.head _)))
     replace hB := o80.below hB l19
     refine Pu rfl (Pu rfl (Ni (hK75 ?_)))
     exact WC.ret fun a_ ha_ => hQ (cv_ret4 rfl (.agg rfl ty_agg_25_4 k78.range rfl) (.agg rfl ty_agg_30_3 k81.range rfl) (.tmp rfl) (.tmp rfl) (by rw [openD_f (by first | assumption | omega) hpk (by assumption)]; exact ⟨_, _, _, [], log0 (layD_err0 (by assumption)), (ag1.less (fun x hx => (.tail _ (.tail _ (.tail _ (.tail _ (.tail _ hx))))))), (ag2.less (fun x hx => (.tail _ (.tail _ (.tail _ (.tail _ (.tail _ hx))))))), RdF.nil (by decide), (fun r hr => by cases hr), (fun r hr => by cases hr), rfl⟩) hB ha_)
    ·
     replace c74 := bnot_f c74
     replace c74 := dT c74
     refine WC.skip (hK72 (Sq fun K82 hK82 => ?_))
     refine WC.drawC 5 [(3, W2.heap.size, [.slice none 0 0, .slice none 0 0, .int .i64 0, .bool false], fun cs_ _ => cs_ = [a1, a2, .int .i64 ((layD secs loose fuse down 0 (rs1.map Prod.fst)).1.fuse), .bool ((layD secs loose fuse down 0 (rs1.map Prod.fst)).1.down)]), (4, W7.heap.size, [.int .i64 0, .int .i64 0, .int .i64 0], fun cs_ _ => cs_ = [.int .i64 ((layD secs loose fuse down 0 (rs1.map Prod.fst)).2.1), .int .i64 ((layD secs loose fuse down 0 (rs1.map Prod.fst)).2.2.1), .int .i64 ((layD secs loose fuse down 0 (rs1.map Prod.fst)).2.2.2)])] [(some 64, .is (.agg #[a1, a2, .int .i64 ((layD secs loose fuse down 0 (rs1.map Prod.fst)).1.fuse), .bool ((layD secs loose fuse down 0 (rs1.map Prod.fst)).1.down)])), (some 65, .is (.agg #[.int .i64 ((layD secs loose fuse down 0 (rs1.map Prod.fst)).2.1), .int .i64 ((layD secs loose fuse down 0 (rs1.map Prod.fst)).2.2.1), .int .i64 ((layD secs loose fuse down 0 (rs1.map Prod.fst)).2.2.2)])), (some 66, .is (lv1)), (none, .by fun _ _ => True), (none, .by fun _ _ => True)] [[], [], [], [0, 0], [1, 3, 0, 1, 3]] ⟨fun _ _ _ _ h => h, fun _ _ _ _ h => h, trivial⟩ (fun e he => by simp only [List.mem_cons, List.not_mem_nil, or_false] at he; rcases he with rfl | rfl; exact ⟨fun _ _ _ _ h => h, fun _ _ _ _ h => h, trivial⟩; exact ⟨fun _ _ _ _ h => h, fun _ _ _ _ h => h, trivial⟩) ⟨fun x hx => (by simp only [List.mem_cons, List.not_mem_nil, or_false] at hx; subst hx; exact ⟨(show ¬ ((4 : Nat) = 3) by decide), n18.symm⟩), ⟨fun x hx => (by cases hx), trivial⟩⟩ (monQ_nil (fun e he => by simp only [List.mem_cons, List.not_mem_nil, or_false] at he; rcases he with rfl | rfl; exact ⟨_, rfl⟩; exact ⟨_, rfl⟩)) (fun e he => by simp only [List.mem_cons, List.not_mem_nil, or_false] at he; rcases he with rfl | rfl; exact k8; exact k14) ?_ ?_
     ·
      refine DStepsC.cons rfl (fun Wd hd hbs_ => ?_) ?_
      ·
       have k68 := k68.chgM hd (by simp only [List.map_cons, List.map_nil, List.mem_cons, List.not_mem_nil, or_false, not_or]; exact ⟨n54.symm, n55.symm⟩)
       exact Dd (dx_loadN rfl ty_agg_25_4 rfl k68.range rfl) rfl
      refine DStepsC.cons rfl (fun Wd hd hbs_ => ?_) ?_
      ·
       have k71 := k71.chgM hd (by simp only [List.map_cons, List.map_nil, List.mem_cons, List.not_mem_nil, or_false, not_or]; exact ⟨n62.symm, n63.symm⟩)
       exact Dd (dx_loadN rfl ty_agg_30_3 rfl k71.range rfl) rfl
      refine DStepsC.cons rfl (fun Wd hd hbs_ => ?_) ?_
      ·
       exact Dd (dx_move rfl rfl) rfl
      refine DStepsC.hit rfl (fun Wd hd hb_ => ?_) ?_
      ·
       have ag1 := ag1.chgM hd (fun C hC => by simp only [List.map_cons, List.map_nil, List.mem_cons, List.not_mem_nil, or_false] at hC; rcases hC with rfl | rfl; exact (.tail _ (.tail _ (.tail _ (.head _)))); exact (.tail _ (.tail _ (.head _))))
       have ag2 := ag2.chgM hd (fun C hC => by simp only [List.map_cons, List.map_nil, List.mem_cons, List.not_mem_nil, or_false] at hC; rcases hC with rfl | rfl; exact (.tail _ (.tail _ (.tail _ (.head _)))); exact (.tail _ (.tail _ (.head _))))
       exact (dx_storeW (vs := [a1, a2, .int .i64 ((layD secs loose fuse down 0 (rs1.map Prod.fst)).1.fuse), .bool ((layD secs loose fuse down 0 (rs1.map Prod.fst)).1.down)]) rfl ty_size_25_4 rfl rfl rfl (oC ag1.one (oC ag2.one (oC rfl (oC rfl oc_nil)))) hb_ rfl rfl).mono (fun _ W' h => ⟨h.2, QBlk.is h.1, trivial⟩)
      refine DStepsC.hit rfl (fun Wd hd hb_ => ?_) ?_
      ·
       intro u14_3 p14_3 u14_3 p14_3
       exact (dx_storeW (vs := [.int .i64 ((layD secs loose fuse down 0 (rs1.map Prod.fst)).2.1), .int .i64 ((layD secs loose fuse down 0 (rs1.map Prod.fst)).2.2.1), .int .i64 ((layD secs loose fuse down 0 (rs1.map Prod.fst)).2.2.2)]) rfl ty_size_30_3 rfl rfl rfl (oC rfl (oC rfl (oC rfl oc_nil))) hb_ rfl rfl).mono (fun _ W' h => ⟨h.2, QBlk.is h.1, trivial⟩)
      exact trivial
     ·
      intro W83 hd hq_
      replace h1 := h1.chgM hd (fun C hC => by simp only [List.map_cons, List.map_nil, List.mem_cons, List.not_mem_nil, or_false] at hC; rcases hC with rfl | rfl; exact (.tail _ (.tail _ (.tail _ (.head _)))); exact (.tail _ (.tail _ (.head _))))
      replace h2 := h2.chgM hd (fun C hC => by simp only [List.map_cons, List.map_nil, List.mem_cons, List.not_mem_nil, or_false] at hC; rcases hC with rfl | rfl; exact (.tail _ (.tail _ (.tail _ (.head _)))); exact (.tail _ (.tail _ (.head _))))
      replace hl0 := hl0.chgM hd (fun C hC => by simp only [List.map_cons, List.map_nil, List.mem_cons, List.not_mem_nil, or_false] at hC; rcases hC with rfl | rfl; exact (.tail _ (.tail _ (.tail _ (.head _)))); exact (.tail _ (.tail _ (.head _))))
      replace hs0 := hs0.chgM hd (fun C hC => by simp only [List.map_cons, List.map_nil, List.mem_cons, List.not_mem_nil, or_false] at hC; rcases hC with rfl | rfl; exact (.tail _ (.tail _ (.tail _ (.head _)))); exact (.tail _ (.tail _ (.head _))))
      replace hl1 := hl1.chgM hd (fun C hC => by simp only [List.map_cons, List.map_nil, List.mem_cons, List.not_mem_nil, or_false] at hC; rcases hC with rfl | rfl; exact (.tail _ (.tail _ (.tail _ (.head _)))); exact (.tail _ (.tail _ (.head _))))
      replace hs1 := hs1.chgM hd (fun C hC => by simp only [List.map_cons, List.map_nil, List.mem_cons, List.not_mem_nil, or_false] at hC; rcases hC with rfl | rfl; exact (.tail _ (.tail _ (.tail _ (.head _)))); exact (.tail _ (.tail _ (.head _))))
      replace ag1 := ag1.chgM hd (fun C hC => by simp only [List.map_cons, List.map_nil, List.mem_cons, List.not_mem_nil, or_false] at hC; rcases hC with rfl | rfl; exact (.tail _ (.tail _ (.tail _ (.head _)))); exact (.tail _ (.tail _ (.head _))))
      replace ag2 := ag2.chgM hd (fun C hC => by simp only [List.map_cons, List.map_nil, List.mem_cons, List.not_mem_nil, or_false] at hC; rcases hC with rfl | rfl; exact (.tail _ (.tail _ (.tail _ (.head _)))); exact (.tail _ (.tail _ (.head _))))
      replace k3 := k3.chgM hd (by simp only [List.map_cons, List.map_nil, List.mem_cons, List.not_mem_nil, or_false, not_or]; exact ⟨n11, n17⟩)
      replace k68 := k68.chgM hd (by simp only [List.map_cons, List.map_nil, List.mem_cons, List.not_mem_nil, or_false, not_or]; exact ⟨n54.symm, n55.symm⟩)
      replace k71 := k71.chgM hd (by simp only [List.map_cons, List.map_nil, List.mem_cons, List.not_mem_nil, or_false, not_or]; exact ⟨n62.symm, n63.symm⟩)
      have k84 := hq_ _ (.head _)
      replace k84 := QBlk.blk k84
      have k85 := hq_ _ (.tail _ (.head _))
      replace k85 := QBlk.blk k85
      replace hB := hd.toBelow hB (fun C hC => by simp only [List.map_cons, List.map_nil, List.mem_cons, List.not_mem_nil, or_false] at hC; rcases hC with rfl | rfl; exact l12; exact l19)
      replace hL := hL.chgM hd
      intro _ _
      intro _ _
      refine Pu rfl (Pu rfl (Ni (hK82 ?_)))
      exact WC.ret fun a_ ha_ => hQ (cv_ret4 rfl (.agg rfl ty_agg_25_4 k84.range rfl) (.agg rfl ty_agg_30_3 k85.range rfl) (.tmp rfl) (.tmp rfl) (by rw [openD_k (by first | assumption | omega) hpk (by first | assumption | exact Classical.not_not.1 (by assumption))]; exact ⟨_, _, _, rs1, open_ok (by first | assumption | exact Classical.not_not.1 (by assumption)), (ag1.less (fun x hx => (.tail _ (.tail _ (.tail _ (.tail _ (.tail _ hx))))))), (ag2.less (fun x hx => (.tail _ (.tail _ (.tail _ (.tail _ (.tail _ hx))))))), (hl1.less (fun x hx => (.tail _ (.tail _ (.tail _ (.tail _ (.tail _ hx))))))), (hs1.less (fun x hx => (.tail _ (.tail _ (.tail _ (.tail _ (.tail _ hx))))))), hy1, rfl⟩) hB ha_)
   ·
    replace g43 := bnot_f g43
    refine Pu rfl (Pu rfl (Va (dx_gtr rfl rfl rfl) rfl rfl (Pu rfl (Pu rfl (Ni (hK41 ?_))))))
    refine WC.cond rfl (fun c86 => ?_) (fun c86 => ?_)
    ·
     replace c86 := dT c86
     have hpk : bothD secs loose down = some (rs1.map Prod.fst, 0) := pick_1 hu0 hu1 (by first | (simp_all; done) | (simp_all; omega))
     refine Rg (Pu rfl (Pu rfl (Pu rfl (Pu rfl (Ni (hK37 (Sq fun K87 hK87 => ?_)))))))
     refine Sq fun K88 hK88 => (Rg (Pu rfl (Va (dx_not rfl rfl) rfl rfl (Ni (hK88 (WC.condF rfl (WC.skip ?_)))))))
     refine hK87 (Sq fun K89 hK89 => (Rg (Va (dx_loadN rfl ty_agg_25_4 rfl k3.range rfl) rfl rfl (Pu rfl (Pu rfl ?_)))))
     refine Ge (dx_cv rfl Tryd.func33 rfl rfl rfl (lay_v secs loose fuse down _ _ 0 rs1 lv1 W40 _ hL h1 h2 hl1 hs1 hfu (.inl rfl) (by omega) hbd hy1 (Nat.le_trans hu1.cnt (by omega)) (hT.below hB))) rfl rfl ?_
     rintro _ W91 ⟨⟨a1, a2, rfl, ag1, ag2⟩, b90⟩
     replace h1 := h1.below b90
     replace h2 := h2.below b90
     replace hl0 := hl0.below b90
     replace hs0 := hs0.below b90
     replace hl1 := hl1.below b90
     replace hs1 := hs1.below b90
     replace k3 := k3.below b90
     replace k8 := k8.below b90
     replace k14 := k14.below b90
     replace hB := below_then hB b90
     replace hL := LL.below hL b90
     refine Pu rfl (Pu rfl (Pu rfl (Pu rfl ?_)))
     refine Ge (dx_alloc rfl ty_zero_25 rfl) rfl rfl ?_
     rintro _ W92 ⟨rfl, k93, b94, z95⟩
     have n96 : w.heap.size ≠ W91.heap.size := Nat.ne_of_lt k3.lt
     have n97 : W2.heap.size ≠ W91.heap.size := Nat.ne_of_lt k8.lt
     have n98 : W7.heap.size ≠ W91.heap.size := Nat.ne_of_lt k14.lt
     have l99 := hB.size
     replace h1 := h1.more b94 (Nat.le_refl _)
     replace h2 := h2.more b94 (Nat.le_refl _)
     replace hl0 := hl0.more b94 (Nat.le_refl _)
     replace hs0 := hs0.more b94 (Nat.le_refl _)
     replace hl1 := hl1.more b94 (Nat.le_refl _)
     replace hs1 := hs1.more b94 (Nat.le_refl _)
     replace ag1 := ag1.more b94 (Nat.le_refl _)
     replace ag2 := ag2.more b94 (Nat.le_refl _)
     replace k3 := k3.below b94
     replace k8 := k8.below b94
     replace k14 := k14.below b94
     replace hB := below_then hB b94
     replace hL := LL.more hL z95
     refine Ge (dx_alloc rfl ty_zero_30 rfl) rfl rfl ?_
     rintro _ W100 ⟨rfl, k101, b102, z103⟩
     have n104 : w.heap.size ≠ W92.heap.size := Nat.ne_of_lt k3.lt
     have n105 : W2.heap.size ≠ W92.heap.size := Nat.ne_of_lt k8.lt
     have n106 : W7.heap.size ≠ W92.heap.size := Nat.ne_of_lt k14.lt
     have n107 : W91.heap.size ≠ W92.heap.size := Nat.ne_of_lt k93.lt
     have l108 := hB.size
     replace h1 := h1.more b102 (Nat.le_refl _)
     replace h2 := h2.more b102 (Nat.le_refl _)
     replace hl0 := hl0.more b102 (Nat.le_refl _)
     replace hs0 := hs0.more b102 (Nat.le_refl _)
     replace hl1 := hl1.more b102 (Nat.le_refl _)
     replace hs1 := hs1.more b102 (Nat.le_refl _)
     replace ag1 := ag1.more b102 (Nat.le_refl _)
     replace ag2 := ag2.more b102 (Nat.le_refl _)
     replace k3 := k3.below b102
     replace k8 := k8.below b102
     replace k14 := k14.below b102
     replace k93 := k93.below b102
     replace hB := below_then hB b102
     replace hL := LL.more hL z103
     refine WL.do (dx_store (cs' := [a1, a2, .int .i64 ((layD secs loose fuse down 0 (rs1.map Prod.fst)).1.fuse), .bool ((layD secs loose fuse down 0 (rs1.map Prod.fst)).1.down)]) (vs := [a1, a2, .int .i64 ((layD secs loose fuse down 0 (rs1.map Prod.fst)).1.fuse), .bool ((layD secs loose fuse down 0 (rs1.map Prod.fst)).1.down)]) rfl ty_size_25_4 rfl rfl rfl (oC ag1.one (oC ag2.one (oC rfl (oC rfl oc_nil)))) k93 rfl (nB rfl) rfl) rfl ?_
     rintro _ W109 ⟨k111, o110⟩
     replace k3 := k3.other o110 n96
     replace k8 := k8.other o110 n97
     replace k14 := k14.other o110 n98
     replace k101 := k101.other o110 n107.symm
     clear k93
     replace h1 := h1.only o110 (.tail _ (.head _))
     replace h2 := h2.only o110 (.tail _ (.head _))
     replace hl0 := hl0.only o110 (.tail _ (.head _))
     replace hs0 := hs0.only o110 (.tail _ (.head _))
     replace hl1 := hl1.only o110 (.tail _ (.head _))
     replace hs1 := hs1.only o110 (.tail _ (.head _))
     replace ag1 := ag1.only o110 (.tail _ (.head _))
     replace ag2 := ag2.only o110 (.tail _ (.head _))
     replace hB := o110.below hB l99
     replace hL := LL.only hL o110
     refine WL.do (dx_store (cs' := [.int .i64 ((layD secs loose fuse down 0 (rs1.map Prod.fst)).2.1), .int .i64 ((layD secs loose fuse down 0 (rs1.map Prod.fst)).2.2.1), .int .i64 ((layD secs loose fuse down 0 (rs1.map Prod.fst)).2.2.2)]) (vs := [.int .i64 ((layD secs loose fuse down 0 (rs1.map Prod.fst)).2.1), .int .i64 ((layD secs loose fuse down 0 (rs1.map Prod.fst)).2.2.1), .int .i64 ((layD secs loose fuse down 0 (rs1.map Prod.fst)).2.2.2)]) rfl ty_size_30_3 rfl rfl rfl (oC rfl (oC rfl (oC rfl oc_nil))) k101 rfl (nB rfl) rfl) rfl ?_
     rintro _ W112 ⟨k114, o113⟩
     replace k3 := k3.other o113 n104
     replace k8 := k8.other o113 n105
     replace k14 := k14.other o113 n106
     replace k111 := k111.other o113 n107
     clear k101
     replace h1 := h1.only o113 (.head _)
     replace h2 := h2.only o113 (.head _)
     replace hl0 := hl0.only o113 (.head _)
     replace hs0 := hs0.only o113 (.head _)
     replace hl1 := hl1.only o113 (.head _)
     replace hs1 := hs1.only o113 (.head _)
     replace ag1 := ag1.only o113 (.head _)
     replace ag2 := ag2.only o113 (.head _)
     replace hB := o113.below hB l108
     replace hL := LL.only hL o113
     refine Pu rfl (Ni (hK89 (Sq fun K115 hK115 => (Sq fun K116 hK116 => (Rg (Pu rfl (Va (dx_neq rfl rfl rfl) rfl rfl ?_)))))))
     refine Ni (hK116 ?_)
     refine WC.cond rfl (fun c117 => ?_) (fun c117 => ?_)
     ·
      replace c117 := bnot_t c117
      replace c117 := dF c117
      refine Sq fun K118 hK118 => (Rg (Va (dx_loadN rfl ty_agg_25_4 rfl k111.range rfl) rfl rfl (Va (dx_build rfl rfl (built_of_O (cs := [.int .i64 0, .int .i64 0, .int .i64 0]) (by kernel_rfl) oc_nil)) rfl rfl (Pu rfl ?_))))
      refine WL.do (dx_store (cs' := [a1, a2, .int .i64 ((layD secs loose fuse down 0 (rs1.map Prod.fst)).1.fuse), .bool ((layD secs loose fuse down 0 (rs1.map Prod.fst)).1.down)]) (vs := [a1, a2, .int .i64 ((layD secs loose fuse down 0 (rs1.map Prod.fst)).1.fuse), .bool ((layD secs loose fuse down 0 (rs1.map Prod.fst)).1.down)]) rfl ty_size_25_4 rfl rfl rfl (oC ag1.one (oC ag2.one (oC rfl (oC rfl oc_nil)))) k8 rfl (nB rfl) rfl) rfl ?_
      rintro _ W119 ⟨k121, o120⟩
      replace k14 := k14.other o120 n18.symm
      clear k8
      replace ag1 := ag1.only o120 (.tail _ (.tail _ (.tail _ (.head _))))
      replace ag2 := ag2.only o120 (.tail _ (.tail _ (.tail _ (.head _))))
      replace hB := o120.below hB l12
      refine WL.do (dx_store (cs' := [.int .i64 0, .int .i64 0, .int .i64 0]) (vs := [.int .i64 0, .int .i64 0, .int .i64 0]) rfl ty_size_30_3 rfl rfl rfl (oC rfl (oC rfl (oC rfl oc_nil))) k14 rfl (nB rfl) rfl) rfl ?_
      rintro _ W122 ⟨k124, o123⟩
      replace k121 := k121.other o123 n18
      clear k14
      replace ag1 := ag1.only o123 (.tail _ (.tail _ (.head _)))
      replace ag2 := ag2.only o123 (.tail _ (.tail _ (.head _)))
      replace hB := o123.below hB l19
      refine Pu rfl (Pu rfl (Ni (hK118 ?_)))
      exact WC.ret fun a_ ha_ => hQ (cv_ret4 rfl (.agg rfl ty_agg_25_4 k121.range rfl) (.agg rfl ty_agg_30_3 k124.range rfl) (.tmp rfl) (.tmp rfl) (by rw [openD_f (by first | assumption | omega) hpk (by assumption)]; exact ⟨_, _, _, [], log0 (layD_err0 (by assumption)), (ag1.less (fun x hx => (.tail _ (.tail _ (.tail _ (.tail _ (.tail _ hx))))))), (ag2.less (fun x hx => (.tail _ (.tail _ (.tail _ (.tail _ (.tail _ hx))))))), RdF.nil (by decide), (fun r hr => by cases hr), (fun r hr => by cases hr), rfl⟩) hB ha_)
     ·
      replace c117 := bnot_f c117
      replace c117 := dT c117
      refine WC.skip (hK115 (Sq fun K125 hK125 => ?_))
      refine WC.drawC 5 [(3, W2.heap.size, [.slice none 0 0, .slice none 0 0, .int .i64 0, .bool false], fun cs_ _ => cs_ = [a1, a2, .int .i64 ((layD secs loose fuse down 0 (rs1.map Prod.fst)).1.fuse), .bool ((layD secs loose fuse down 0 (rs1.map Prod.fst)).1.down)]), (4, W7.heap.size, [.int .i64 0, .int .i64 0, .int .i64 0], fun cs_ _ => cs_ = [.int .i64 ((layD secs loose fuse down 0 (rs1.map Prod.fst)).2.1), .int .i64 ((layD secs loose fuse down 0 (rs1.map Prod.fst)).2.2.1), .int .i64 ((layD secs loose fuse down 0 (rs1.map Prod.fst)).2.2.2)])] [(some 64, .is (.agg #[a1, a2, .int .i64 ((layD secs loose fuse down 0 (rs1.map Prod.fst)).1.fuse), .bool ((layD secs loose fuse down 0 (rs1.map Prod.fst)).1.down)])), (some 65, .is (.agg #[.int .i64 ((layD secs loose fuse down 0 (rs1.map Prod.fst)).2.1), .int .i64 ((layD secs loose fuse down 0 (rs1.map Prod.fst)).2.2.1), .int .i64 ((layD secs loose fuse down 0 (rs1.map Prod.fst)).2.2.2)])), (some 66, .is (lv1)), (none, .by fun _ _ => True), (none, .by fun _ _ => True)] [[], [], [], [0, 0], [1, 3, 0, 1, 3]] ⟨fun _ _ _ _ h => h, fun _ _ _ _ h => h, trivial⟩ (fun e he => by simp only [List.mem_cons, List.not_mem_nil, or_false] at he; rcases he with rfl | rfl; exact ⟨fun _ _ _ _ h => h, fun _ _ _ _ h => h, trivial⟩; exact ⟨fun _ _ _ _ h => h, fun _ _ _ _ h => h, trivial⟩) ⟨fun x hx => (by simp only [List.mem_cons, List.not_mem_nil, or_false] at hx; subst hx; exact ⟨(show ¬ ((4 : Nat) = 3) by decide), n18.symm⟩), ⟨fun x hx => (by cases hx), trivial⟩⟩ (monQ_nil (fun e he => by simp only [List.mem_cons, List.not_mem_nil, or_false] at he; rcases he with rfl | rfl; exact ⟨_, rfl⟩; exact ⟨_, rfl⟩)) (fun e he => by simp only [List.mem_cons, List.not_mem_nil, or_false] at he; rcases he with rfl | rfl; exact k8; exact k14) ?_ ?_
      ·
       refine DStepsC.cons rfl (fun Wd hd hbs_ => ?_) ?_
       ·
        have k111 := k111.chgM hd (by simp only [List.map_cons, List.map_nil, List.mem_cons, List.not_mem_nil, or_false, not_or]; exact ⟨n97.symm, n98.symm⟩)
        exact Dd (dx_loadN rfl ty_agg_25_4 rfl k111.range rfl) rfl
       refine DStepsC.cons rfl (fun Wd hd hbs_ => ?_) ?_
       ·
        have k114 := k114.chgM hd (by simp only [List.map_cons, List.map_nil, List.mem_cons, List.not_mem_nil, or_false, not_or]; exact ⟨n105.symm, n106.symm⟩)
        exact Dd (dx_loadN rfl ty_agg_30_3 rfl k114.range rfl) rfl
       refine DStepsC.cons rfl (fun Wd hd hbs_ => ?_) ?_
       ·
        exact Dd (dx_move rfl rfl) rfl
       refine DStepsC.hit rfl (fun Wd hd hb_ => ?_) ?_
       ·
        have ag1 := ag1.chgM hd (fun C hC => by simp only [List.map_cons, List.map_nil, List.mem_cons, List.not_mem_nil, or_false] at hC; rcases hC with rfl | rfl; exact (.tail _ (.tail _ (.tail _ (.head _)))); exact (.tail _ (.tail _ (.head _))))
        have ag2 := ag2.chgM hd (fun C hC => by simp only [List.map_cons, List.map_nil, List.mem_cons, List.not_mem_nil, or_false] at hC; rcases hC with rfl | rfl; exact (.tail _ (.tail _ (.tail _ (.head _)))); exact (.tail _ (.tail _ (.head _))))
        exact (dx_storeW (vs := [a1, a2, .int .i64 ((layD secs loose fuse down 0 (rs1.map Prod.fst)).1.fuse), .bool ((layD secs loose fuse down 0 (rs1.map Prod.fst)).1.down)]) rfl ty_size_25_4 rfl rfl rfl (oC ag1.one (oC ag2.one (oC rfl (oC rfl oc_nil)))) hb_ rfl rfl).mono (fun _ W' h => ⟨h.2, QBlk.is h.1, trivial⟩)
       refine DStepsC.hit rfl (fun Wd hd hb_ => ?_) ?_
       ·
        intro u14_3 p14_3 u14_3 p14_3
        exact (dx_storeW (vs := [.int .i64 ((layD secs loose fuse down 0 (rs1.map Prod.fst)).2.1), .int .i64 ((layD secs loose fuse down 0 (rs1.map Prod.fst)).2.2.1), .int .i64 ((layD secs loose fuse down 0 (rs1.map Prod.fst)).2.2.2)]) rfl ty_size_30_3 rfl rfl rfl (oC rfl (oC rfl (oC rfl oc_nil))) hb_ rfl rfl).mono (fun _ W' h => ⟨h.2, QBlk.is h.1, trivial⟩)
       exact trivial
      ·
       intro W126 hd hq_
       replace h1 := h1.chgM hd (fun C hC => by simp only [List.map_cons, List.map_nil, List.mem_cons, List.not_mem_nil, or_false] at hC; rcases hC with rfl | rfl; exact (.tail _ (.tail _ (.tail _ (.head _)))); exact (.tail _ (.tail _ (.head _))))
       replace h2 := h2.chgM hd (fun C hC => by simp only [List.map_cons, List.map_nil, List.mem_cons, List.not_mem_nil, or_false] at hC; rcases hC with rfl | rfl; exact (.tail _ (.tail _ (.tail _ (.head _)))); exact (.tail _ (.tail _ (.head _))))
       replace hl0 := hl0.chgM hd (fun C hC => by simp only [List.map_cons, List.map_nil, List.mem_cons, List.not_mem_nil, or_false] at hC; rcases hC with rfl | rfl; exact (.tail _ (.tail _ (.tail _ (.head _)))); exact (.tail _ (.tail _ (.head _))))
       replace hs0 := hs0.chgM hd (fun C hC => by simp only [List.map_cons, List.map_nil, List.mem_cons, List.not_mem_nil, or_false] at hC; rcases hC with rfl | rfl; exact (.tail _ (.tail _ (.tail _ (.head _)))); exact (.tail _ (.tail _ (.head _))))
       replace hl1 := hl1.chgM hd (fun C hC => by simp only [List.map_cons, List.map_nil, List.mem_cons, List.not_mem_nil, or_false] at hC; rcases hC with rfl | rfl; exact (.tail _ (.tail _ (.tail _ (.head _)))); exact (.tail _ (.tail _ (.head _))))
       replace hs1 := hs1.chgM hd (fun C hC => by simp only [List.map_cons, List.map_nil, List.mem_cons, List.not_mem_nil, or_false] at hC; rcases hC with rfl | rfl; exact (.tail _ (.tail _ (.tail _ (.head _)))); exact (.tail _ (.tail _ (.head _))))
       replace ag1 := ag1.chgM hd (fun C hC => by simp only [List.map_cons, List.map_nil, List.mem_cons, List.not_mem_nil, or_false] at hC; rcases hC with rfl | rfl; exact (.tail _ (.tail _ (.tail _ (.head _)))); exact (.tail _ (.tail _ (.head _))))
       replace ag2 := ag2.chgM hd (fun C hC => by simp only [List.map_cons, List.map_nil, List.mem_cons, List.not_mem_nil, or_false] at hC; rcases hC with rfl | rfl; exact (.tail _ (.tail _ (.tail _ (.head _)))); exact (.tail _ (.tail _ (.head _))))
       replace k3 := k3.chgM hd (by simp only [List.map_cons, List.map_nil, List.mem_cons, List.not_mem_nil, or_false, not_or]; exact ⟨n11, n17⟩)
       replace k111 := k111.chgM hd (by simp only [List.map_cons, List.map_nil, List.mem_cons, List.not_mem_nil, or_false, not_or]; exact ⟨n97.symm, n98.symm⟩)
       replace k114 := k114.chgM hd (by simp only [List.map_cons, List.map_nil, List.mem_cons, List.not_mem_nil, or_false, not_or]; exact ⟨n105.symm, n106.symm⟩)
       have k127 := hq_ _ (.head _)
       replace k127 := QBlk.blk k127
       have k128 := hq_ _ (.tail _ (.head _))
       replace k128 := QBlk.blk k128
       replace hB := hd.toBelow hB (fun C hC => by simp only [List.map_cons, List.map_nil, List.mem_cons, List.not_mem_nil, or_false] at hC; rcases hC with rfl | rfl; exact l12; exact l19)
       replace hL := hL.chgM hd
       intro _ _
       intro _ _
       refine Pu rfl (Pu rfl (Ni (hK125 ?_)))
       exact WC.ret fun a_ ha_ => hQ (cv_ret4 rfl (.agg rfl ty_agg_25_4 k127.range rfl) (.agg rfl ty_agg_30_3 k128.range rfl) (.tmp rfl) (.tmp rfl) (by rw [openD_k (by first | assumption | omega) hpk (by first | assumption | exact Classical.not_not.1 (by assumption))]; exact ⟨_, _, _, rs1, open_ok (by first | assumption | exact Classical.not_not.1 (by assumption)), (ag1.less (fun x hx => (.tail _ (.tail _ (.tail _ (.tail _ (.tail _ hx))))))), (ag2.less (fun x hx => (.tail _ (.tail _ (.tail _ (.tail _ (.tail _ hx))))))), (hl1.less (fun x hx => (.tail _ (.tail _ (.tail _ (.tail _ (.tail _ hx))))))), (hs1.less (fun x hx => (.tail _ (.tail _ (.tail _ (.tail _ (.tail _ hx))))))), hy1, rfl⟩) hB ha_)
    ·
     replace c86 := dF c86
     refine WC.skip (hK37 (Sq fun K129 hK129 => (Sq fun K130 hK130 => ?_)))
     have hnp : ¬ (bb1 = true ∧ (bb0 = false ∨ gn0 < gn1)) := by first | (simp_all; done) | (simp_all; omega) | skip
     refine Rg (Pu rfl (Va (dx_not rfl rfl) rfl rfl (Ni (hK130 ?_))))
     refine WC.cond rfl (fun c131 => ?_) (fun c131 => ?_)
     ·
      replace c131 := bnot_t c131
      replace c131 := bvar_f c131
      refine Sq fun K132 hK132 => (Rg (Va (dx_loadN rfl ty_agg_25_4 rfl k3.range rfl) rfl rfl (Va (dx_build rfl rfl (built_of_O (cs := [.int .i64 0, .int .i64 0, .int .i64 0]) (by kernel_rfl) oc_nil)) rfl rfl ?_)))
      refine WL.do (dx_store (cs' := [s1, s2, .int .i64 fuse, .bool down]) (vs := [s1, s2, .int .i64 fuse, .bool down]) rfl ty_size_25_4 rfl rfl rfl (oC h1.one (oC h2.one (oC rfl (oC rfl oc_nil)))) k8 rfl (nB rfl) rfl) rfl ?_
      rintro _ W133 ⟨k135, o134⟩
      replace k14 := k14.other o134 n18.symm
      clear k8
      replace h1 := h1.only o134 (.tail _ (.head _))
      replace h2 := h2.only o134 (.tail _ (.head _))
      replace hB := o134.below hB l12
      refine WL.do (dx_store (cs' := [.int .i64 0, .int .i64 0, .int .i64 0]) (vs := [.int .i64 0, .int .i64 0, .int .i64 0]) rfl ty_size_30_3 rfl rfl rfl (oC rfl (oC rfl (oC rfl oc_nil))) k14 rfl (nB rfl) rfl) rfl ?_
      rintro _ W136 ⟨k138, o137⟩
      replace k135 := k135.other o137 n18
      clear k14
      replace h1 := h1.only o137 (.head _)
      replace h2 := h2.only o137 (.head _)
      replace hB := o137.below hB l19
      refine Pu rfl (Pu rfl (Ni (hK132 ?_)))
      exact WC.ret fun a_ ha_ => hQ (cv_ret4 rfl (.agg rfl ty_agg_25_4 k135.range rfl) (.agg rfl ty_agg_30_3 k138.range rfl) (.tmp rfl) (.tmp rfl) (by rw [openD_n (by first | assumption | omega) (pick_n hu0 hu1 hnp (by first | assumption | (simp_all; done)))]; exact ⟨_, _, _, [], rfl, (h1.less (fun x hx => (.tail _ (.tail _ (.tail _ hx))))), (h2.less (fun x hx => (.tail _ (.tail _ (.tail _ hx))))), RdF.nil (by decide), (fun r hr => by cases hr), (fun r hr => by cases hr), rfl⟩) hB ha_)
     ·
      replace c131 := bnot_f c131
      refine WC.skip (hK129 (Sq fun K139 hK139 => ?_))
      have hpk : bothD secs loose down = some (rs0.map Prod.fst, 1) := pick_0 hu0 hu1 hnp (by first | assumption | (simp_all; done))
      refine Rg (Va (dx_loadN rfl ty_agg_25_4 rfl k3.range rfl) rfl rfl (Pu rfl (Pu rfl ?_)))
      refine Ge (dx_cv rfl Tryd.func33 rfl rfl rfl (lay_v secs loose fuse down _ _ 1 rs0 lv0 W40 _ hL h1 h2 hl0 hs0 hfu (.inr rfl) (by omega) hbd hy0 (Nat.le_trans hu0.cnt (by omega)) (hT.below hB))) rfl rfl ?_
      rintro _ W141 ⟨⟨a1, a2, rfl, ag1, ag2⟩, b140⟩
      replace h1 := h1.below b140
      replace h2 := h2.below b140
      replace hl0 := hl0.below b140
      replace hs0 := hs0.below b140
      replace hl1 := hl1.below b140
      replace hs1 := hs1.below b140
      replace k3 := k3.below b140
      replace k8 := k8.below b140
      replace k14 := k14.below b140
      replace hB := below_then hB b140
      replace hL := LL.below hL b140
      refine Pu rfl (Pu rfl (Pu rfl (Pu rfl ?_)))
      refine Ge (dx_alloc rfl ty_zero_25 rfl) rfl rfl ?_
      rintro _ W142 ⟨rfl, k143, b144, z145⟩
      have n146 : w.heap.size ≠ W141.heap.size := Nat.ne_of_lt k3.lt
      have n147 : W2.heap.size ≠ W141.heap.size := Nat.ne_of_lt k8.lt
      have n148 : W7.heap.size ≠ W141.heap.size := Nat.ne_of_lt k14.lt
      have l149 := hB.size
      replace h1 := h1.more b144 (Nat.le_refl _)
      replace h2 := h2.more b144 (Nat.le_refl _)
      replace hl0 := hl0.more b144 (Nat.le_refl _)
      replace hs0 := hs0.more b144 (Nat.le_refl _)
      replace hl1 := hl1.more b144 (Nat.le_refl _)
      replace hs1 := hs1.more b144 (Nat.le_refl _)
      replace ag1 := ag1.more b144 (Nat.le_refl _)
      replace ag2 := ag2.more b144 (Nat.le_refl _)
      replace k3 := k3.below b144
      replace k8 := k8.below b144
      replace k14 := k14.below b144
      replace hB := below_then hB b144
      replace hL := LL.more hL z145
      refine Ge (dx_alloc rfl ty_zero_30 rfl) rfl rfl ?_
      rintro _ W150 ⟨rfl, k151, b152, z153⟩
      have n154 : w.heap.size ≠ W142.heap.size := Nat.ne_of_lt k3.lt
      have n155 : W2.heap.size ≠ W142.heap.size := Nat.ne_of_lt k8.lt
      have n156 : W7.heap.size ≠ W142.heap.size := Nat.ne_of_lt k14.lt
      have n157 : W141.heap.size ≠ W142.heap.size := Nat.ne_of_lt k143.lt
      have l158 := hB.size
      replace h1 := h1.more b152 (Nat.le_refl _)
      replace h2 := h2.more b152 (Nat.le_refl _)
      replace hl0 := hl0.more b152 (Nat.le_refl _)
      replace hs0 := hs0.more b152 (Nat.le_refl _)
      replace hl1 := hl1.more b152 (Nat.le_refl _)
      replace hs1 := hs1.more b152 (Nat.le_refl _)
      replace ag1 := ag1.more b152 (Nat.le_refl _)
      replace ag2 := ag2.more b152 (Nat.le_refl _)
      replace k3 := k3.below b152
      replace k8 := k8.below b152
      replace k14 := k14.below b152
      replace k143 := k143.below b152
      replace hB := below_then hB b152
      replace hL := LL.more hL z153
      refine WL.do (dx_store (cs' := [a1, a2, .int .i64 ((layD secs loose fuse down 1 (rs0.map Prod.fst)).1.fuse), .bool ((layD secs loose fuse down 1 (rs0.map Prod.fst)).1.down)]) (vs := [a1, a2, .int .i64 ((layD secs loose fuse down 1 (rs0.map Prod.fst)).1.fuse), .bool ((layD secs loose fuse down 1 (rs0.map Prod.fst)).1.down)]) rfl ty_size_25_4 rfl rfl rfl (oC ag1.one (oC ag2.one (oC rfl (oC rfl oc_nil)))) k143 rfl (nB rfl) rfl) rfl ?_
      rintro _ W159 ⟨k161, o160⟩
      replace k3 := k3.other o160 n146
      replace k8 := k8.other o160 n147
      replace k14 := k14.other o160 n148
      replace k151 := k151.other o160 n157.symm
      clear k143
      replace h1 := h1.only o160 (.tail _ (.head _))
      replace h2 := h2.only o160 (.tail _ (.head _))
      replace hl0 := hl0.only o160 (.tail _ (.head _))
      replace hs0 := hs0.only o160 (.tail _ (.head _))
      replace hl1 := hl1.only o160 (.tail _ (.head _))
      replace hs1 := hs1.only o160 (.tail _ (.head _))
      replace ag1 := ag1.only o160 (.tail _ (.head _))
      replace ag2 := ag2.only o160 (.tail _ (.head _))
      replace hB := o160.below hB l149
      replace hL := LL.only hL o160
      refine WL.do (dx_store (cs' := [.int .i64 ((layD secs loose fuse down 1 (rs0.map Prod.fst)).2.1), .int .i64 ((layD secs loose fuse down 1 (rs0.map Prod.fst)).2.2.1), .int .i64 ((layD secs loose fuse down 1 (rs0.map Prod.fst)).2.2.2)]) (vs := [.int .i64 ((layD secs loose fuse down 1 (rs0.map Prod.fst)).2.1), .int .i64 ((layD secs loose fuse down 1 (rs0.map Prod.fst)).2.2.1), .int .i64 ((layD secs loose fuse down 1 (rs0.map Prod.fst)).2.2.2)]) rfl ty_size_30_3 rfl rfl rfl (oC rfl (oC rfl (oC rfl oc_nil))) k151 rfl (nB rfl) rfl) rfl ?_
      rintro _ W162 ⟨k164, o163⟩
      replace k3 := k3.other o163 n154
      replace k8 := k8.other o163 n155
      replace k14 := k14.other o163 n156
      replace k161 := k161.other o163 n157
      clear k151
      replace h1 := h1.only o163 (.head _)
      replace h2 := h2.only o163 (.head _)
      replace hl0 := hl0.only o163 (.head _)
      replace hs0 := hs0.only o163 (.head _)
      replace hl1 := hl1.only o163 (.head _)
      replace hs1 := hs1.only o163 (.head _)
      replace ag1 := ag1.only o163 (.head _)
      replace ag2 := ag2.only o163 (.head _)
      replace hB := o163.below hB l158
      replace hL := LL.only hL o163
      refine Pu rfl (Ni (hK139 (Sq fun K165 hK165 => (Sq fun K166 hK166 => (Rg (Pu rfl (Va (dx_neq rfl rfl rfl) rfl rfl ?_)))))))
      refine Ni (hK166 ?_)
      refine WC.cond rfl (fun c167 => ?_) (fun c167 => ?_)
      ·
       replace c167 := bnot_t c167
       replace c167 := dF c167
       refine Sq fun K168 hK168 => (Rg (Va (dx_loadN rfl ty_agg_25_4 rfl k161.range rfl) rfl rfl (Va (dx_build rfl rfl (built_of_O (cs := [.int .i64 0, .int .i64 0, .int .i64 0]) (by kernel_rfl) oc_nil)) rfl rfl (Pu rfl ?_))))
       refine WL.do (dx_store (cs' := [a1, a2, .int .i64 ((layD secs loose fuse down 1 (rs0.map Prod.fst)).1.fuse), .bool ((layD secs loose fuse down 1 (rs0.map Prod.fst)).1.down)]) (vs := [a1, a2, .int .i64 ((layD secs loose fuse down 1 (rs0.map Prod.fst)).1.fuse), .bool ((layD secs loose fuse down 1 (rs0.map Prod.fst)).1.down)]) rfl ty_size_25_4 rfl rfl rfl (oC ag1.one (oC ag2.one (oC rfl (oC rfl oc_nil)))) k8 rfl (nB rfl) rfl) rfl ?_
       rintro _ W169 ⟨k171, o170⟩
       replace k14 := k14.other o170 n18.symm
       clear k8
       replace ag1 := ag1.only o170 (.tail _ (.tail _ (.tail _ (.head _))))
       replace ag2 := ag2.only o170 (.tail _ (.tail _ (.tail _ (.head _))))
       replace hB := o170.below hB l12
       refine WL.do (dx_store (cs' := [.int .i64 0, .int .i64 0, .int .i64 0]) (vs := [.int .i64 0, .int .i64 0, .int .i64 0]) rfl ty_size_30_3 rfl rfl rfl (oC rfl (oC rfl (oC rfl oc_nil))) k14 rfl (nB rfl) rfl) rfl ?_
       rintro _ W172 ⟨k174, o173⟩
       replace k171 := k171.other o173 n18
       clear k14
       replace ag1 := ag1.only o173 (.tail _ (.tail _ (.head _)))
       replace ag2 := ag2.only o173 (.tail _ (.tail _ (.head _)))
       replace hB := o173.below hB l19
       refine Pu rfl (Pu rfl (Ni (hK168 ?_)))
       exact WC.ret fun a_ ha_ => hQ (cv_ret4 rfl (.agg rfl ty_agg_25_4 k171.range rfl) (.agg rfl ty_agg_30_3 k174.range rfl) (.tmp rfl) (.tmp rfl) (by rw [openD_f (by first | assumption | omega) hpk (by assumption)]; exact ⟨_, _, _, [], log0 (layD_err0 (by assumption)), (ag1.less (fun x hx => (.tail _ (.tail _ (.tail _ (.tail _ (.tail _ hx))))))), (ag2.less (fun x hx => (.tail _ (.tail _ (.tail _ (.tail _ (.tail _ hx))))))), RdF.nil (by decide), (fun r hr => by cases hr), (fun r hr => by cases hr), rfl⟩) hB ha_)
      ·
       replace c167 := bnot_f c167
       replace c167 := dT c167
       refine WC.skip (hK165 (Sq fun K175 hK175 => ?_))
       refine WC.drawC 5 [(3, W2.heap.size, [.slice none 0 0, .slice none 0 0, .int .i64 0, .bool false], fun cs_ _ => cs_ = [a1, a2, .int .i64 ((layD secs loose fuse down 1 (rs0.map Prod.fst)).1.fuse), .bool ((layD secs loose fuse down 1 (rs0.map Prod.fst)).1.down)]), (4, W7.heap.size, [.int .i64 0, .int .i64 0, .int .i64 0], fun cs_ _ => cs_ = [.int .i64 ((layD secs loose fuse down 1 (rs0.map Prod.fst)).2.1), .int .i64 ((layD secs loose fuse down 1 (rs0.map Prod.fst)).2.2.1), .int .i64 ((layD secs loose fuse down 1 (rs0.map Prod.fst)).2.2.2)])] [(some 64, .is (.agg #[a1, a2, .int .i64 ((layD secs loose fuse down 1 (rs0.map Prod.fst)).1.fuse), .bool ((layD secs loose fuse down 1 (rs0.map Prod.fst)).1.down)])), (some 65, .is (.agg #[.int .i64 ((layD secs loose fuse down 1 (rs0.map Prod.fst)).2.1), .int .i64 ((layD secs loose fuse down 1 (rs0.map Prod.fst)).2.2.1), .int .i64 ((layD secs loose fuse down 1 (rs0.map Prod.fst)).2.2.2)])), (some 66, .is (lv0)), (none, .by fun _ _ => True), (none, .by fun _ _ => True)] [[], [], [], [0, 0], [1, 3, 0, 1, 3]] ⟨fun _ _ _ _ h => h, fun _ _ _ _ h => h, trivial⟩ (fun e he => by simp only [List.mem_cons, List.not_mem_nil, or_false] at he; rcases he with rfl | rfl; exact ⟨fun _ _ _ _ h => h, fun _ _ _ _ h => h, trivial⟩; exact ⟨fun _ _ _ _ h => h, fun _ _ _ _ h => h, trivial⟩) ⟨fun x hx => (by simp only [List.mem_cons, List.not_mem_nil, or_false] at hx; subst hx; exact ⟨(show ¬ ((4 : Nat) = 3) by decide), n18.symm⟩), ⟨fun x hx => (by cases hx), trivial⟩⟩ (monQ_nil (fun e he => by simp only [List.mem_cons, List.not_mem_nil, or_false] at he; rcases he with rfl | rfl; exact ⟨_, rfl⟩; exact ⟨_, rfl⟩)) (fun e he => by simp only [List.mem_cons, List.not_mem_nil, or_false] at he; rcases he with rfl | rfl; exact k8; exact k14) ?_ ?_
       ·
        refine DStepsC.cons rfl (fun Wd hd hbs_ => ?_) ?_
        ·
         have k161 := k161.chgM hd (by simp only [List.map_cons, List.map_nil, List.mem_cons, List.not_mem_nil, or_false, not_or]; exact ⟨n147.symm, n148.symm⟩)
         exact Dd (dx_loadN rfl ty_agg_25_4 rfl k161.range rfl) rfl
        refine DStepsC.cons rfl (fun Wd hd hbs_ => ?_) ?_
        ·
         have k164 := k164.chgM hd (by simp only [List.map_cons, List.map_nil, List.mem_cons, List.not_mem_nil, or_false, not_or]; exact ⟨n155.symm, n156.symm⟩)
         exact Dd (dx_loadN rfl ty_agg_30_3 rfl k164.range rfl) rfl
        refine DStepsC.cons rfl (fun Wd hd hbs_ => ?_) ?_
        ·
         exact Dd (dx_move rfl rfl) rfl
        refine DStepsC.hit rfl (fun Wd hd hb_ => ?_) ?_
        ·
         have ag1 := ag1.chgM hd (fun C hC => by simp only [List.map_cons, List.map_nil, List.mem_cons, List.not_mem_nil, or_false] at hC; rcases hC with rfl | rfl; exact (.tail _ (.tail _ (.tail _ (.head _)))); exact (.tail _ (.tail _ (.head _))))
         have ag2 := ag2.chgM hd (fun C hC => by simp only [List.map_cons, List.map_nil, List.mem_cons, List.not_mem_nil, or_false] at hC; rcases hC with rfl | rfl; exact (.tail _ (.tail _ (.tail _ (.head _)))); exact (.tail _ (.tail _ (.head _))))
         exact (dx_storeW (vs := [a1, a2, .int .i64 ((layD secs loose fuse down 1 (rs0.map Prod.fst)).1.fuse), .bool ((layD secs loose fuse down 1 (rs0.map Prod.fst)).1.down)]) rfl ty_size_25_4 rfl rfl rfl (oC ag1.one (oC ag2.one (oC rfl (oC rfl oc_nil)))) hb_ rfl rfl).mono (fun _ W' h => ⟨h.2, QBlk.is h.1, trivial⟩)
        refine DStepsC.hit rfl (fun Wd hd hb_ => ?_) ?_
        ·
         intro u14_3 p14_3 u14_3 p14_3
         exact (dx_storeW (vs := [.int .i64 ((layD secs loose fuse down 1 (rs0.map Prod.fst)).2.1), .int .i64 ((layD secs loose fuse down 1 (rs0.map Prod.fst)).2.2.1), .int .i64 ((layD secs loose fuse down 1 (rs0.map Prod.fst)).2.2.2)]) rfl ty_size_30_3 rfl rfl rfl (oC rfl (oC rfl (oC rfl oc_nil))) hb_ rfl rfl).mono (fun _ W' h => ⟨h.2, QBlk.is h.1, trivial⟩)
        exact trivial
       ·
        intro W176 hd hq_
        replace h1 := h1.chgM hd (fun C hC => by simp only [List.map_cons, List.map_nil, List.mem_cons, List.not_mem_nil, or_false] at hC; rcases hC with rfl | rfl; exact (.tail _ (.tail _ (.tail _ (.head _)))); exact (.tail _ (.tail _ (.head _))))
        replace h2 := h2.chgM hd (fun C hC => by simp only [List.map_cons, List.map_nil, List.mem_cons, List.not_mem_nil, or_false] at hC; rcases hC with rfl | rfl; exact (.tail _ (.tail _ (.tail _ (.head _)))); exact (.tail _ (.tail _ (.head _))))
        replace hl0 := hl0.chgM hd (fun C hC => by simp only [List.map_cons, List.map_nil, List.mem_cons, List.not_mem_nil, or_false] at hC; rcases hC with rfl | rfl; exact (.tail _ (.tail _ (.tail _ (.head _)))); exact (.tail _ (.tail _ (.head _))))
        replace hs0 := hs0.chgM hd (fun C hC => by simp only [List.map_cons, List.map_nil, List.mem_cons, List.not_mem_nil, or_false] at hC; rcases hC with rfl | rfl; exact (.tail _ (.tail _ (.tail _ (.head _)))); exact (.tail _ (.tail _ (.head _))))
        replace hl1 := hl1.chgM hd (fun C hC => by simp only [List.map_cons, List.map_nil, List.mem_cons, List.not_mem_nil, or_false] at hC; rcases hC with rfl | rfl; exact (.tail _ (.tail _ (.tail _ (.head _)))); exact (.tail _ (.tail _ (.head _))))
        replace hs1 := hs1.chgM hd (fun C hC => by simp only [List.map_cons, List.map_nil, List.mem_cons, List.not_mem_nil, or_false] at hC; rcases hC with rfl | rfl; exact (.tail _ (.tail _ (.tail _ (.head _)))); exact (.tail _ (.tail _ (.head _))))
        replace ag1 := ag1.chgM hd (fun C hC => by simp only [List.map_cons, List.map_nil, List.mem_cons, List.not_mem_nil, or_false] at hC; rcases hC with rfl | rfl; exact (.tail _ (.tail _ (.tail _ (.head _)))); exact (.tail _ (.tail _ (.head _))))
        replace ag2 := ag2.chgM hd (fun C hC => by simp only [List.map_cons, List.map_nil, List.mem_cons, List.not_mem_nil, or_false] at hC; rcases hC with rfl | rfl; exact (.tail _ (.tail _ (.tail _ (.head _)))); exact (.tail _ (.tail _ (.head _))))
        replace k3 := k3.chgM hd (by simp only [List.map_cons, List.map_nil, List.mem_cons, List.not_mem_nil, or_false, not_or]; exact ⟨n11, n17⟩)
        replace k161 := k161.chgM hd (by simp only [List.map_cons, List.map_nil, List.mem_cons, List.not_mem_nil, or_false, not_or]; exact ⟨n147.symm, n148.symm⟩)
        replace k164 := k164.chgM hd (by simp only [List.map_cons, List.map_nil, List.mem_cons, List.not_mem_nil, or_false, not_or]; exact ⟨n155.symm, n156.symm⟩)
        have k177 := hq_ _ (.head _)
        replace k177 := QBlk.blk k177
        have k178 := hq_ _ (.tail _ (.head _))
        replace k178 := QBlk.blk k178
        replace hB := hd.toBelow hB (fun C hC => by simp only [List.map_cons, List.map_nil, List.mem_cons, List.not_mem_nil, or_false] at hC; rcases hC with rfl | rfl; exact l12; exact l19)
        replace hL := hL.chgM hd
        intro _ _
        intro _ _
        refine Pu rfl (Pu rfl (Ni (hK175 ?_)))
        exact WC.ret fun a_ ha_ => hQ (cv_ret4 rfl (.agg rfl ty_agg_25_4 k177.range rfl) (.agg rfl ty_agg_30_3 k178.range rfl) (.tmp rfl) (.tmp rfl) (by rw [openD_k (by first | assumption | omega) hpk (by first | assumption | exact Classical.not_not.1 (by assumption))]; exact ⟨_, _, _, rs0, open_ok (by first | assumption | exact Classical.not_not.1 (by assumption)), (ag1.less (fun x hx => (.tail _ (.tail _ (.tail _ (.tail _ (.tail _ hx))))))), (ag2.less (fun x hx => (.tail _ (.tail _ (.tail _ (.tail _ (.tail _ hx))))))), (hl0.less (fun x hx => (.tail _ (.tail _ (.tail _ (.tail _ (.tail _ hx))))))), (hs0.less (fun x hx => (.tail _ (.tail _ (.tail _ (.tail _ (.tail _ hx))))))), hy0, rfl⟩) hB ha_)
  ·
   replace g42 := bvar_f g42
   refine Of rfl (Of rfl (Of rfl (Of rfl (Of rfl (Of rfl (Of rfl (Pu rfl ?_)))))))
   refine Ni (hK41 (WC.condF rfl (WC.skip (hK37 (Sq fun K179 hK179 => (Sq fun K180 hK180 => ?_))))))
   have hnp : ¬ (bb1 = true ∧ (bb0 = false ∨ gn0 < gn1)) := by first | (simp_all; done) | (simp_all; omega) | skip
   refine Rg (Pu rfl (Va (dx_not rfl rfl) rfl rfl (Ni (hK180 ?_))))
   refine WC.cond rfl (fun c181 => ?_) (fun c181 => ?_)
   ·
    replace c181 := bnot_t c181
    replace c181 := bvar_f c181
    refine Sq fun K182 hK182 => (Rg (Va (dx_loadN rfl ty_agg_25_4 rfl k3.range rfl) rfl rfl (Va (dx_build rfl rfl (built_of_O (cs := [.int .i64 0, .int .i64 0, .int .i64 0]) (by kernel_rfl) oc_nil)) rfl rfl ?_)))
    refine WL.do (dx_store (cs' := [s1, s2, .int .i64 fuse, .bool down]) (vs := [s1, s2, .int .i64 fuse, .bool down]) rfl ty_size_25_4 rfl rfl rfl (oC h1.one (oC h2.one (oC rfl (oC rfl oc_nil)))) k8 rfl (nB rfl) rfl) rfl ?_
    rintro _ W183 ⟨k185, o184⟩
    replace k14 := k14.other o184 n18.symm
    clear k8
    replace h1 := h1.only o184 (.tail _ (.head _))
    replace h2 := h2.only o184 (.tail _ (.head _))
    replace hB := o184.below hB l12
    refine WL.do (dx_store (cs' := [.int .i64 0, .int .i64 0, .int .i64 0]) (vs := [.int .i64 0, .int .i64 0, .int .i64 0]) rfl ty_size_30_3 rfl rfl rfl (oC rfl (oC rfl (oC rfl oc_nil))) k14 rfl (nB rfl) rfl) rfl ?_
    rintro _ W186 ⟨k188, o187⟩
    replace k185 := k185.other o187 n18
    clear k14
    replace h1 := h1.only o187 (.head _)
    replace h2 := h2.only o187 (.head _)
    replace hB := o187.below hB l19
    refine Pu rfl (Pu rfl (Ni (hK182 ?_)))
    exact WC.ret fun a_ ha_ => hQ (cv_ret4 rfl (.agg rfl ty_agg_25_4 k185.range rfl) (.agg rfl ty_agg_30_3 k188.range rfl) (.tmp rfl) (.tmp rfl) (by rw [openD_n (by first | assumption | omega) (pick_n hu0 hu1 hnp (by first | assumption | (simp_all; done)))]; exact ⟨_, _, _, [], rfl, (h1.less (fun x hx => (.tail _ (.tail _ (.tail _ hx))))), (h2.less (fun x hx => (.tail _ (.tail _ (.tail _ hx))))), RdF.nil (by decide), (fun r hr => by cases hr), (fun r hr => by cases hr), rfl⟩) hB ha_)
   ·
    replace c181 := bnot_f c181
    refine WC.skip (hK179 (Sq fun K189 hK189 => ?_))
    have hpk : bothD secs loose down = some (rs0.map Prod.fst, 1) := pick_0 hu0 hu1 hnp (by first | assumption | (simp_all; done))
    refine Rg (Va (dx_loadN rfl ty_agg_25_4 rfl k3.range rfl) rfl rfl (Pu rfl (Pu rfl ?_)))
    refine Ge (dx_cv rfl Tryd.func33 rfl rfl rfl (lay_v secs loose fuse down _ _ 1 rs0 lv0 W40 _ hL h1 h2 hl0 hs0 hfu (.inr rfl) (by omega) hbd hy0 (Nat.le_trans hu0.cnt (by omega)) (hT.below hB))) rfl rfl ?_
    rintro _ W191 ⟨⟨a1, a2, rfl, ag1, ag2⟩, b190⟩
    replace h1 := h1.below b190
    replace h2 := h2.below b190
    replace hl0 := hl0.below b190
    replace hs0 := hs0.below b190
    replace hl1 := hl1.below b190
    replace hs1 := hs1.below b190
    replace k3 := k3.below b190
    replace k8 := k8.below b190
    replace k14 := k14.below b190
    replace hB := below_then hB b190
    replace hL := LL.below hL b190
    refine Pu rfl (Pu rfl (Pu rfl (Pu rfl ?_)))
    refine Ge (dx_alloc rfl ty_zero_25 rfl) rfl rfl ?_
    rintro _ W192 ⟨rfl, k193, b194, z195⟩
    have n196 : w.heap.size ≠ W191.heap.size := Nat.ne_of_lt k3.lt
    have n197 : W2.heap.size ≠ W191.heap.size := Nat.ne_of_lt k8.lt
    have n198 : W7.heap.size ≠ W191.heap.size := Nat.ne_of_lt k14.lt
    have l199 := hB.size
    replace h1 := h1.more b194 (Nat.le_refl _)
    replace h2 := h2.more b194 (Nat.le_refl _)
    replace hl0 := hl0.more b194 (Nat.le_refl _)
    replace hs0 := hs0.more b194 (Nat.le_refl _)
    replace hl1 := hl1.more b194 (Nat.le_refl _)
    replace hs1 := hs1.more b194 (Nat.le_refl _)
    replace ag1 := ag1.more b194 (Nat.le_refl _)
    replace ag2 := ag2.more b194 (Nat.le_refl _)
    replace k3 := k3.below b194
    replace k8 := k8.below b194
    replace k14 := k14.below b194
    replace hB := below_then hB b194
    replace hL := LL.more hL z195
    refine Ge (dx_alloc rfl ty_zero_30 rfl) rfl rfl ?_
    rintro _ W200 ⟨rfl, k201, b202, z203⟩
    have n204 : w.heap.size ≠ W192.heap.size := Nat.ne_of_lt k3.lt
    have n205 : W2.heap.size ≠ W192.heap.size := Nat.ne_of_lt k8.lt
    have n206 : W7.heap.size ≠ W192.heap.size := Nat.ne_of_lt k14.lt
    have n207 : W191.heap.size ≠ W192.heap.size := Nat.ne_of_lt k193.lt
    have l208 := hB.size
    replace h1 := h1.more b202 (Nat.le_refl _)
    replace h2 := h2.more b202 (Nat.le_refl _)
    replace hl0 := hl0.more b202 (Nat.le_refl _)
    replace hs0 := hs0.more b202 (Nat.le_refl _)
    replace hl1 := hl1.more b202 (Nat.le_refl _)
    replace hs1 := hs1.more b202 (Nat.le_refl _)
    replace ag1 := ag1.more b202 (Nat.le_refl _)
    replace ag2 := ag2.more b202 (Nat.le_refl _)
    replace k3 := k3.below b202
    replace k8 := k8.below b202
    replace k14 := k14.below b202
    replace k193 := k193.below b202
    replace hB := below_then hB b202
    replace hL := LL.more hL z203
    refine WL.do (dx_store (cs' := [a1, a2, .int .i64 ((layD secs loose fuse down 1 (rs0.map Prod.fst)).1.fuse), .bool ((layD secs loose fuse down 1 (rs0.map Prod.fst)).1.down)]) (vs := [a1, a2, .int .i64 ((layD secs loose fuse down 1 (rs0.map Prod.fst)).1.fuse), .bool ((layD secs loose fuse down 1 (rs0.map Prod.fst)).1.down)]) rfl ty_size_25_4 rfl rfl rfl (oC ag1.one (oC ag2.one (oC rfl (oC rfl oc_nil)))) k193 rfl (nB rfl) rfl) rfl ?_
    rintro _ W209 ⟨k211, o210⟩
    replace k3 := k3.other o210 n196
    replace k8 := k8.other o210 n197
    replace k14 := k14.other o210 n198
    replace k201 := k201.other o210 n207.symm
    clear k193
    replace h1 := h1.only o210 (.tail _ (.head _))
    replace h2 := h2.only o210 (.tail _ (.head _))
    replace hl0 := hl0.only o210 (.tail _ (.head _))
    replace hs0 := hs0.only o210 (.tail _ (.head _))
    replace hl1 := hl1.only o210 (.tail _ (.head _))
    replace hs1 := hs1.only o210 (.tail _ (.head _))
    replace ag1 := ag1.only o210 (.tail _ (.head _))
    replace ag2 := ag2.only o210 (.tail _ (.head _))
    replace hB := o210.below hB l199
    replace hL := LL.only hL o210
    refine WL.do (dx_store (cs' := [.int .i64 ((layD secs loose fuse down 1 (rs0.map Prod.fst)).2.1), .int .i64 ((layD secs loose fuse down 1 (rs0.map Prod.fst)).2.2.1), .int .i64 ((layD secs loose fuse down 1 (rs0.map Prod.fst)).2.2.2)]) (vs := [.int .i64 ((layD secs loose fuse down 1 (rs0.map Prod.fst)).2.1), .int .i64 ((layD secs loose fuse down 1 (rs0.map Prod.fst)).2.2.1), .int .i64 ((layD secs loose fuse down 1 (rs0.map Prod.fst)).2.2.2)]) rfl ty_size_30_3 rfl rfl rfl (oC rfl (oC rfl (oC rfl oc_nil))) k201 rfl (nB rfl) rfl) rfl ?_
    rintro _ W212 ⟨k214, o213⟩
    replace k3 := k3.other o213 n204
    replace k8 := k8.other o213 n205
    replace k14 := k14.other o213 n206
    replace k211 := k211.other o213 n207
    clear k201
    replace h1 := h1.only o213 (.head _)
    replace h2 := h2.only o213 (.head _)
    replace hl0 := hl0.only o213 (.head _)
    replace hs0 := hs0.only o213 (.head _)
    replace hl1 := hl1.only o213 (.head _)
    replace hs1 := hs1.only o213 (.head _)
    replace ag1 := ag1.only o213 (.head _)
    replace ag2 := ag2.only o213 (.head _)
    replace hB := o213.below hB l208
    replace hL := LL.only hL o213
    refine Pu rfl (Ni (hK189 (Sq fun K215 hK215 => (Sq fun K216 hK216 => (Rg (Pu rfl (Va (dx_neq rfl rfl rfl) rfl rfl ?_)))))))
    refine Ni (hK216 ?_)
    refine WC.cond rfl (fun c217 => ?_) (fun c217 => ?_)
    ·
     replace c217 := bnot_t c217
     replace c217 := dF c217
     refine Sq fun K218 hK218 => (Rg (Va (dx_loadN rfl ty_agg_25_4 rfl k211.range rfl) rfl rfl (Va (dx_build rfl rfl (built_of_O (cs := [.int .i64 0, .int .i64 0, .int .i64 0]) (by kernel_rfl) oc_nil)) rfl rfl (Pu rfl ?_))))
     refine WL.do (dx_store (cs' := [a1, a2, .int .i64 ((layD secs loose fuse down 1 (rs0.map Prod.fst)).1.fuse), .bool ((layD secs loose fuse down 1 (rs0.map Prod.fst)).1.down)]) (vs := [a1, a2, .int .i64 ((layD secs loose fuse down 1 (rs0.map Prod.fst)).1.fuse), .bool ((layD secs loose fuse down 1 (rs0.map Prod.fst)).1.down)]) rfl ty_size_25_4 rfl rfl rfl (oC ag1.one (oC ag2.one (oC rfl (oC rfl oc_nil)))) k8 rfl (nB rfl) rfl) rfl ?_
     rintro _ W219 ⟨k221, o220⟩
     replace k14 := k14.other o220 n18.symm
     clear k8
     replace ag1 := ag1.only o220 (.tail _ (.tail _ (.tail _ (.head _))))
     replace ag2 := ag2.only o220 (.tail _ (.tail _ (.tail _ (.head _))))
     replace hB := o220.below hB l12
     refine WL.do (dx_store (cs' := [.int .i64 0, .int .i64 0, .int .i64 0]) (vs := [.int .i64 0, .int .i64 0, .int .i64 0]) rfl ty_size_30_3 rfl rfl rfl (oC rfl (oC rfl (oC rfl oc_nil))) k14 rfl (nB rfl) rfl) rfl ?_
     rintro _ W222 ⟨k224, o223⟩
     replace k221 := k221.other o223 n18
     clear k14
     replace ag1 := ag1.only o223 (.tail _ (.tail _ (.head _)))
     replace ag2 := ag2.only o223 (.tail _ (.tail _ (.head _)))
     replace hB := o223.below hB l19
     refine Pu rfl (Pu rfl (Ni (hK218 ?_)))
     exact WC.ret fun a_ ha_ => hQ (cv_ret4 rfl (.agg rfl ty_agg_25_4 k221.range rfl) (.agg rfl ty_agg_30_3 k224.range rfl) (.tmp rfl) (.tmp rfl) (by rw [openD_f (by first | assumption | omega) hpk (by assumption)]; exact ⟨_, _, _, [], log0 (layD_err0 (by assumption)), (ag1.less (fun x hx => (.tail _ (.tail _ (.tail _ (.tail _ (.tail _ hx))))))), (ag2.less (fun x hx => (.tail _ (.tail _ (.tail _ (.tail _ (.tail _ hx))))))), RdF.nil (by decide), (fun r hr => by cases hr), (fun r hr => by cases hr), rfl⟩) hB ha_)
    ·
     replace c217 := bnot_f c217
     replace c217 := dT c217
     refine WC.skip (hK215 (Sq fun K225 hK225 => ?_))
     refine WC.drawC 5 [(3, W2.heap.size, [.slice none 0 0, .slice none 0 0, .int .i64 0, .bool false], fun cs_ _ => cs_ = [a1, a2, .int .i64 ((layD secs loose fuse down 1 (rs0.map Prod.fst)).1.fuse), .bool ((layD secs loose fuse down 1 (rs0.map Prod.fst)).1.down)]), (4, W7.heap.size, [.int .i64 0, .int .i64 0, .int .i64 0], fun cs_ _ => cs_ = [.int .i64 ((layD secs loose fuse down 1 (rs0.map Prod.fst)).2.1), .int .i64 ((layD secs loose fuse down 1 (rs0.map Prod.fst)).2.2.1), .int .i64 ((layD secs loose fuse down 1 (rs0.map Prod.fst)).2.2.2)])] [(some 64, .is (.agg #[a1, a2, .int .i64 ((layD secs loose fuse down 1 (rs0.map Prod.fst)).1.fuse), .bool ((layD secs loose fuse down 1 (rs0.map Prod.fst)).1.down)])), (some 65, .is (.agg #[.int .i64 ((layD secs loose fuse down 1 (rs0.map Prod.fst)).2.1), .int .i64 ((layD secs loose fuse down 1 (rs0.map Prod.fst)).2.2.1), .int .i64 ((layD secs loose fuse down 1 (rs0.map Prod.fst)).2.2.2)])), (some 66, .is (lv0)), (none, .by fun _ _ => True), (none, .by fun _ _ => True)] [[], [], [], [0, 0], [1, 3, 0, 1, 3]] ⟨fun _ _ _ _ h => h, fun _ _ _ _ h => h, trivial⟩ (fun e he => by simp only [List.mem_cons, List.not_mem_nil, or_false] at he; rcases he with rfl | rfl; exact ⟨fun _ _ _ _ h => h, fun _ _ _ _ h => h, trivial⟩; exact ⟨fun _ _ _ _ h => h, fun _ _ _ _ h => h, trivial⟩) ⟨fun x hx => (by simp only [List.mem_cons, List.not_mem_nil, or_false] at hx; subst hx; exact ⟨(show ¬ ((4 : Nat) = 3) by decide), n18.symm⟩), ⟨fun x hx => (by cases hx), trivial⟩⟩ (monQ_nil (fun e he => by simp only [List.mem_cons, List.not_mem_nil, or_false] at he; rcases he with rfl | rfl; exact ⟨_, rfl⟩; exact ⟨_, rfl⟩)) (fun e he => by simp only [List.mem_cons, List.not_mem_nil, or_false] at he; rcases he with rfl | rfl; exact k8; exact k14) ?_ ?_
     ·
      refine DStepsC.cons rfl (fun Wd hd hbs_ => ?_) ?_
      ·
       have k211 := k211.chgM hd (by simp only [List.map_cons, List.map_nil, List.mem_cons, List.not_mem_nil, or_false, not_or]; exact ⟨n197.symm, n198.symm⟩)
       exact Dd (dx_loadN rfl ty_agg_25_4 rfl k211.range rfl) rfl
      refine DStepsC.cons rfl (fun Wd hd hbs_ => ?_) ?_
      ·
       have k214 := k214.chgM hd (by simp only [List.map_cons, List.map_nil, List.mem_cons, List.not_mem_nil, or_false, not_or]; exact ⟨n205.symm, n206.symm⟩)
       exact Dd (dx_loadN rfl ty_agg_30_3 rfl k214.range rfl) rfl
      refine DStepsC.cons rfl (fun Wd hd hbs_ => ?_) ?_
      ·
       exact Dd (dx_move rfl rfl) rfl
      refine DStepsC.hit rfl (fun Wd hd hb_ => ?_) ?_
      ·
       have ag1 := ag1.chgM hd (fun C hC => by simp only [List.map_cons, List.map_nil, List.mem_cons, List.not_mem_nil, or_false] at hC; rcases hC with rfl | rfl; exact (.tail _ (.tail _ (.tail _ (.head _)))); exact (.tail _ (.tail _ (.head _))))
       have ag2 := ag2.chgM hd (fun C hC => by simp only [List.map_cons, List.map_nil, List.mem_cons, List.not_mem_nil, or_false] at hC; rcases hC with rfl | rfl; exact (.tail _ (.tail _ (.tail _ (.head _)))); exact (.tail _ (.tail _ (.head _))))
       exact (dx_storeW (vs := [a1, a2, .int .i64 ((layD secs loose fuse down 1 (rs0.map Prod.fst)).1.fuse), .bool ((layD secs loose fuse down 1 (rs0.map Prod.fst)).1.down)]) rfl ty_size_25_4 rfl rfl rfl (oC ag1.one (oC ag2.one (oC rfl (oC rfl oc_nil)))) hb_ rfl rfl).mono (fun _ W' h => ⟨h.2, QBlk.is h.1, trivial⟩)
      refine DStepsC.hit rfl (fun Wd hd hb_ => ?_) ?_
      ·
       intro u14_3 p14_3 u14_3 p14_3
       exact (dx_storeW (vs := [.int .i64 ((layD secs loose fuse down 1 (rs0.map Prod.fst)).2.1), .int .i64 ((layD secs loose fuse down 1 (rs0.map Prod.fst)).2.2.1), .int .i64 ((layD secs loose fuse down 1 (rs0.map Prod.fst)).2.2.2)]) rfl ty_size_30_3 rfl rfl rfl (oC rfl (oC rfl (oC rfl oc_nil))) hb_ rfl rfl).mono (fun _ W' h => ⟨h.2, QBlk.is h.1, trivial⟩)
      exact trivial
     ·
      intro W226 hd hq_
      replace h1 := h1.chgM hd (fun C hC => by simp only [List.map_cons, List.map_nil, List.mem_cons, List.not_mem_nil, or_false] at hC; rcases hC with rfl | rfl; exact (.tail _ (.tail _ (.tail _ (.head _)))); exact (.tail _ (.tail _ (.head _))))
      replace h2 := h2.chgM hd (fun C hC => by simp only [List.map_cons, List.map_nil, List.mem_cons, List.not_mem_nil, or_false] at hC; rcases hC with rfl | rfl; exact (.tail _ (.tail _ (.tail _ (.head _)))); exact (.tail _ (.tail _ (.head _))))
      replace hl0 := hl0.chgM hd (fun C hC => by simp only [List.map_cons, List.map_nil, List.mem_cons, List.not_mem_nil, or_false] at hC; rcases hC with rfl | rfl; exact (.tail _ (.tail _ (.tail _ (.head _)))); exact (.tail _ (.tail _ (.head _))))
      replace hs0 := hs0.chgM hd (fun C hC => by simp only [List.map_cons, List.map_nil, List.mem_cons, List.not_mem_nil, or_false] at hC; rcases hC with rfl | rfl; exact (.tail _ (.tail _ (.tail _ (.head _)))); exact (.tail _ (.tail _ (.head _))))
      replace hl1 := hl1.chgM hd (fun C hC => by simp only [List.map_cons, List.map_nil, List.mem_cons, List.not_mem_nil, or_false] at hC; rcases hC with rfl | rfl; exact (.tail _ (.tail _ (.tail _ (.head _)))); exact (.tail _ (.tail _ (.head _))))
      replace hs1 := hs1.chgM hd (fun C hC => by simp only [List.map_cons, List.map_nil, List.mem_cons, List.not_mem_nil, or_false] at hC; rcases hC with rfl | rfl; exact (.tail _ (.tail _ (.tail _ (.head _)))); exact (.tail _ (.tail _ (.head _))))
      replace ag1 := ag1.chgM hd (fun C hC => by simp only [List.map_cons, List.map_nil, List.mem_cons, List.not_mem_nil, or_false] at hC; rcases hC with rfl | rfl; exact (.tail _ (.tail _ (.tail _ (.head _)))); exact (.tail _ (.tail _ (.head _))))
      replace ag2 := ag2.chgM hd (fun C hC => by simp only [List.map_cons, List.map_nil, List.mem_cons, List.not_mem_nil, or_false] at hC; rcases hC with rfl | rfl; exact (.tail _ (.tail _ (.tail _ (.head _)))); exact (.tail _ (.tail _ (.head _))))
      replace k3 := k3.chgM hd (by simp only [List.map_cons, List.map_nil, List.mem_cons, List.not_mem_nil, or_false, not_or]; exact ⟨n11, n17⟩)
      replace k211 := k211.chgM hd (by simp only [List.map_cons, List.map_nil, List.mem_cons, List.not_mem_nil, or_false, not_or]; exact ⟨n197.symm, n198.symm⟩)
      replace k214 := k214.chgM hd (by simp only [List.map_cons, List.map_nil, List.mem_cons, List.not_mem_nil, or_false, not_or]; exact ⟨n205.symm, n206.symm⟩)
      have k227 := hq_ _ (.head _)
      replace k227 := QBlk.blk k227
      have k228 := hq_ _ (.tail _ (.head _))
      replace k228 := QBlk.blk k228
      replace hB := hd.toBelow hB (fun C hC => by simp only [List.map_cons, List.map_nil, List.mem_cons, List.not_mem_nil, or_false] at hC; rcases hC with rfl | rfl; exact l12; exact l19)
      replace hL := hL.chgM hd
      intro _ _
      intro _ _
      refine Pu rfl (Pu rfl (Ni (hK225 ?_)))
      exact WC.ret fun a_ ha_ => hQ (cv_ret4 rfl (.agg rfl ty_agg_25_4 k227.range rfl) (.agg rfl ty_agg_30_3 k228.range rfl) (.tmp rfl) (.tmp rfl) (by rw [openD_k (by first | assumption | omega) hpk (by first | assumption | exact Classical.not_not.1 (by assumption))]; exact ⟨_, _, _, rs0, open_ok (by first | assumption | exact Classical.not_not.1 (by assumption)), (ag1.less (fun x hx => (.tail _ (.tail _ (.tail _ (.tail _ (.tail _ hx))))))), (ag2.less (fun x hx => (.tail _ (.tail _ (.tail _ (.tail _ (.tail _ hx))))))), (hl0.less (fun x hx => (.tail _ (.tail _ (.tail _ (.tail _ (.tail _ hx))))))), (hs0.less (fun x hx => (.tail _ (.tail _ (.tail _ (.tail _ (.tail _ hx))))))), hy0, rfl⟩) hB ha_)

theorem RdQs.chgM {L : List Nat} {w w' : World} {rs : List PV} (h : RdQs L w rs) {Cs : List Nat} (g : ChgM Cs w w') (hC : ∀ C ∈ Cs, C ∈ L) : RdQs L w' rs := fun q hq => (h q hq).chgM g hC
theorem log_ok {n half gen used : Int} (h : logD n half gen used = 0) : (half = 0 ∨ half = 1) ∧ 1 ≤ gen ∧ gen ≤ 1099511627776 ∧ 1 ≤ used ∧ used ≤ n / 2 := by
 unfold logD at h
 split at h
 · cases h
 · omega
section
variable {secs : List (List Int)} {loose : List (Int × List Int)} {fuse : Int} {down : Bool} {half gen used : Int} {rec : List Int} {l : List (List Int)}
theorem appendD_c (h : ¬ checkD secs loose down = 0) : appendD secs loose fuse down half gen used rec = (⟨secs, loose, fuse, down, checkD secs loose down⟩, half, gen, used) := if_pos h
theorem appendD_l (h : checkD secs loose down = 0) (h2 : ¬ logD (secs.length : Int) half gen used = 0) : appendD secs loose fuse down half gen used rec = (⟨secs, loose, fuse, down, logD (secs.length : Int) half gen used⟩, half, gen, used) := by unfold appendD; rw [if_neg (fun q => q h), if_pos h2]
theorem appendD_g (h : checkD secs loose down = 0) (h2 : logD (secs.length : Int) half gen used = 0) (h3 : 4096 < rec.length) : appendD secs loose fuse down half gen used rec = (⟨secs, loose, fuse, down, 3⟩, half, gen, used) := by unfold appendD; rw [if_neg (fun q => q h), if_neg (fun q => q h2), if_pos h3]
theorem appendD_f (h : checkD secs loose down = 0) (h2 : logD (secs.length : Int) half gen used = 0) (h3 : ¬ 4096 < rec.length) (h4 : (secs.length : Int) / 2 < used + sizeD (rec.length : Int)) : appendD secs loose fuse down half gen used rec = (⟨secs, loose, fuse, down, 10⟩, half, gen, used) := by unfold appendD; rw [if_neg (fun q => q h), if_neg (fun q => q h2), if_neg h3, if_pos h4]
theorem appendD_k (h : checkD secs loose down = 0) (h2 : logD (secs.length : Int) half gen used = 0) (h3 : ¬ 4096 < rec.length) (h4 : ¬ (secs.length : Int) / 2 < used + sizeD (rec.length : Int)) {d : DO} (hd : d = wrAll (d0D secs loose fuse down) (half * ((secs.length : Int) / 2)) (pagesD gen used rec)) (he : (doneD (d0D secs loose fuse down) (wrS d)).err = 0) : appendD secs loose fuse down half gen used rec = (doneD (d0D secs loose fuse down) (wrS d), half, gen, used + sizeD (rec.length : Int)) := by
 subst hd
 unfold appendD; rw [if_neg (fun q => q h), if_neg (fun q => q h2), if_neg h3, if_neg h4]; exact if_pos he
theorem appendD_x (h : checkD secs loose down = 0) (h2 : logD (secs.length : Int) half gen used = 0) (h3 : ¬ 4096 < rec.length) (h4 : ¬ (secs.length : Int) / 2 < used + sizeD (rec.length : Int)) {d : DO} (hd : d = wrAll (d0D secs loose fuse down) (half * ((secs.length : Int) / 2)) (pagesD gen used rec)) (he : ¬ (doneD (d0D secs loose fuse down) (wrS d)).err = 0) : appendD secs loose fuse down half gen used rec = (doneD (d0D secs loose fuse down) (wrS d), half, gen, used) := by
 subst hd
 unfold appendD; rw [if_neg (fun q => q h), if_neg (fun q => q h2), if_neg h3, if_neg h4]; exact if_neg he
theorem sizeD_le (n : Int) : 0 ≤ sizeD n ∧ sizeD n ≤ 41 := by
 unfold sizeD
 split
 · omega
 · split <;> omega
end
set_option maxHeartbeats 1000000 in
theorem append_v (secs : List (List Int)) (loose : List (Int × List Int)) (fuse : Int) (down : Bool) (s1 s2 : Value) (half gen used : Int) (rec : List Int) (rv : Value) (w : World) (L : List Nat) (hL : LL L w) (h1 : RdF 128 L w s1 (secs.map encS)) (h2 : RdF 129 L w s2 (loose.map encW)) (h3 : RdF 1 L w rv (e8s rec))  (hfu : -9223372036854775808 ≤ fuse ∧ fuse ≤ 9223372036854775807) (hbd : BytD secs loose) (hrb : Byt rec) (hul : -9223372036854775808 ≤ used ∧ used ≤ 9223372036854775807) (hrm : rec.length ≤ 1000000000) (hT : TabS w) : CV Tryd.prog 18 [.agg #[s1, s2, .int .i64 fuse, .bool down], .agg #[.int .i64 half, .int .i64 gen, .int .i64 used], rv] w fun v W => ∃ t1 t2, v = .tuple #[.agg #[t1, t2, .int .i64 (appendD secs loose fuse down half gen used rec).1.fuse, .bool (appendD secs loose fuse down half gen used rec).1.down], .agg #[.int .i64 (appendD secs loose fuse down half gen used rec).2.1, .int .i64 (appendD secs loose fuse down half gen used rec).2.2.1, .int .i64 (appendD secs loose fuse down half gen used rec).2.2.2], .int .i64 (appendD secs loose fuse down half gen used rec).1.err] ∧ RdF 128 L W t1 ((appendD secs loose fuse down half gen used rec).1.secs.map encS) ∧ RdF 129 L W t2 ((appendD secs loose fuse down half gen used rec).1.loose.map encW) := by
 refine cv_enter (N := 93) (f := [(0, .agg #[s1, s2, .int .i64 fuse, .bool down]), (1, .agg #[.int .i64 half, .int .i64 gen, .int .i64 used]), (2, rv)]) Tryd.func18 rfl rfl rfl rfl fun Q hQ hE => ?_
 have hB := Below.refl w.heap.size w
 have h1m : secs.length ≤ maxLen := by have := h1.len; rwa [List.length_map] at this
 unfold maxLen at h1m
 have h2m : loose.length ≤ maxLen := by have := h2.len; rwa [List.length_map] at this
 unfold maxLen at h2m
 refine Sq fun K1 hK1 => (Rg ?_)
 refine Ge (dx_box rfl rfl rfl) rfl rfl ?_
 rintro _ W2 ⟨rfl, k3, b4, z5⟩
 have l6 := hB.size
 replace h1 := h1.more b4 (Nat.le_refl _)
 replace h2 := h2.more b4 (Nat.le_refl _)
 replace h3 := h3.more b4 (Nat.le_refl _)
 replace hB := below_then hB b4
 replace hL := LL.more hL z5
 refine Ge (dx_box rfl rfl rfl) rfl rfl ?_
 rintro _ W7 ⟨rfl, k8, b9, z10⟩
 have n11 : w.heap.size ≠ W2.heap.size := Nat.ne_of_lt k3.lt
 have l12 := hB.size
 replace h1 := h1.more b9 (Nat.le_refl _)
 replace h2 := h2.more b9 (Nat.le_refl _)
 replace h3 := h3.more b9 (Nat.le_refl _)
 replace k3 := k3.below b9
 replace hB := below_then hB b9
 replace hL := LL.more hL z10
 refine Ge (dx_alloc rfl ty_zero_25 rfl) rfl rfl ?_
 rintro _ W13 ⟨rfl, k14, b15, z16⟩
 have n17 : w.heap.size ≠ W7.heap.size := Nat.ne_of_lt k3.lt
 have n18 : W2.heap.size ≠ W7.heap.size := Nat.ne_of_lt k8.lt
 have l19 := hB.size
 replace h1 := h1.more b15 (Nat.le_refl _)
 replace h2 := h2.more b15 (Nat.le_refl _)
 replace h3 := h3.more b15 (Nat.le_refl _)
 replace k3 := k3.below b15
 replace k8 := k8.below b15
 replace hB := below_then hB b15
 replace hL := LL.more hL z16
 refine Ge (dx_alloc rfl ty_zero_30 rfl) rfl rfl ?_
 rintro _ W20 ⟨rfl, k21, b22, z23⟩
 have n24 : w.heap.size ≠ W13.heap.size := Nat.ne_of_lt k3.lt
 have n25 : W2.heap.size ≠ W13.heap.size := Nat.ne_of_lt k8.lt
 have n26 : W7.heap.size ≠ W13.heap.size := Nat.ne_of_lt k14.lt
 have l27 := hB.size
 replace h1 := h1.more b22 (Nat.le_refl _)
 replace h2 := h2.more b22 (Nat.le_refl _)
 replace h3 := h3.more b22 (Nat.le_refl _)
 replace k3 := k3.below b22
 replace k8 := k8.below b22
 replace k14 := k14.below b22
 replace hB := below_then hB b22
 replace hL := LL.more hL z23
 refine Pu rfl (Ni (hK1 (Sq fun K28 hK28 => (Sq fun K29 hK29 => (Rg (Va (dx_loadN rfl ty_agg_25_4 rfl k3.range rfl) rfl rfl ?_))))))
 refine Ge (dx_cv rfl Tryd.func32 rfl rfl rfl (check_v secs loose fuse down _ _ W20 _ hL h1 h2)) rfl rfl ?_
 rintro _ W31 ⟨rfl, b30⟩
 replace h1 := h1.below b30
 replace h2 := h2.below b30
 replace h3 := h3.below b30
 replace k3 := k3.below b30
 replace k8 := k8.below b30
 replace k14 := k14.below b30
 replace k21 := k21.below b30
 replace hB := below_then hB b30
 replace hL := LL.below hL b30
 refine Pu rfl (Ni (hK29 (Sq fun K32 hK32 => (Rg (Pu rfl (Va (dx_neq rfl rfl rfl) rfl rfl (Ni ?_)))))))
 refine hK32 ?_
 refine WC.cond rfl (fun c33 => ?_) (fun c33 => ?_)
 ·
  replace c33 := bnot_t c33
  replace c33 := dF c33
  refine Sq fun K34 hK34 => ?_
  refine WC.drawC 5 [(3, W7.heap.size, [.slice none 0 0, .slice none 0 0, .int .i64 0, .bool false], fun cs_ _ => cs_ = [s1, s2, .int .i64 fuse, .bool down]), (4, W13.heap.size, [.int .i64 0, .int .i64 0, .int .i64 0], fun cs_ _ => cs_ = [.int .i64 half, .int .i64 gen, .int .i64 used])] [(some 20, .is (.agg #[s1, s2, .int .i64 fuse, .bool down])), (some 21, .is (.agg #[.int .i64 half, .int .i64 gen, .int .i64 used])), (some 22, .is (.int .i64 (checkD secs loose down))), (none, .by fun _ _ => True), (none, .by fun _ _ => True)] [[], [], [], [0, 0], [1, 3, 0, 1, 3]] ⟨fun _ _ _ _ h => h, fun _ _ _ _ h => h, trivial⟩ (fun e he => by simp only [List.mem_cons, List.not_mem_nil, or_false] at he; rcases he with rfl | rfl; exact ⟨fun _ _ _ _ h => h, fun _ _ _ _ h => h, trivial⟩; exact ⟨fun _ _ _ _ h => h, fun _ _ _ _ h => h, trivial⟩) ⟨fun x hx => (by simp only [List.mem_cons, List.not_mem_nil, or_false] at hx; subst hx; exact ⟨(show ¬ ((4 : Nat) = 3) by decide), n26.symm⟩), ⟨fun x hx => (by cases hx), trivial⟩⟩ (monQ_nil (fun e he => by simp only [List.mem_cons, List.not_mem_nil, or_false] at he; rcases he with rfl | rfl; exact ⟨_, rfl⟩; exact ⟨_, rfl⟩)) (fun e he => by simp only [List.mem_cons, List.not_mem_nil, or_false] at he; rcases he with rfl | rfl; exact k14; exact k21) ?_ ?_
  ·
   refine DStepsC.cons rfl (fun Wd hd hbs_ => ?_) ?_
   ·
    have k3 := k3.chgM hd (by simp only [List.map_cons, List.map_nil, List.mem_cons, List.not_mem_nil, or_false, not_or]; exact ⟨n17, n24⟩)
    exact Dd (dx_loadN rfl ty_agg_25_4 rfl k3.range rfl) rfl
   refine DStepsC.cons rfl (fun Wd hd hbs_ => ?_) ?_
   ·
    have k8 := k8.chgM hd (by simp only [List.map_cons, List.map_nil, List.mem_cons, List.not_mem_nil, or_false, not_or]; exact ⟨n18, n25⟩)
    exact Dd (dx_loadN rfl ty_agg_30_3 rfl k8.range rfl) rfl
   refine DStepsC.cons rfl (fun Wd hd hbs_ => ?_) ?_
   ·
    exact Dd (dx_move rfl rfl) rfl
   refine DStepsC.hit rfl (fun Wd hd hb_ => ?_) ?_
   ·
    have h1 := h1.chgM hd (fun C hC => by simp only [List.map_cons, List.map_nil, List.mem_cons, List.not_mem_nil, or_false] at hC; rcases hC with rfl | rfl; exact (.tail _ (.head _)); exact (.head _))
    have h2 := h2.chgM hd (fun C hC => by simp only [List.map_cons, List.map_nil, List.mem_cons, List.not_mem_nil, or_false] at hC; rcases hC with rfl | rfl; exact (.tail _ (.head _)); exact (.head _))
    exact (dx_storeW (vs := [s1, s2, .int .i64 fuse, .bool down]) rfl ty_size_25_4 rfl rfl rfl (oC h1.one (oC h2.one (oC rfl (oC rfl oc_nil)))) hb_ rfl rfl).mono (fun _ W' h => ⟨h.2, QBlk.is h.1, trivial⟩)
   refine DStepsC.hit rfl (fun Wd hd hb_ => ?_) ?_
   ·
    intro u3_3 p3_3 u3_3 p3_3
    exact (dx_storeW (vs := [.int .i64 half, .int .i64 gen, .int .i64 used]) rfl ty_size_30_3 rfl rfl rfl (oC rfl (oC rfl (oC rfl oc_nil))) hb_ rfl rfl).mono (fun _ W' h => ⟨h.2, QBlk.is h.1, trivial⟩)
   exact trivial
  ·
   intro W35 hd hq_
   replace h1 := h1.chgM hd (fun C hC => by simp only [List.map_cons, List.map_nil, List.mem_cons, List.not_mem_nil, or_false] at hC; rcases hC with rfl | rfl; exact (.tail _ (.head _)); exact (.head _))
   replace h2 := h2.chgM hd (fun C hC => by simp only [List.map_cons, List.map_nil, List.mem_cons, List.not_mem_nil, or_false] at hC; rcases hC with rfl | rfl; exact (.tail _ (.head _)); exact (.head _))
   replace h3 := h3.chgM hd (fun C hC => by simp only [List.map_cons, List.map_nil, List.mem_cons, List.not_mem_nil, or_false] at hC; rcases hC with rfl | rfl; exact (.tail _ (.head _)); exact (.head _))
   replace k3 := k3.chgM hd (by simp only [List.map_cons, List.map_nil, List.mem_cons, List.not_mem_nil, or_false, not_or]; exact ⟨n17, n24⟩)
   replace k8 := k8.chgM hd (by simp only [List.map_cons, List.map_nil, List.mem_cons, List.not_mem_nil, or_false, not_or]; exact ⟨n18, n25⟩)
   have k36 := hq_ _ (.head _)
   replace k36 := QBlk.blk k36
   have k37 := hq_ _ (.tail _ (.head _))
   replace k37 := QBlk.blk k37
   replace hB := hd.toBelow hB (fun C hC => by simp only [List.map_cons, List.map_nil, List.mem_cons, List.not_mem_nil, or_false] at hC; rcases hC with rfl | rfl; exact l19; exact l27)
   replace hL := hL.chgM hd
   intro _ _
   intro _ _
   refine Pu rfl (Ni (hK34 ?_))
   exact WC.ret fun a_ ha_ => hQ (cv_ret3 rfl (.agg rfl ty_agg_25_4 k36.range rfl) (.agg rfl ty_agg_30_3 k37.range rfl) (.tmp rfl) (by rw [appendD_c (by first | assumption | omega)]; exact ⟨_, _, rfl, (h1.less (fun x hx => (.tail _ (.tail _ (.tail _ (.tail _ hx)))))), (h2.less (fun x hx => (.tail _ (.tail _ (.tail _ (.tail _ hx))))))⟩) hB ha_)
 ·
  replace c33 := bnot_f c33
  replace c33 := dT c33
  refine WC.skip (hK28 (Sq fun K38 hK38 => (Sq fun K39 hK39 => ?_)))
  obtain ⟨hr1, hr2, hr3, hr4⟩ := check_ok (secs := secs) (loose := loose) (down := down) (by first | assumption | omega)
  refine Rg (Va (dx_loadN rfl ty_agg_25_4 rfl k3.range rfl) rfl rfl (Va (dx_loadN rfl ty_agg_30_3 rfl k8.range rfl) rfl rfl ?_))
  refine Ge (dx_cv rfl Tryd.func40 rfl rfl rfl (log_v secs loose fuse down _ _ half gen used W31 _ hL h1 h2 (by omega))) rfl rfl ?_
  rintro _ W41 ⟨rfl, b40⟩
  replace h1 := h1.below b40
  replace h2 := h2.below b40
  replace h3 := h3.below b40
  replace k3 := k3.below b40
  replace k8 := k8.below b40
  replace k14 := k14.below b40
  replace k21 := k21.below b40
  replace hB := below_then hB b40
  replace hL := LL.below hL b40
  refine Pu rfl (Ni (hK39 (Sq fun K42 hK42 => (Rg (Pu rfl (Va (dx_neq rfl rfl rfl) rfl rfl (Ni ?_)))))))
  refine hK42 ?_
  refine WC.cond rfl (fun c43 => ?_) (fun c43 => ?_)
  ·
   replace c43 := bnot_t c43
   replace c43 := dF c43
   refine Sq fun K44 hK44 => ?_
   refine WC.drawC 5 [(3, W7.heap.size, [.slice none 0 0, .slice none 0 0, .int .i64 0, .bool false], fun cs_ _ => cs_ = [s1, s2, .int .i64 fuse, .bool down]), (4, W13.heap.size, [.int .i64 0, .int .i64 0, .int .i64 0], fun cs_ _ => cs_ = [.int .i64 half, .int .i64 gen, .int .i64 used])] [(some 28, .is (.agg #[s1, s2, .int .i64 fuse, .bool down])), (some 29, .is (.agg #[.int .i64 half, .int .i64 gen, .int .i64 used])), (some 30, .is (.int .i64 (logD (secs.length : Int) half gen used))), (none, .by fun _ _ => True), (none, .by fun _ _ => True)] [[], [], [], [0, 0], [1, 3, 0, 1, 3]] ⟨fun _ _ _ _ h => h, fun _ _ _ _ h => h, trivial⟩ (fun e he => by simp only [List.mem_cons, List.not_mem_nil, or_false] at he; rcases he with rfl | rfl; exact ⟨fun _ _ _ _ h => h, fun _ _ _ _ h => h, trivial⟩; exact ⟨fun _ _ _ _ h => h, fun _ _ _ _ h => h, trivial⟩) ⟨fun x hx => (by simp only [List.mem_cons, List.not_mem_nil, or_false] at hx; subst hx; exact ⟨(show ¬ ((4 : Nat) = 3) by decide), n26.symm⟩), ⟨fun x hx => (by cases hx), trivial⟩⟩ (monQ_nil (fun e he => by simp only [List.mem_cons, List.not_mem_nil, or_false] at he; rcases he with rfl | rfl; exact ⟨_, rfl⟩; exact ⟨_, rfl⟩)) (fun e he => by simp only [List.mem_cons, List.not_mem_nil, or_false] at he; rcases he with rfl | rfl; exact k14; exact k21) ?_ ?_
   ·
    refine DStepsC.cons rfl (fun Wd hd hbs_ => ?_) ?_
    ·
     have k3 := k3.chgM hd (by simp only [List.map_cons, List.map_nil, List.mem_cons, List.not_mem_nil, or_false, not_or]; exact ⟨n17, n24⟩)
     exact Dd (dx_loadN rfl ty_agg_25_4 rfl k3.range rfl) rfl
    refine DStepsC.cons rfl (fun Wd hd hbs_ => ?_) ?_
    ·
     have k8 := k8.chgM hd (by simp only [List.map_cons, List.map_nil, List.mem_cons, List.not_mem_nil, or_false, not_or]; exact ⟨n18, n25⟩)
     exact Dd (dx_loadN rfl ty_agg_30_3 rfl k8.range rfl) rfl
    refine DStepsC.cons rfl (fun Wd hd hbs_ => ?_) ?_
    ·
     exact Dd (dx_move rfl rfl) rfl
    refine DStepsC.hit rfl (fun Wd hd hb_ => ?_) ?_
    ·
     have h1 := h1.chgM hd (fun C hC => by simp only [List.map_cons, List.map_nil, List.mem_cons, List.not_mem_nil, or_false] at hC; rcases hC with rfl | rfl; exact (.tail _ (.head _)); exact (.head _))
     have h2 := h2.chgM hd (fun C hC => by simp only [List.map_cons, List.map_nil, List.mem_cons, List.not_mem_nil, or_false] at hC; rcases hC with rfl | rfl; exact (.tail _ (.head _)); exact (.head _))
     exact (dx_storeW (vs := [s1, s2, .int .i64 fuse, .bool down]) rfl ty_size_25_4 rfl rfl rfl (oC h1.one (oC h2.one (oC rfl (oC rfl oc_nil)))) hb_ rfl rfl).mono (fun _ W' h => ⟨h.2, QBlk.is h.1, trivial⟩)
    refine DStepsC.hit rfl (fun Wd hd hb_ => ?_) ?_
    ·
     intro u6_3 p6_3 u6_3 p6_3
     exact (dx_storeW (vs := [.int .i64 half, .int .i64 gen, .int .i64 used]) rfl ty_size_30_3 rfl rfl rfl (oC rfl (oC rfl (oC rfl oc_nil))) hb_ rfl rfl).mono (fun _ W' h => ⟨h.2, QBlk.is h.1, trivial⟩)
    exact trivial
   ·
    intro W45 hd hq_
    replace h1 := h1.chgM hd (fun C hC => by simp only [List.map_cons, List.map_nil, List.mem_cons, List.not_mem_nil, or_false] at hC; rcases hC with rfl | rfl; exact (.tail _ (.head _)); exact (.head _))
    replace h2 := h2.chgM hd (fun C hC => by simp only [List.map_cons, List.map_nil, List.mem_cons, List.not_mem_nil, or_false] at hC; rcases hC with rfl | rfl; exact (.tail _ (.head _)); exact (.head _))
    replace h3 := h3.chgM hd (fun C hC => by simp only [List.map_cons, List.map_nil, List.mem_cons, List.not_mem_nil, or_false] at hC; rcases hC with rfl | rfl; exact (.tail _ (.head _)); exact (.head _))
    replace k3 := k3.chgM hd (by simp only [List.map_cons, List.map_nil, List.mem_cons, List.not_mem_nil, or_false, not_or]; exact ⟨n17, n24⟩)
    replace k8 := k8.chgM hd (by simp only [List.map_cons, List.map_nil, List.mem_cons, List.not_mem_nil, or_false, not_or]; exact ⟨n18, n25⟩)
    have k46 := hq_ _ (.head _)
    replace k46 := QBlk.blk k46
    have k47 := hq_ _ (.tail _ (.head _))
    replace k47 := QBlk.blk k47
    replace hB := hd.toBelow hB (fun C hC => by simp only [List.map_cons, List.map_nil, List.mem_cons, List.not_mem_nil, or_false] at hC; rcases hC with rfl | rfl; exact l19; exact l27)
    replace hL := hL.chgM hd
    intro _ _
    intro _ _
    refine Pu rfl (Ni (hK44 ?_))
    exact WC.ret fun a_ ha_ => hQ (cv_ret3 rfl (.agg rfl ty_agg_25_4 k46.range rfl) (.agg rfl ty_agg_30_3 k47.range rfl) (.tmp rfl) (by rw [appendD_l (by first | assumption | omega) (by first | assumption | omega)]; exact ⟨_, _, rfl, (h1.less (fun x hx => (.tail _ (.tail _ (.tail _ (.tail _ hx)))))), (h2.less (fun x hx => (.tail _ (.tail _ (.tail _ (.tail _ hx))))))⟩) hB ha_)
  ·
   replace c43 := bnot_f c43
   replace c43 := dT c43
   refine WC.skip (hK38 (Sq fun K48 hK48 => (Sq fun K49 hK49 => ?_)))
   obtain ⟨hl1, hl2, hl3, hl4, hl5⟩ := log_ok (n := (secs.length : Int)) (half := half) (gen := gen) (used := used) (by first | assumption | omega)
   refine Rg (Pu rfl (Va (dv_eJ (dx_lenB rfl ty_slice_40 rfl h3) (show _ = Value.int .i64 (rec.length : Int) by rw [List.length_map])) rfl rfl (Va (dx_gtr rfl rfl rfl) rfl rfl (Ni (hK49 ?_)))))
   refine WC.cond rfl (fun c50 => ?_) (fun c50 => ?_)
   ·
    replace c50 := dT c50
    refine Sq fun K51 hK51 => ?_
    refine WC.drawC 3 [(2, W7.heap.size, [.slice none 0 0, .slice none 0 0, .int .i64 0, .bool false], fun cs_ _ => cs_ = [s1, s2, .int .i64 fuse, .bool down])] [(some 34, .is (.agg #[s1, s2, .int .i64 fuse, .bool down])), (some 35, .is (.agg #[.int .i64 half, .int .i64 gen, .int .i64 used])), (none, .by fun _ _ => True)] [[], [], [0, 0]] ⟨fun _ _ _ _ h => h, trivial⟩ (fun e he => by simp only [List.mem_cons, List.not_mem_nil, or_false] at he; subst he; exact ⟨fun _ _ _ _ h => h, trivial⟩) ⟨fun x hx => (by cases hx), trivial⟩ (monQ_nil (fun e he => by simp only [List.mem_cons, List.not_mem_nil, or_false] at he; subst he; exact ⟨_, rfl⟩)) (fun e he => by simp only [List.mem_cons, List.not_mem_nil, or_false] at he; subst he; exact k14) ?_ ?_
    ·
     refine DStepsC.cons rfl (fun Wd hd hbs_ => ?_) ?_
     ·
      have k3 := k3.chgM hd (by simp only [List.map_cons, List.map_nil, List.mem_cons, List.not_mem_nil, or_false, not_or]; exact n17)
      exact Dd (dx_loadN rfl ty_agg_25_4 rfl k3.range rfl) rfl
     refine DStepsC.cons rfl (fun Wd hd hbs_ => ?_) ?_
     ·
      have k8 := k8.chgM hd (by simp only [List.map_cons, List.map_nil, List.mem_cons, List.not_mem_nil, or_false, not_or]; exact n18)
      exact Dd (dx_loadN rfl ty_agg_30_3 rfl k8.range rfl) rfl
     refine DStepsC.hit rfl (fun Wd hd hb_ => ?_) ?_
     ·
      have h1 := h1.chgM hd (fun C hC => by simp only [List.map_cons, List.map_nil, List.mem_cons, List.not_mem_nil, or_false] at hC; subst hC; exact (.tail _ (.head _)))
      have h2 := h2.chgM hd (fun C hC => by simp only [List.map_cons, List.map_nil, List.mem_cons, List.not_mem_nil, or_false] at hC; subst hC; exact (.tail _ (.head _)))
      exact (dx_storeW (vs := [s1, s2, .int .i64 fuse, .bool down]) rfl ty_size_25_4 rfl rfl rfl (oC h1.one (oC h2.one (oC rfl (oC rfl oc_nil)))) hb_ rfl rfl).mono (fun _ W' h => ⟨h.2, QBlk.is h.1, trivial⟩)
     exact trivial
    ·
     intro W52 hd hq_
     replace h1 := h1.chgM hd (fun C hC => by simp only [List.map_cons, List.map_nil, List.mem_cons, List.not_mem_nil, or_false] at hC; subst hC; exact (.tail _ (.head _)))
     replace h2 := h2.chgM hd (fun C hC => by simp only [List.map_cons, List.map_nil, List.mem_cons, List.not_mem_nil, or_false] at hC; subst hC; exact (.tail _ (.head _)))
     replace h3 := h3.chgM hd (fun C hC => by simp only [List.map_cons, List.map_nil, List.mem_cons, List.not_mem_nil, or_false] at hC; subst hC; exact (.tail _ (.head _)))
     replace k3 := k3.chgM hd (by simp only [List.map_cons, List.map_nil, List.mem_cons, List.not_mem_nil, or_false, not_or]; exact n17)
     replace k8 := k8.chgM hd (by simp only [List.map_cons, List.map_nil, List.mem_cons, List.not_mem_nil, or_false, not_or]; exact n18)
     replace k21 := k21.chgM hd (by simp only [List.map_cons, List.map_nil, List.mem_cons, List.not_mem_nil, or_false, not_or]; exact n26.symm)
     have k53 := hq_ _ (.head _)
     replace k53 := QBlk.blk k53
     replace hB := hd.toBelow hB (fun C hC => by simp only [List.map_cons, List.map_nil, List.mem_cons, List.not_mem_nil, or_false] at hC; subst hC; exact l19)
     replace hL := hL.chgM hd
     intro _ _
     refine WL.do (dx_store (cs' := [.int .i64 half, .int .i64 gen, .int .i64 used]) (vs := [.int .i64 half, .int .i64 gen, .int .i64 used]) rfl ty_size_30_3 rfl rfl rfl (oC rfl (oC rfl (oC rfl oc_nil))) k21 rfl (nB rfl) rfl) rfl ?_
     rintro _ W54 ⟨k56, o55⟩
     replace k53 := k53.other o55 n26
     clear k21
     replace h1 := h1.only o55 (.head _)
     replace h2 := h2.only o55 (.head _)
     replace hB := o55.below hB l27
     refine Pu rfl (Ni (hK51 ?_))
     exact WC.ret fun a_ ha_ => hQ (cv_ret3 rfl (.agg rfl ty_agg_25_4 k53.range rfl) (.agg rfl ty_agg_30_3 k56.range rfl) (.tmp rfl) (by rw [appendD_g (by first | assumption | omega) (by first | assumption | omega) (by first | assumption | omega)]; exact ⟨_, _, rfl, (h1.less (fun x hx => (.tail _ (.tail _ (.tail _ (.tail _ hx)))))), (h2.less (fun x hx => (.tail _ (.tail _ (.tail _ (.tail _ hx))))))⟩) hB ha_)
   ·
    replace c50 := dF c50
    refine WC.skip (hK48 (Sq fun K57 hK57 => (Rg (Va (dx_loadN rfl ty_agg_25_4 rfl k3.range rfl) rfl rfl (Va (dx_fld (o1 := 0) rfl ty_fld_30_0_0 rfl rfl) rfl rfl (Va (dx_load rfl ty_one_3 rfl (k8.cell (k := 0) rfl)) rfl rfl ?_))))))
    refine Ge (dx_cv rfl Tryd.func38 rfl rfl rfl (halfOf_v secs loose fuse down _ _ half W41 _ hL h1 h2 hl1 (by omega))) rfl rfl ?_
    rintro _ W59 ⟨rfl, b58⟩
    replace h1 := h1.below b58
    replace h2 := h2.below b58
    replace h3 := h3.below b58
    replace k3 := k3.below b58
    replace k8 := k8.below b58
    replace k14 := k14.below b58
    replace k21 := k21.below b58
    replace hB := below_then hB b58
    replace hL := LL.below hL b58
    refine Va (dx_build rfl rfl (bld_writer _ _ _ _ _ _)) rfl rfl ?_
    refine Ge (dx_box rfl rfl rfl) rfl rfl ?_
    rintro _ W60 ⟨rfl, k61, b62, z63⟩
    have n64 : w.heap.size ≠ W59.heap.size := Nat.ne_of_lt k3.lt
    have n65 : W2.heap.size ≠ W59.heap.size := Nat.ne_of_lt k8.lt
    have n66 : W7.heap.size ≠ W59.heap.size := Nat.ne_of_lt k14.lt
    have n67 : W13.heap.size ≠ W59.heap.size := Nat.ne_of_lt k21.lt
    have l68 := hB.size
    replace h1 := h1.more b62 (Nat.le_refl _)
    replace h2 := h2.more b62 (Nat.le_refl _)
    replace h3 := h3.more b62 (Nat.le_refl _)
    replace k3 := k3.below b62
    replace k8 := k8.below b62
    replace k14 := k14.below b62
    replace k21 := k21.below b62
    replace hB := below_then hB b62
    replace hL := LL.more hL z63
    refine Pu rfl (Ni (hK57 (Sq fun K69 hK69 => (Sq fun K70 hK70 => ?_))))
    have hsd := sizeD_le (rec.length : Int)
    have hhf : 0 ≤ (half * ((secs.length : Int) / 2)) ∧ (half * ((secs.length : Int) / 2)) ≤ 100000 := by rcases hl1 with h_ | h_ <;> rw [h_] <;> omega
    refine dM 11 [(some 42, .is (.pointer (some ⟨W2.heap.size, 2, none⟩))), (some 43, .is (.int .i64 used)), (some 44, .is (rv)), (some 45, .is (.int .i64 (rec.length : Int))), (some 46, .is (.int .i64 (sizeD (rec.length : Int)))), (some 47, .is (.int .i64 (used + (sizeD (rec.length : Int))))), (some 48, .is (.pointer (some ⟨W59.heap.size, 0, none⟩))), (some 49, .is (.pointer (some ⟨W59.heap.size, 0, none⟩))), (some 50, .is (.pointer (some ⟨W59.heap.size, 0, none⟩))), (some 51, .is (.pointer (some ⟨W59.heap.size, 5, none⟩))), (some 52, .is (.int .i64 ((secs.length : Int) / 2)))] [[], [0], [], [2], [3], [1, 4], [], [6], [7], [8], [9]] (by exact trivial) ?_ ?_
    ·
     refine Dc (fun Wd hd => ?_) ?_
     ·
      exact Dd (dx_fld (o1 := 2) rfl ty_fld_30_2_2 rfl rfl) rfl
     refine Dc (fun Wd hd => ?_) ?_
     ·
      have k8 := k8.below hd
      exact Dd (dx_load rfl ty_one_3 rfl (k8.cell (k := 2) rfl)) rfl
     refine Dc (fun Wd hd => ?_) ?_
     ·
      exact Dd (dx_move rfl rfl) rfl
     refine Dc (fun Wd hd => ?_) ?_
     ·
      have h3 := h3.below hd
      exact Dd (dv_eJ (dx_lenB rfl ty_slice_40 rfl h3) (show _ = Value.int .i64 (rec.length : Int) by rw [List.length_map])) rfl
     refine Dc (fun Wd hd => ?_) ?_
     ·
      exact DR.mono (dx_cv rfl Tryd.func22 rfl rfl rfl (size_v (rec.length : Int) Wd [] (LL.nil _) (by omega))) (fun v W' ⟨h, hb⟩ => ⟨hb, (by rw [h]; exact rfl)⟩)
     refine Dc (fun Wd hd => ?_) ?_
     ·
      exact Dd (dx_add (r := used + (sizeD (rec.length : Int))) rfl rfl rfl (wrap64_id (by omega))) rfl
     refine Dc (fun Wd hd => ?_) ?_
     ·
      exact Dd (dx_move rfl rfl) rfl
     refine Dc (fun Wd hd => ?_) ?_
     ·
      exact Dd (dx_nilCheck rfl rfl) rfl
     refine Dc (fun Wd hd => ?_) ?_
     ·
      exact Dd (dx_fld (o1 := 0) rfl ty_fld_81_0_0 rfl rfl) rfl
     refine Dc (fun Wd hd => ?_) ?_
     ·
      exact Dd (dx_fld (o1 := 5) rfl ty_fld_71_2_5 rfl rfl) rfl
     refine Dc (fun Wd hd => ?_) ?_
     ·
      have k61 := k61.below hd
      exact Dd (dx_load rfl ty_one_3 rfl (k61.cell (k := 5) rfl)) rfl
     exact trivial
    ·
     intro W71 b72
     replace h1 := h1.below b72
     replace h2 := h2.below b72
     replace h3 := h3.below b72
     replace k3 := k3.below b72
     replace k8 := k8.below b72
     replace k14 := k14.below b72
     replace k21 := k21.below b72
     replace k61 := k61.below b72
     replace hB := below_then hB b72
     replace hL := LL.below hL b72
     refine Va (dx_gtr rfl rfl rfl) rfl rfl (Ni (hK70 ?_))
     refine WC.cond rfl (fun c73 => ?_) (fun c73 => ?_)
     ·
      replace c73 := dT c73
      refine Sq fun K74 hK74 => ?_
      refine WC.drawC 3 [(2, W7.heap.size, [.slice none 0 0, .slice none 0 0, .int .i64 0, .bool false], fun cs_ _ => cs_ = [s1, s2, .int .i64 fuse, .bool down])] [(some 54, .is (.agg #[s1, s2, .int .i64 fuse, .bool down])), (some 55, .is (.agg #[.int .i64 half, .int .i64 gen, .int .i64 used])), (none, .by fun _ _ => True)] [[], [], [0, 0]] ⟨fun _ _ _ _ h => h, trivial⟩ (fun e he => by simp only [List.mem_cons, List.not_mem_nil, or_false] at he; subst he; exact ⟨fun _ _ _ _ h => h, trivial⟩) ⟨fun x hx => (by cases hx), trivial⟩ (monQ_nil (fun e he => by simp only [List.mem_cons, List.not_mem_nil, or_false] at he; subst he; exact ⟨_, rfl⟩)) (fun e he => by simp only [List.mem_cons, List.not_mem_nil, or_false] at he; subst he; exact k14) ?_ ?_
      ·
       refine DStepsC.cons rfl (fun Wd hd hbs_ => ?_) ?_
       ·
        have k3 := k3.chgM hd (by simp only [List.map_cons, List.map_nil, List.mem_cons, List.not_mem_nil, or_false, not_or]; exact n17)
        exact Dd (dx_loadN rfl ty_agg_25_4 rfl k3.range rfl) rfl
       refine DStepsC.cons rfl (fun Wd hd hbs_ => ?_) ?_
       ·
        have k8 := k8.chgM hd (by simp only [List.map_cons, List.map_nil, List.mem_cons, List.not_mem_nil, or_false, not_or]; exact n18)
        exact Dd (dx_loadN rfl ty_agg_30_3 rfl k8.range rfl) rfl
       refine DStepsC.hit rfl (fun Wd hd hb_ => ?_) ?_
       ·
        have h1 := h1.chgM hd (fun C hC => by simp only [List.map_cons, List.map_nil, List.mem_cons, List.not_mem_nil, or_false] at hC; subst hC; exact (.tail _ (.tail _ (.head _))))
        have h2 := h2.chgM hd (fun C hC => by simp only [List.map_cons, List.map_nil, List.mem_cons, List.not_mem_nil, or_false] at hC; subst hC; exact (.tail _ (.tail _ (.head _))))
        exact (dx_storeW (vs := [s1, s2, .int .i64 fuse, .bool down]) rfl ty_size_25_4 rfl rfl rfl (oC h1.one (oC h2.one (oC rfl (oC rfl oc_nil)))) hb_ rfl rfl).mono (fun _ W' h => ⟨h.2, QBlk.is h.1, trivial⟩)
       exact trivial
      ·
       intro W75 hd hq_
       replace h1 := h1.chgM hd (fun C hC => by simp only [List.map_cons, List.map_nil, List.mem_cons, List.not_mem_nil, or_false] at hC; subst hC; exact (.tail _ (.tail _ (.head _))))
       replace h2 := h2.chgM hd (fun C hC => by simp only [List.map_cons, List.map_nil, List.mem_cons, List.not_mem_nil, or_false] at hC; subst hC; exact (.tail _ (.tail _ (.head _))))
       replace h3 := h3.chgM hd (fun C hC => by simp only [List.map_cons, List.map_nil, List.mem_cons, List.not_mem_nil, or_false] at hC; subst hC; exact (.tail _ (.tail _ (.head _))))
       replace k3 := k3.chgM hd (by simp only [List.map_cons, List.map_nil, List.mem_cons, List.not_mem_nil, or_false, not_or]; exact n17)
       replace k8 := k8.chgM hd (by simp only [List.map_cons, List.map_nil, List.mem_cons, List.not_mem_nil, or_false, not_or]; exact n18)
       replace k21 := k21.chgM hd (by simp only [List.map_cons, List.map_nil, List.mem_cons, List.not_mem_nil, or_false, not_or]; exact n26.symm)
       replace k61 := k61.chgM hd (by simp only [List.map_cons, List.map_nil, List.mem_cons, List.not_mem_nil, or_false, not_or]; exact n66.symm)
       have k76 := hq_ _ (.head _)
       replace k76 := QBlk.blk k76
       replace hB := hd.toBelow hB (fun C hC => by simp only [List.map_cons, List.map_nil, List.mem_cons, List.not_mem_nil, or_false] at hC; subst hC; exact l19)
       replace hL := hL.chgM hd
       intro _ _
       refine WL.do (dx_store (cs' := [.int .i64 half, .int .i64 gen, .int .i64 used]) (vs := [.int .i64 half, .int .i64 gen, .int .i64 used]) rfl ty_size_30_3 rfl rfl rfl (oC rfl (oC rfl (oC rfl oc_nil))) k21 rfl (nB rfl) rfl) rfl ?_
       rintro _ W77 ⟨k79, o78⟩
       replace k76 := k76.other o78 n26
       clear k21
       replace h1 := h1.only o78 (.tail _ (.head _))
       replace h2 := h2.only o78 (.tail _ (.head _))
       replace hB := o78.below hB l27
       refine Pu rfl (Ni (hK74 ?_))
       exact WC.ret fun a_ ha_ => hQ (cv_ret3 rfl (.agg rfl ty_agg_25_4 k76.range rfl) (.agg rfl ty_agg_30_3 k79.range rfl) (.tmp rfl) (by rw [appendD_f (by first | assumption | omega) (by first | assumption | omega) (by first | assumption | omega) (by first | assumption | omega)]; exact ⟨_, _, rfl, (h1.less (fun x hx => (.tail _ (.tail _ (.tail _ (.tail _ (.tail _ hx))))))), (h2.less (fun x hx => (.tail _ (.tail _ (.tail _ (.tail _ (.tail _ hx)))))))⟩) hB ha_)
     ·
      replace c73 := dF c73
      refine WC.skip (hK69 (Sq fun K80 hK80 => (Sq fun K81 hK81 => ?_)))
      have h1w := h1
      have h2w := h2
      replace k61 : Blk W71 W59.heap.size (wrC s1 s2 (d0D secs loose fuse down) (half * ((secs.length : Int) / 2)) ((secs.length : Int) / 2)) := k61
      refine Rg (Va (dx_fld (o1 := 1) rfl ty_fld_30_1_1 rfl rfl) rfl rfl (Va (dx_load rfl ty_one_3 rfl (k8.cell (k := 1) rfl)) rfl rfl (Va (dx_fld (o1 := 2) rfl ty_fld_30_2_2 rfl rfl) rfl rfl (Va (dx_load rfl ty_one_3 rfl (k8.cell (k := 2) rfl)) rfl rfl (Pu rfl ?_)))))
      refine Ge (dx_cv rfl Tryd.func41 rfl rfl rfl (pages_v gen used rec rv W71 _ hL hL h3 (by omega) (by omega))) rfl rfl ?_
      rintro pv W83 ⟨⟨qs, h6, hqf, hqs⟩, b82⟩
      replace h1 := h1.below b82
      replace h2 := h2.below b82
      replace h3 := h3.below b82
      replace h1w := h1w.below b82
      replace h2w := h2w.below b82
      replace k3 := k3.below b82
      replace k8 := k8.below b82
      replace k14 := k14.below b82
      replace k21 := k21.below b82
      replace k61 := k61.below b82
      replace hB := below_then hB b82
      replace hL := LL.below hL b82
      refine Va (dx_lenM rfl ty_slice_82 rfl h6) rfl rfl (Pu rfl (Ni (hK81 (WC.block ?_))))
      have hql : qs.length = nPg rec := by rw [← pagesD_len (gen := gen) (fr := used), ← hqf, List.length_map]
      have hnp : (nPg rec : Int) = sizeD (rec.length : Int) := (sizeD_n (by omega)).symm
      have hfu0 : FuD (d0D secs loose fuse down) := hfu
      have j1 := h1w
      have j2 := h2w
      refine WC.loop4 (fun (j : Nat) (d : DO) (t1 : Value) (t2 : Value) => [(2, rv), (3, .pointer (some ⟨w.heap.size, 0, none⟩)), (4, .pointer (some ⟨W2.heap.size, 0, none⟩)), (6, .pointer (some ⟨W7.heap.size, 0, none⟩)), (7, .pointer (some ⟨W13.heap.size, 0, none⟩)), (8, .int .i64 0), (11, .pointer (some ⟨W59.heap.size, 0, none⟩)), (61, pv), (62, .int .i64 (qs.length : Int)), (63, .int .i64 (j : Int))]) (fun (j : Nat) (d : DO) (t1 : Value) (t2 : Value) W => j ≤ qs.length ∧ d = wrAll (d0D secs loose fuse down) (half * ((secs.length : Int) / 2)) ((qs.map Prod.fst).take j) ∧ FuD d ∧ Below w.heap.size w W ∧ LL (W59.heap.size :: W13.heap.size :: W7.heap.size :: W2.heap.size :: w.heap.size :: L) W ∧ RdF 128 (W59.heap.size :: W13.heap.size :: W7.heap.size :: W2.heap.size :: w.heap.size :: L) W s1 (secs.map encS) ∧ RdF 129 (W59.heap.size :: W13.heap.size :: W7.heap.size :: W2.heap.size :: w.heap.size :: L) W s2 (loose.map encW) ∧ RdF 1 (W59.heap.size :: W13.heap.size :: W7.heap.size :: W2.heap.size :: w.heap.size :: L) W rv (e8s rec) ∧ RdF 4 (W59.heap.size :: W13.heap.size :: W7.heap.size :: W2.heap.size :: w.heap.size :: L) W pv (qs.map encPg) ∧ RdQs (W59.heap.size :: W13.heap.size :: W7.heap.size :: W2.heap.size :: w.heap.size :: L) W qs ∧ RdF 128 (W59.heap.size :: W13.heap.size :: W7.heap.size :: W2.heap.size :: w.heap.size :: L) W t1 (d.secs.map encS) ∧ RdF 129 (W59.heap.size :: W13.heap.size :: W7.heap.size :: W2.heap.size :: w.heap.size :: L) W t2 (d.loose.map encW) ∧ Blk W w.heap.size [s1, s2, .int .i64 fuse, .bool down] ∧ Blk W W2.heap.size [.int .i64 half, .int .i64 gen, .int .i64 used] ∧ Blk W W7.heap.size [.slice none 0 0, .slice none 0 0, .int .i64 0, .bool false] ∧ Blk W W13.heap.size [.int .i64 0, .int .i64 0, .int .i64 0] ∧ Blk W W59.heap.size [t1, t2, .int .i64 d.fuse, .bool d.down, .int .i64 (half * ((secs.length : Int) / 2)), .int .i64 ((secs.length : Int) / 2), .int .i64 d.err]) (fun (j : Nat) (d : DO) (t1 : Value) (t2 : Value) => qs.length - j) 0 (d0D secs loose fuse down) s1 s2 (by repeat first | exact trivial | refine aR ?_ | refine aI (by omega) ?_) ⟨Nat.zero_le _, rfl, hfu0, hB, hL, h1, h2, h3, h6, hqs, j1, j2, k3, k8, k14, k21, k61⟩ ?_
      clear h1 h2 h3 h6 hqs j1 j2 k3 k8 k14 k21 k61 hB hL
      rintro K84 j d t1 t2 W85 ⟨hj, hd, hfd, hB, hL, h1, h2, h3, h6, hqs, j1, j2, k3, k8, k14, k21, k61⟩ hK84
      refine Sq fun K86 hK86 => (Rg (Va (dx_lss rfl rfl rfl) rfl rfl (Ni (hK86 (Sq fun K87 hK87 => ?_)))))
      refine WC.cond rfl (fun c88 => ?_) (fun c88 => ?_)
      ·
       replace c88 := dT c88
       refine WC.skip (hK87 (Sq fun K89 hK89 => (WC.block (Sq fun K90 hK90 => (Rg ?_)))))
       obtain ⟨r91, e92⟩ : ∃ x, qs[j]? = some x := ⟨_, List.getElem?_eq_getElem (by omega)⟩
       refine Ge (dx_idxF j rfl ty_slice_82 rfl rfl h6 (by omega) (at_map (enc := encPg) e92)) rfl rfl ?_
       rintro u93 _ ⟨rfl, p94⟩
       refine Va (dx_loadPN rfl ty_agg_85_4 rfl p94 rfl) rfl rfl ?_
       refine Ge (dx_alloc rfl ty_zero_85 rfl) rfl rfl ?_
       rintro _ W95 ⟨rfl, k96, b97, z98⟩
       have n99 : w.heap.size ≠ W85.heap.size := Nat.ne_of_lt k3.lt
       have n100 : W2.heap.size ≠ W85.heap.size := Nat.ne_of_lt k8.lt
       have n101 : W7.heap.size ≠ W85.heap.size := Nat.ne_of_lt k14.lt
       have n102 : W13.heap.size ≠ W85.heap.size := Nat.ne_of_lt k21.lt
       have n103 : W59.heap.size ≠ W85.heap.size := Nat.ne_of_lt k61.lt
       have l104 := hB.size
       replace h1 := h1.more b97 (Nat.le_refl _)
       replace h2 := h2.more b97 (Nat.le_refl _)
       replace h3 := h3.more b97 (Nat.le_refl _)
       replace h6 := h6.more b97 (Nat.le_refl _)
       replace hqs := hqs.more b97 (Nat.le_refl _)
       replace j1 := j1.more b97 (Nat.le_refl _)
       replace j2 := j2.more b97 (Nat.le_refl _)
       replace k3 := k3.below b97
       replace k8 := k8.below b97
       replace k14 := k14.below b97
       replace k21 := k21.below b97
       replace k61 := k61.below b97
       replace hB := below_then hB b97
       replace hL := LL.more hL z98
       refine WL.do (dx_store (cs' := [.int .i64 r91.1.gen, .int .i64 r91.1.idx, .int .i64 r91.1.mks, r91.2]) (vs := [.int .i64 r91.1.gen, .int .i64 r91.1.idx, .int .i64 r91.1.mks, r91.2]) rfl ty_size_85_4 rfl rfl rfl (oC rfl (oC rfl (oC rfl (oC (hqs r91 (List.mem_of_getElem? e92)).one oc_nil)))) k96 rfl (nB rfl) rfl) rfl ?_
       rintro _ W105 ⟨k107, o106⟩
       replace k3 := k3.other o106 n99
       replace k8 := k8.other o106 n100
       replace k14 := k14.other o106 n101
       replace k21 := k21.other o106 n102
       replace k61 := k61.other o106 n103
       clear k96
       replace h1 := h1.only o106 (.head _)
       replace h2 := h2.only o106 (.head _)
       replace h3 := h3.only o106 (.head _)
       replace h6 := h6.only o106 (.head _)
       replace hqs := hqs.only o106 (.head _)
       replace j1 := j1.only o106 (.head _)
       replace j2 := j2.only o106 (.head _)
       replace hB := o106.below hB l104
       replace hL := LL.only hL o106
       refine Ni (hK90 ?_)
       obtain ⟨hqi, hqk, hqd⟩ := pagesD_mem (gen := gen) (fr := used) (rec := rec) (k := j) (p := r91.1) (by rw [← hqf, List.getElem?_map, e92]; rfl)
       refine Rg (Pu rfl (Va (dx_loadN rfl ty_agg_85_4 rfl k107.range rfl) rfl rfl ?_))
       have j1o := j1
       have j2o := j2
       refine Ge (dx_cw rfl Tryd.func42 rfl rfl rfl (wr_v d r91.1 (half * ((secs.length : Int) / 2)) ((secs.length : Int) / 2) t1 t2 r91.2 W59.heap.size W105 _ hL (.tail _ (.head _)) k61 j1o j2o (hqs r91 (List.mem_of_getElem? e92)) hfd hhf (by rw [hqi]; omega) (by rw [hqd]; exact ch_byt hrb _) (by rw [hqd]; exact ch_len _ _) (fun {_} g => hT.below (g.toBelow hB l68)))) rfl rfl ?_
       rintro _ W113 ⟨⟨rfl, x108, x109, hp114, j110, j111⟩, g112⟩
       replace h1 := h1.chgL g112 (.tail _ (.head _))
       replace h2 := h2.chgL g112 (.tail _ (.head _))
       replace h3 := h3.chgL g112 (.tail _ (.head _))
       replace h6 := h6.chgL g112 (.tail _ (.head _))
       replace hqs := hqs.chgL g112 (.tail _ (.head _))
       replace k3 := k3.chg g112 n64
       replace k8 := k8.chg g112 n65
       replace k14 := k14.chg g112 n66
       replace k21 := k21.chg g112 n67
       replace hB := g112.toBelow hB l68
       replace hL := hL.chg g112
       clear j1o j2o
       refine Ni (hK89 (Rg (Va (dx_add (r := (j : Int) + 1) rfl rfl rfl (wrap64_id (by omega))) rfl rfl (Pu rfl (Ni ?_)))))
       replace hL := hL.less (fun x hx => (.tail _ hx))
       replace h1 := h1.less (fun x hx => (.tail _ hx))
       replace h2 := h2.less (fun x hx => (.tail _ hx))
       replace h3 := h3.less (fun x hx => (.tail _ hx))
       replace h6 := h6.less (fun x hx => (.tail _ hx))
       replace hqs := hqs.less (fun x hx => (.tail _ hx))
       replace j110 := j110.less (fun x hx => (.tail _ hx))
       replace j111 := j111.less (fun x hx => (.tail _ hx))
       exact hK84 (j + 1) (wrW d (half * ((secs.length : Int) / 2)) r91.1) x108 x109 ⟨(by omega), (by rw [hd]; exact (wrAll_add (by rw [List.getElem?_map, e92]; rfl)).symm), (wrW_fu hfd), hB, hL, h1, h2, h3, h6, hqs, j110, j111, k3, k8, k14, k21, hp114⟩ (by omega) (by repeat first | exact trivial | refine aR ?_ | refine aI (by omega) ?_)
      ·
       replace c88 := dF c88
       refine WC.exit ?_
       refine hK80 (Sq fun K115 hK115 => ?_)
       have hjq : j = qs.length := by omega
       have hdA : d = wrAll (d0D secs loose fuse down) (half * ((secs.length : Int) / 2)) (pagesD gen used rec) := by rw [hd, List.take_of_length_le (by rw [List.length_map]; omega), hqf]
       refine Rg (Pu rfl ?_)
       have j1o := j1
       have j2o := j2
       refine Ge (dx_cw rfl Tryd.func43 rfl rfl rfl (sy_v d (half * ((secs.length : Int) / 2)) ((secs.length : Int) / 2) t1 t2 W59.heap.size W85 _ hL (.head _) k61 j1o j2o hfd)) rfl rfl ?_
       rintro _ W121 ⟨⟨rfl, x116, x117, hp122, j118, j119⟩, g120⟩
       replace h1 := h1.chgL g120 (.head _)
       replace h2 := h2.chgL g120 (.head _)
       replace h3 := h3.chgL g120 (.head _)
       replace h6 := h6.chgL g120 (.head _)
       replace hqs := hqs.chgL g120 (.head _)
       replace k3 := k3.chg g120 n64
       replace k8 := k8.chg g120 n65
       replace k14 := k14.chg g120 n66
       replace k21 := k21.chg g120 n67
       replace hB := g120.toBelow hB l68
       replace hL := hL.chg g120
       clear j1o j2o
       refine Ni (hK115 (Sq fun K123 hK123 => (Rg (Pu rfl (Va (dx_loadN rfl ty_agg_25_4 rfl k3.range rfl) rfl rfl ?_)))))
       refine Ge (dx_cv rfl Tryd.func44 rfl rfl rfl (done_v (d0D secs loose fuse down) (wrS d) (half * ((secs.length : Int) / 2)) ((secs.length : Int) / 2) W59.heap.size s1 s2 x116 x117 W121 _ hL j118 j119 h1 h2 hp122)) rfl rfl ?_
       rintro _ W125 ⟨⟨a1, a2, rfl, g1, g2⟩, b124⟩
       replace h1 := h1.below b124
       replace h2 := h2.below b124
       replace h3 := h3.below b124
       replace h6 := h6.below b124
       replace hqs := hqs.below b124
       replace j118 := j118.below b124
       replace j119 := j119.below b124
       replace k3 := k3.below b124
       replace k8 := k8.below b124
       replace k14 := k14.below b124
       replace k21 := k21.below b124
       replace hp122 := hp122.below b124
       replace hB := below_then hB b124
       replace hL := LL.below hL b124
       refine Pu rfl (Pu rfl (Pu rfl ?_))
       refine Ge (dx_alloc rfl ty_zero_25 rfl) rfl rfl ?_
       rintro _ W126 ⟨rfl, k127, b128, z129⟩
       have n130 : w.heap.size ≠ W125.heap.size := Nat.ne_of_lt k3.lt
       have n131 : W2.heap.size ≠ W125.heap.size := Nat.ne_of_lt k8.lt
       have n132 : W7.heap.size ≠ W125.heap.size := Nat.ne_of_lt k14.lt
       have n133 : W13.heap.size ≠ W125.heap.size := Nat.ne_of_lt k21.lt
       have n134 : W59.heap.size ≠ W125.heap.size := Nat.ne_of_lt hp122.lt
       have l135 := hB.size
       replace h1 := h1.more b128 (Nat.le_refl _)
       replace h2 := h2.more b128 (Nat.le_refl _)
       replace h3 := h3.more b128 (Nat.le_refl _)
       replace h6 := h6.more b128 (Nat.le_refl _)
       replace hqs := hqs.more b128 (Nat.le_refl _)
       replace j118 := j118.more b128 (Nat.le_refl _)
       replace j119 := j119.more b128 (Nat.le_refl _)
       replace g1 := g1.more b128 (Nat.le_refl _)
       replace g2 := g2.more b128 (Nat.le_refl _)
       replace k3 := k3.below b128
       replace k8 := k8.below b128
       replace k14 := k14.below b128
       replace k21 := k21.below b128
       replace hp122 := hp122.below b128
       replace hB := below_then hB b128
       replace hL := LL.more hL z129
       refine WL.do (dx_store (cs' := [a1, a2, .int .i64 ((doneD (d0D secs loose fuse down) (wrS d)).fuse), .bool ((doneD (d0D secs loose fuse down) (wrS d)).down)]) (vs := [a1, a2, .int .i64 ((doneD (d0D secs loose fuse down) (wrS d)).fuse), .bool ((doneD (d0D secs loose fuse down) (wrS d)).down)]) rfl ty_size_25_4 rfl rfl rfl (oC g1.one (oC g2.one (oC rfl (oC rfl oc_nil)))) k127 rfl (nB rfl) rfl) rfl ?_
       rintro _ W136 ⟨k138, o137⟩
       replace k3 := k3.other o137 n130
       replace k8 := k8.other o137 n131
       replace k14 := k14.other o137 n132
       replace k21 := k21.other o137 n133
       replace hp122 := hp122.other o137 n134
       clear k127
       replace h1 := h1.only o137 (.head _)
       replace h2 := h2.only o137 (.head _)
       replace h3 := h3.only o137 (.head _)
       replace h6 := h6.only o137 (.head _)
       replace hqs := hqs.only o137 (.head _)
       replace j118 := j118.only o137 (.head _)
       replace j119 := j119.only o137 (.head _)
       replace g1 := g1.only o137 (.head _)
       replace g2 := g2.only o137 (.head _)
       replace hB := o137.below hB l135
       replace hL := LL.only hL o137
       refine Pu rfl (Ni (hK123 (Sq fun K139 hK139 => (Sq fun K140 hK140 => (Rg (Pu rfl (Va (dx_neq rfl rfl rfl) rfl rfl ?_)))))))
       refine Ni (hK140 ?_)
       refine WC.cond rfl (fun c141 => ?_) (fun c141 => ?_)
       ·
        replace c141 := bnot_t c141
        replace c141 := dF c141
        refine Sq fun K142 hK142 => ?_
        refine WC.drawC 5 [(3, W7.heap.size, [.slice none 0 0, .slice none 0 0, .int .i64 0, .bool false], fun cs_ _ => cs_ = [a1, a2, .int .i64 ((doneD (d0D secs loose fuse down) (wrS d)).fuse), .bool ((doneD (d0D secs loose fuse down) (wrS d)).down)]), (4, W13.heap.size, [.int .i64 0, .int .i64 0, .int .i64 0], fun cs_ _ => cs_ = [.int .i64 half, .int .i64 gen, .int .i64 used])] [(some 81, .is (.agg #[a1, a2, .int .i64 ((doneD (d0D secs loose fuse down) (wrS d)).fuse), .bool ((doneD (d0D secs loose fuse down) (wrS d)).down)])), (some 82, .is (.agg #[.int .i64 half, .int .i64 gen, .int .i64 used])), (some 83, .is (.int .i64 ((doneD (d0D secs loose fuse down) (wrS d)).err))), (none, .by fun _ _ => True), (none, .by fun _ _ => True)] [[], [], [], [0, 0], [1, 3, 0, 1, 3]] ⟨fun _ _ _ _ h => h, fun _ _ _ _ h => h, trivial⟩ (fun e he => by simp only [List.mem_cons, List.not_mem_nil, or_false] at he; rcases he with rfl | rfl; exact ⟨fun _ _ _ _ h => h, fun _ _ _ _ h => h, trivial⟩; exact ⟨fun _ _ _ _ h => h, fun _ _ _ _ h => h, trivial⟩) ⟨fun x hx => (by simp only [List.mem_cons, List.not_mem_nil, or_false] at hx; subst hx; exact ⟨(show ¬ ((4 : Nat) = 3) by decide), n26.symm⟩), ⟨fun x hx => (by cases hx), trivial⟩⟩ (monQ_nil (fun e he => by simp only [List.mem_cons, List.not_mem_nil, or_false] at he; rcases he with rfl | rfl; exact ⟨_, rfl⟩; exact ⟨_, rfl⟩)) (fun e he => by simp only [List.mem_cons, List.not_mem_nil, or_false] at he; rcases he with rfl | rfl; exact k14; exact k21) ?_ ?_
        ·
         refine DStepsC.cons rfl (fun Wd hd hbs_ => ?_) ?_
         ·
          have k138 := k138.chgM hd (by simp only [List.map_cons, List.map_nil, List.mem_cons, List.not_mem_nil, or_false, not_or]; exact ⟨n132.symm, n133.symm⟩)
          exact Dd (dx_loadN rfl ty_agg_25_4 rfl k138.range rfl) rfl
         refine DStepsC.cons rfl (fun Wd hd hbs_ => ?_) ?_
         ·
          have k8 := k8.chgM hd (by simp only [List.map_cons, List.map_nil, List.mem_cons, List.not_mem_nil, or_false, not_or]; exact ⟨n18, n25⟩)
          exact Dd (dx_loadN rfl ty_agg_30_3 rfl k8.range rfl) rfl
         refine DStepsC.cons rfl (fun Wd hd hbs_ => ?_) ?_
         ·
          exact Dd (dx_move rfl rfl) rfl
         refine DStepsC.hit rfl (fun Wd hd hb_ => ?_) ?_
         ·
          have g1 := g1.chgM hd (fun C hC => by simp only [List.map_cons, List.map_nil, List.mem_cons, List.not_mem_nil, or_false] at hC; rcases hC with rfl | rfl; exact (.tail _ (.tail _ (.tail _ (.head _)))); exact (.tail _ (.tail _ (.head _))))
          have g2 := g2.chgM hd (fun C hC => by simp only [List.map_cons, List.map_nil, List.mem_cons, List.not_mem_nil, or_false] at hC; rcases hC with rfl | rfl; exact (.tail _ (.tail _ (.tail _ (.head _)))); exact (.tail _ (.tail _ (.head _))))
          exact (dx_storeW (vs := [a1, a2, .int .i64 ((doneD (d0D secs loose fuse down) (wrS d)).fuse), .bool ((doneD (d0D secs loose fuse down) (wrS d)).down)]) rfl ty_size_25_4 rfl rfl rfl (oC g1.one (oC g2.one (oC rfl (oC rfl oc_nil)))) hb_ rfl rfl).mono (fun _ W' h => ⟨h.2, QBlk.is h.1, trivial⟩)
         refine DStepsC.hit rfl (fun Wd hd hb_ => ?_) ?_
         ·
          intro u20_3 p20_3 u20_3 p20_3
          exact (dx_storeW (vs := [.int .i64 half, .int .i64 gen, .int .i64 used]) rfl ty_size_30_3 rfl rfl rfl (oC rfl (oC rfl (oC rfl oc_nil))) hb_ rfl rfl).mono (fun _ W' h => ⟨h.2, QBlk.is h.1, trivial⟩)
         exact trivial
        ·
         intro W143 hd hq_
         replace h1 := h1.chgM hd (fun C hC => by simp only [List.map_cons, List.map_nil, List.mem_cons, List.not_mem_nil, or_false] at hC; rcases hC with rfl | rfl; exact (.tail _ (.tail _ (.tail _ (.head _)))); exact (.tail _ (.tail _ (.head _))))
         replace h2 := h2.chgM hd (fun C hC => by simp only [List.map_cons, List.map_nil, List.mem_cons, List.not_mem_nil, or_false] at hC; rcases hC with rfl | rfl; exact (.tail _ (.tail _ (.tail _ (.head _)))); exact (.tail _ (.tail _ (.head _))))
         replace h3 := h3.chgM hd (fun C hC => by simp only [List.map_cons, List.map_nil, List.mem_cons, List.not_mem_nil, or_false] at hC; rcases hC with rfl | rfl; exact (.tail _ (.tail _ (.tail _ (.head _)))); exact (.tail _ (.tail _ (.head _))))
         replace h6 := h6.chgM hd (fun C hC => by simp only [List.map_cons, List.map_nil, List.mem_cons, List.not_mem_nil, or_false] at hC; rcases hC with rfl | rfl; exact (.tail _ (.tail _ (.tail _ (.head _)))); exact (.tail _ (.tail _ (.head _))))
         replace hqs := hqs.chgM hd (fun C hC => by simp only [List.map_cons, List.map_nil, List.mem_cons, List.not_mem_nil, or_false] at hC; rcases hC with rfl | rfl; exact (.tail _ (.tail _ (.tail _ (.head _)))); exact (.tail _ (.tail _ (.head _))))
         replace j118 := j118.chgM hd (fun C hC => by simp only [List.map_cons, List.map_nil, List.mem_cons, List.not_mem_nil, or_false] at hC; rcases hC with rfl | rfl; exact (.tail _ (.tail _ (.tail _ (.head _)))); exact (.tail _ (.tail _ (.head _))))
         replace j119 := j119.chgM hd (fun C hC => by simp only [List.map_cons, List.map_nil, List.mem_cons, List.not_mem_nil, or_false] at hC; rcases hC with rfl | rfl; exact (.tail _ (.tail _ (.tail _ (.head _)))); exact (.tail _ (.tail _ (.head _))))
         replace g1 := g1.chgM hd (fun C hC => by simp only [List.map_cons, List.map_nil, List.mem_cons, List.not_mem_nil, or_false] at hC; rcases hC with rfl | rfl; exact (.tail _ (.tail _ (.tail _ (.head _)))); exact (.tail _ (.tail _ (.head _))))
         replace g2 := g2.chgM hd (fun C hC => by simp only [List.map_cons, List.map_nil, List.mem_cons, List.not_mem_nil, or_false] at hC; rcases hC with rfl | rfl; exact (.tail _ (.tail _ (.tail _ (.head _)))); exact (.tail _ (.tail _ (.head _))))
         replace k3 := k3.chgM hd (by simp only [List.map_cons, List.map_nil, List.mem_cons, List.not_mem_nil, or_false, not_or]; exact ⟨n17, n24⟩)
         replace k8 := k8.chgM hd (by simp only [List.map_cons, List.map_nil, List.mem_cons, List.not_mem_nil, or_false, not_or]; exact ⟨n18, n25⟩)
         replace hp122 := hp122.chgM hd (by simp only [List.map_cons, List.map_nil, List.mem_cons, List.not_mem_nil, or_false, not_or]; exact ⟨n66.symm, n67.symm⟩)
         replace k138 := k138.chgM hd (by simp only [List.map_cons, List.map_nil, List.mem_cons, List.not_mem_nil, or_false, not_or]; exact ⟨n132.symm, n133.symm⟩)
         have k144 := hq_ _ (.head _)
         replace k144 := QBlk.blk k144
         have k145 := hq_ _ (.tail _ (.head _))
         replace k145 := QBlk.blk k145
         replace hB := hd.toBelow hB (fun C hC => by simp only [List.map_cons, List.map_nil, List.mem_cons, List.not_mem_nil, or_false] at hC; rcases hC with rfl | rfl; exact l19; exact l27)
         replace hL := hL.chgM hd
         intro _ _
         intro _ _
         refine Pu rfl (Ni (hK142 ?_))
         exact WC.ret fun a_ ha_ => hQ (cv_ret3 rfl (.agg rfl ty_agg_25_4 k144.range rfl) (.agg rfl ty_agg_30_3 k145.range rfl) (.tmp rfl) (by rw [appendD_x (by first | assumption | omega) (by first | assumption | omega) (by first | assumption | omega) (by first | assumption | omega) hdA (by first | assumption | omega)]; exact ⟨_, _, rfl, (g1.less (fun x hx => (.tail _ (.tail _ (.tail _ (.tail _ (.tail _ (.tail _ hx)))))))), (g2.less (fun x hx => (.tail _ (.tail _ (.tail _ (.tail _ (.tail _ (.tail _ hx))))))))⟩) hB ha_)
       ·
        replace c141 := bnot_f c141
        replace c141 := dT c141
        refine WC.skip (hK139 (Sq fun K146 hK146 => ?_))
        refine dM 5 [(some 84, .is (.pointer (some ⟨W2.heap.size, 2, none⟩))), (some 85, .is (.int .i64 used)), (some 86, .is (rv)), (some 87, .is (.int .i64 (rec.length : Int))), (some 88, .is (.int .i64 (sizeD (rec.length : Int))))] [[], [0], [], [2], [3]] (by exact trivial) ?_ ?_
        ·
         refine Dc (fun Wd hd => ?_) ?_
         ·
          exact Dd (dx_fld (o1 := 2) rfl ty_fld_30_2_2 rfl rfl) rfl
         refine Dc (fun Wd hd => ?_) ?_
         ·
          have k8 := k8.below hd
          exact Dd (dx_load rfl ty_one_3 rfl (k8.cell (k := 2) rfl)) rfl
         refine Dc (fun Wd hd => ?_) ?_
         ·
          exact Dd (dx_move rfl rfl) rfl
         refine Dc (fun Wd hd => ?_) ?_
         ·
          have h3 := h3.below hd
          exact Dd (dv_eJ (dx_lenB rfl ty_slice_40 rfl h3) (show _ = Value.int .i64 (rec.length : Int) by rw [List.length_map])) rfl
         refine Dc (fun Wd hd => ?_) ?_
         ·
          exact DR.mono (dx_cv rfl Tryd.func22 rfl rfl rfl (size_v (rec.length : Int) Wd [] (LL.nil _) (by omega))) (fun v W' ⟨h, hb⟩ => ⟨hb, (by rw [h]; exact rfl)⟩)
         exact trivial
        ·
         intro W147 b148
         replace h1 := h1.below b148
         replace h2 := h2.below b148
         replace h3 := h3.below b148
         replace h6 := h6.below b148
         replace hqs := hqs.below b148
         replace j118 := j118.below b148
         replace j119 := j119.below b148
         replace g1 := g1.below b148
         replace g2 := g2.below b148
         replace k3 := k3.below b148
         replace k8 := k8.below b148
         replace k14 := k14.below b148
         replace k21 := k21.below b148
         replace hp122 := hp122.below b148
         replace k138 := k138.below b148
         replace hB := below_then hB b148
         replace hL := LL.below hL b148
         refine Va (dx_add (r := used + (sizeD (rec.length : Int))) rfl rfl rfl (wrap64_id (by omega))) rfl rfl (Va (dx_fld (o1 := 2) rfl ty_fld_30_2_2 rfl rfl) rfl rfl ?_)
         refine WL.do (dx_store (cs' := [.int .i64 half, .int .i64 gen, .int .i64 (used + (sizeD (rec.length : Int)))]) (vs := [.int .i64 (used + (sizeD (rec.length : Int)))]) rfl ty_size_3_1 rfl rfl rfl (oC rfl oc_nil) k8 rfl (nB rfl) rfl) rfl ?_
         rintro _ W149 ⟨k151, o150⟩
         replace k3 := k3.other o150 n11
         replace k14 := k14.other o150 n18.symm
         replace k21 := k21.other o150 n25.symm
         replace hp122 := hp122.other o150 n65.symm
         replace k138 := k138.other o150 n131.symm
         clear k8
         replace h1 := h1.only o150 (.tail _ (.tail _ (.tail _ (.tail _ (.head _)))))
         replace h2 := h2.only o150 (.tail _ (.tail _ (.tail _ (.tail _ (.head _)))))
         replace h3 := h3.only o150 (.tail _ (.tail _ (.tail _ (.tail _ (.head _)))))
         replace h6 := h6.only o150 (.tail _ (.tail _ (.tail _ (.tail _ (.head _)))))
         replace hqs := hqs.only o150 (.tail _ (.tail _ (.tail _ (.tail _ (.head _)))))
         replace j118 := j118.only o150 (.tail _ (.tail _ (.tail _ (.tail _ (.head _)))))
         replace j119 := j119.only o150 (.tail _ (.tail _ (.tail _ (.tail _ (.head _)))))
         replace g1 := g1.only o150 (.tail _ (.tail _ (.tail _ (.tail _ (.head _)))))
         replace g2 := g2.only o150 (.tail _ (.tail _ (.tail _ (.tail _ (.head _)))))
         replace hB := o150.below hB l12
         replace hL := LL.only hL o150
         refine Ni (hK146 (Sq fun K152 hK152 => ?_))
         refine WC.drawC 3 [(2, W7.heap.size, [.slice none 0 0, .slice none 0 0, .int .i64 0, .bool false], fun cs_ _ => cs_ = [a1, a2, .int .i64 ((doneD (d0D secs loose fuse down) (wrS d)).fuse), .bool ((doneD (d0D secs loose fuse down) (wrS d)).down)])] [(some 91, .is (.agg #[a1, a2, .int .i64 ((doneD (d0D secs loose fuse down) (wrS d)).fuse), .bool ((doneD (d0D secs loose fuse down) (wrS d)).down)])), (some 92, .is (.agg #[.int .i64 half, .int .i64 gen, .int .i64 (used + (sizeD (rec.length : Int)))])), (none, .by fun _ _ => True)] [[], [], [0, 0]] ⟨fun _ _ _ _ h => h, trivial⟩ (fun e he => by simp only [List.mem_cons, List.not_mem_nil, or_false] at he; subst he; exact ⟨fun _ _ _ _ h => h, trivial⟩) ⟨fun x hx => (by cases hx), trivial⟩ (monQ_nil (fun e he => by simp only [List.mem_cons, List.not_mem_nil, or_false] at he; subst he; exact ⟨_, rfl⟩)) (fun e he => by simp only [List.mem_cons, List.not_mem_nil, or_false] at he; subst he; exact k14) ?_ ?_
         ·
          refine DStepsC.cons rfl (fun Wd hd hbs_ => ?_) ?_
          ·
           have k138 := k138.chgM hd (by simp only [List.map_cons, List.map_nil, List.mem_cons, List.not_mem_nil, or_false, not_or]; exact n132.symm)
           exact Dd (dx_loadN rfl ty_agg_25_4 rfl k138.range rfl) rfl
          refine DStepsC.cons rfl (fun Wd hd hbs_ => ?_) ?_
          ·
           have k151 := k151.chgM hd (by simp only [List.map_cons, List.map_nil, List.mem_cons, List.not_mem_nil, or_false, not_or]; exact n18)
           exact Dd (dx_loadN rfl ty_agg_30_3 rfl k151.range rfl) rfl
          refine DStepsC.hit rfl (fun Wd hd hb_ => ?_) ?_
          ·
           have g1 := g1.chgM hd (fun C hC => by simp only [List.map_cons, List.map_nil, List.mem_cons, List.not_mem_nil, or_false] at hC; subst hC; exact (.tail _ (.tail _ (.tail _ (.head _)))))
           have g2 := g2.chgM hd (fun C hC => by simp only [List.map_cons, List.map_nil, List.mem_cons, List.not_mem_nil, or_false] at hC; subst hC; exact (.tail _ (.tail _ (.tail _ (.head _)))))
           exact (dx_storeW (vs := [a1, a2, .int .i64 ((doneD (d0D secs loose fuse down) (wrS d)).fuse), .bool ((doneD (d0D secs loose fuse down) (wrS d)).down)]) rfl ty_size_25_4 rfl rfl rfl (oC g1.one (oC g2.one (oC rfl (oC rfl oc_nil)))) hb_ rfl rfl).mono (fun _ W' h => ⟨h.2, QBlk.is h.1, trivial⟩)
          exact trivial
         ·
          intro W153 hd hq_
          replace h1 := h1.chgM hd (fun C hC => by simp only [List.map_cons, List.map_nil, List.mem_cons, List.not_mem_nil, or_false] at hC; subst hC; exact (.tail _ (.tail _ (.tail _ (.head _)))))
          replace h2 := h2.chgM hd (fun C hC => by simp only [List.map_cons, List.map_nil, List.mem_cons, List.not_mem_nil, or_false] at hC; subst hC; exact (.tail _ (.tail _ (.tail _ (.head _)))))
          replace h3 := h3.chgM hd (fun C hC => by simp only [List.map_cons, List.map_nil, List.mem_cons, List.not_mem_nil, or_false] at hC; subst hC; exact (.tail _ (.tail _ (.tail _ (.head _)))))
          replace h6 := h6.chgM hd (fun C hC => by simp only [List.map_cons, List.map_nil, List.mem_cons, List.not_mem_nil, or_false] at hC; subst hC; exact (.tail _ (.tail _ (.tail _ (.head _)))))
          replace hqs := hqs.chgM hd (fun C hC => by simp only [List.map_cons, List.map_nil, List.mem_cons, List.not_mem_nil, or_false] at hC; subst hC; exact (.tail _ (.tail _ (.tail _ (.head _)))))
          replace j118 := j118.chgM hd (fun C hC => by simp only [List.map_cons, List.map_nil, List.mem_cons, List.not_mem_nil, or_false] at hC; subst hC; exact (.tail _ (.tail _ (.tail _ (.head _)))))
          replace j119 := j119.chgM hd (fun C hC => by simp only [List.map_cons, List.map_nil, List.mem_cons, List.not_mem_nil, or_false] at hC; subst hC; exact (.tail _ (.tail _ (.tail _ (.head _)))))
          replace g1 := g1.chgM hd (fun C hC => by simp only [List.map_cons, List.map_nil, List.mem_cons, List.not_mem_nil, or_false] at hC; subst hC; exact (.tail _ (.tail _ (.tail _ (.head _)))))
          replace g2 := g2.chgM hd (fun C hC => by simp only [List.map_cons, List.map_nil, List.mem_cons, List.not_mem_nil, or_false] at hC; subst hC; exact (.tail _ (.tail _ (.tail _ (.head _)))))
          replace k3 := k3.chgM hd (by simp only [List.map_cons, List.map_nil, List.mem_cons, List.not_mem_nil, or_false, not_or]; exact n17)
          replace k151 := k151.chgM hd (by simp only [List.map_cons, List.map_nil, List.mem_cons, List.not_mem_nil, or_false, not_or]; exact n18)
          replace k21 := k21.chgM hd (by simp only [List.map_cons, List.map_nil, List.mem_cons, List.not_mem_nil, or_false, not_or]; exact n26.symm)
          replace hp122 := hp122.chgM hd (by simp only [List.map_cons, List.map_nil, List.mem_cons, List.not_mem_nil, or_false, not_or]; exact n66.symm)
          replace k138 := k138.chgM hd (by simp only [List.map_cons, List.map_nil, List.mem_cons, List.not_mem_nil, or_false, not_or]; exact n132.symm)
          have k154 := hq_ _ (.head _)
          replace k154 := QBlk.blk k154
          replace hB := hd.toBelow hB (fun C hC => by simp only [List.map_cons, List.map_nil, List.mem_cons, List.not_mem_nil, or_false] at hC; subst hC; exact l19)
          replace hL := hL.chgM hd
          intro _ _
          refine WL.do (dx_store (cs' := [.int .i64 half, .int .i64 gen, .int .i64 (used + (sizeD (rec.length : Int)))]) (vs := [.int .i64 half, .int .i64 gen, .int .i64 (used + (sizeD (rec.length : Int)))]) rfl ty_size_30_3 rfl rfl rfl (oC rfl (oC rfl (oC rfl oc_nil))) k21 rfl (nB rfl) rfl) rfl ?_
          rintro _ W155 ⟨k157, o156⟩
          replace k154 := k154.other o156 n26
          clear k21
          replace g1 := g1.only o156 (.tail _ (.tail _ (.head _)))
          replace g2 := g2.only o156 (.tail _ (.tail _ (.head _)))
          replace hB := o156.below hB l27
          refine Pu rfl (Ni (hK152 ?_))
          exact WC.ret fun a_ ha_ => hQ (cv_ret3 rfl (.agg rfl ty_agg_25_4 k154.range rfl) (.agg rfl ty_agg_30_3 k157.range rfl) (.tmp rfl) (by rw [appendD_k (by first | assumption | omega) (by first | assumption | omega) (by first | assumption | omega) (by first | assumption | omega) hdA (by first | assumption | exact Classical.not_not.1 (by assumption))]; exact ⟨_, _, lay_ok (by first | assumption | exact Classical.not_not.1 (by assumption)), (g1.less (fun x hx => (.tail _ (.tail _ (.tail _ (.tail _ (.tail _ (.tail _ hx)))))))), (g2.less (fun x hx => (.tail _ (.tail _ (.tail _ (.tail _ (.tail _ (.tail _ hx))))))))⟩) hB ha_)

section
variable {secs : List (List Int)} {loose : List (Int × List Int)} {fuse : Int} {down : Bool} {half gen used : Int} {l : List (List Int)}
end
end Go.Proofs.YtfachlmgdlnpoaaDoor
