/- The theory of the journal, over the program's data: sealed sectors, what a half reads, what is laid. The theory of the journal: what writes leave, wha -/
import Derived.Test.YtfachlmgdlnpoaaDoorHD
namespace Go.Proofs.YtfachlmgdlnpoaaDoor
set_option linter.unusedVariables false
set_option maxRecDepth 8000

theorem valN_leN : ∀ (k : Nat) (n : Int), 0 ≤ n → valN (leN k n) = n % 2 ^ (8 * k)
 | 0, n, h => by show (0 : Int) = n % 1; omega
 | k + 1, n, h => by
  rw [leN_add, valN_app, valN_leN k n h, leN_len, pow8, pow8, Int.pow_succ]
  have hp : (0 : Int) < 256 ^ k := Int.pow_pos (by decide)
  generalize (256 : Int) ^ k = m at *
  have h1 := Int.mul_ediv_add_emod n m
  have h2 := Int.mul_ediv_add_emod n (m * 256)
  have e : n / m / 256 = n / (m * 256) := by rw [Int.ediv_ediv, if_neg (fun q => absurd q.1 (by omega))]; omega
  rw [← e] at h2
  have h3 := Int.mul_ediv_add_emod (n / m) 256
  generalize n / m = a at *
  generalize a / 256 = b at *
  generalize a % 256 = c at *
  generalize n % m = r at *
  generalize n % (m * 256) = t at *
  have e1 : m * 256 * b = m * (256 * b) := Int.mul_assoc ..
  have e2 : m * a = m * (256 * b) + m * c := by rw [← Int.mul_add, h3]
  rw [Int.mul_comm c m]
  omega
theorem getS_leN {k : Nat} {n : Int} (hk : k ≤ 8) (h0 : 0 ≤ n) (h1 : n < 2 ^ (8 * k)) (h2 : n < 9223372036854775808) : getS (leN k n) = n := by
 unfold getS
 rw [valN_leN k n h0, Int.emod_eq_of_lt h0 h1, wrap64_id (by omega)]
structure PgOk (p : Pg) : Prop where
 g1 : 1 ≤ p.gen
 g2 : p.gen ≤ 1099511627776
 i1 : 0 ≤ p.idx
 i2 : p.idx < 4294967296
 m1 : 0 ≤ p.mks
 m2 : p.mks ≤ 3
 dl : p.dat.length ≤ 100
 db : Byt p.dat
theorem seal_parts {p : Pg} (h : p.dat.length ≤ 100) : ((sealS p).drop 0).take 8 = leN 8 p.gen ∧ ((sealS p).drop 8).take 4 = leN 4 p.idx ∧ (sealS p)[12]? = some ((p.dat.length : Int) % 256) ∧ (sealS p)[13]? = some (p.mks % 256) ∧ ((sealS p).drop 14).take p.dat.length = p.dat := by
  unfold sealS headS
  have h8 := leN_len 8 p.gen
  have h4 := leN_len 4 p.idx
  generalize leN 8 p.gen = a at *
  generalize leN 4 p.idx = b at *
  simp only [List.append_assoc]
  refine ⟨?_, ?_, ?_, ?_, ?_⟩
  · rw [List.drop_zero, List.take_append_of_le_length (by omega), List.take_of_length_le (by omega)]
  · rw [List.drop_append_of_le_length (by omega), List.drop_of_length_le (by omega), List.nil_append, List.take_append_of_le_length (by omega), List.take_of_length_le (by omega)]
  · rw [List.getElem?_append_right (by omega), List.getElem?_append_right (by omega), h8, h4]; rfl
  · rw [List.getElem?_append_right (by omega), List.getElem?_append_right (by omega), h8, h4]; rfl
  · rw [show 14 = a.length + (b.length + (1 + 1)) by omega, List.drop_append, List.drop_append, List.drop_of_length_le (by omega), List.drop_of_length_le (by omega)]
    rw [show a.length + (b.length + (1 + 1)) - a.length - b.length = 2 by omega]
    simp
theorem pgS_seal {p : Pg} (h : PgOk p) : pgS (sealS p) = p := by
 obtain ⟨e1, e2, e3, e4, e5⟩ := seal_parts h.dl
 unfold pgS
 rw [e1, e2, e3, e4]
 have := h.g1; have := h.g2; have := h.i1; have := h.i2; have := h.m1; have := h.m2; have := h.dl
 rw [getS_leN (by decide) (by omega) (by show p.gen < 18446744073709551616; omega) (by omega), getS_leN (by decide) h.i1 (by show p.idx < 4294967296; omega) (by omega)]
 simp only [Option.getD_some]
 rw [show (p.dat.length : Int) % 256 = p.dat.length by omega, Int.toNat_natCast, e5, show p.mks % 256 = p.mks by omega]
theorem unseal_seal {p : Pg} (h : PgOk p) : unsealS (sealS p) = some p := by
 have e := pgS_seal h
 obtain ⟨e1, e2, e3, e4, e5⟩ := seal_parts h.dl
 have hb : ¬ badS (sealS p) := by
  unfold badS
  rw [e1, e3, e4]
  have := h.g1; have := h.g2; have := h.i1; have := h.i2; have := h.m1; have := h.m2; have := h.dl
  rw [getS_leN (by decide) (by omega) (by show p.gen < 18446744073709551616; omega) (by omega)]
  simp only [Option.getD_some]
  omega
 unfold unsealS
 rw [if_neg hb, e, if_pos rfl]
theorem unseal_z0 : unsealS z0 = none := by
 unfold unsealS
 rw [if_pos (by unfold badS; exact .inl (by decide +kernel))]
def viewD (secs : List (List Int)) (loose : List (Int × List Int)) (a : Nat) : Option Pg := unsealS (readS secs loose false (a : Int)).1
def pgV (V : Nat → Option Pg) (fr k : Nat) : Option Pg := match V (fr + k) with
 | some p => if p.idx = (k : Int) then some p else none
 | none => none
theorem has_of {secs : List (List Int)} {a : Nat} (h : a < secs.length) : hasB secs (a : Int) = true := by
 unfold hasB
 rw [decide_eq_true (by omega), decide_eq_true (by omega)]; rfl
theorem read_in {secs : List (List Int)} {loose : List (Int × List Int)} (hr : rightD secs loose = true) {a : Nat} (ha : a < secs.length) : readS secs loose false (a : Int) = match lookN loose (a : Int) loose.length with | some z => (z, 0) | none => (secs[a]?.getD [], 0) := by
 unfold readS
 rw [if_neg (by rw [hr]; decide), if_neg (by rw [has_of ha]; decide), if_neg (by decide)]
 rfl
theorem read_err {secs : List (List Int)} {loose : List (Int × List Int)} (hr : rightD secs loose = true) {a : Nat} (ha : a < secs.length) : (readS secs loose false (a : Int)).2 = 0 := by
 rw [read_in hr ha]
 split <;> rfl
theorem page_view {secs : List (List Int)} {loose : List (Int × List Int)} (hr : rightD secs loose = true) {fr k : Nat} (ha : fr + k < secs.length) : pgA secs loose false (fr : Int) k = pgV (viewD secs loose) fr k := by
 show pageD secs loose false ((fr : Int) + (k : Int)) (k : Int) = _
 rw [show (fr : Int) + (k : Int) = ((fr + k : Nat) : Int) by omega]
 unfold pageD pgV viewD
 rw [if_neg (fun q => q (read_err hr ha))]
 generalize unsealS (readS secs loose false ((fr + k : Nat) : Int)).1 = x
 cases x <;> rfl
theorem recN_ext {pg pg' : Nat → Option Pg} {sz st : Nat} {gen : Int} (h : ∀ k, k < sz → pg k = pg' k) : ∀ (f k : Nat) (out : List Int), recN pg sz st gen f k out = recN pg' sz st gen f k out
  | 0, k, out => rfl
  | f + 1, k, out => by
    rw [recN, recN]
    by_cases hk : k < sz
    · rw [if_pos hk, if_pos hk, h k hk]
      split
      · rfl
      · rw [recN_ext h f]
    · rw [if_neg hk, if_neg hk]
theorem recD_ext {pg pg' : Nat → Option Pg} {sz st : Nat} {gen : Int} (h : ∀ k, k < sz → pg k = pg' k) : recD pg sz st gen = recD pg' sz st gen := recN_ext h _ _ _
theorem recs1_ext {pg pg' : Nat → Option Pg} {sz n : Nat} {gen : Int} (h : ∀ k, k < sz → pg k = pg' k) : ∀ (f k : Nat) (l : List (List Int)), recs1 pg sz n gen f k l = recs1 pg' sz n gen f k l
  | 0, k, l => rfl
  | f + 1, k, l => by
    rw [recs1, recs1, recD_ext h]
    split
    · split
      · rfl
      · rw [recs1_ext h f]
    · rfl
theorem recs2_ext {pg pg' : Nat → Option Pg} {sz : Nat} {gen : Int} (h : ∀ k, k < sz → pg k = pg' k) : ∀ (f k : Nat) (l : List (List Int)), recs2 pg sz gen f k l = recs2 pg' sz gen f k l
 | 0, k, l => rfl
 | f + 1, k, l => by
  rw [recs2, recs2, recD_ext h]
  split
  · rfl
  · rw [recs2_ext h f]
theorem recsD_ext {pg pg' : Nat → Option Pg} {sz : Nat} (hs : 0 < sz) (h : ∀ k, k < sz → pg k = pg' k) : recsD pg sz = recsD pg' sz := by
  unfold recsD
  rw [h 0 hs]
  split
  · rfl
  · split
    · rfl
    · split
      · rfl
      · rw [recs1_ext h]
        split
        · rfl
        · rw [recs2_ext h]
theorem half_view {secs : List (List Int)} {loose : List (Int × List Int)} (hr : rightD secs loose = true) (hn : 2 ≤ secs.length) {q : Int} {Q : Nat} (hq : q = (Q : Int)) (hQ : Q ≤ 1) : halfD secs loose false q = recsD (pgV (viewD secs loose) (Q * (secs.length / 2))) (secs.length / 2) := by
 subst hq
 unfold halfD
 have e : (Q : Int) * ((secs.length : Int) / 2) = ((Q * (secs.length / 2) : Nat) : Int) := by rw [Int.natCast_mul]; rfl
 rw [e]
 refine recsD_ext (by omega) fun k hk => page_view hr ?_
 have : Q = 0 ∨ Q = 1 := by omega
 rcases this with rfl | rfl <;> omega
theorem pagesD_at {gen fr : Int} {r : List Int} {k : Nat} (hk : k < nPg r) : (pagesD gen fr r)[k]? = some ⟨gen, fr + (k : Int), (if k = 0 then 1 else 0) + (if k + 1 = nPg r then 2 else 0), chD r k⟩ := by
 unfold pagesD
 rw [List.getElem?_map, List.getElem?_range hk]; rfl
theorem marks_1 {k n : Nat} : b1 ((if k = 0 then 1 else 0) + (if k + 1 = n then 2 else 0)) = decide (k = 0) := by
 by_cases h1 : k = 0 <;> by_cases h2 : k + 1 = n <;> simp only [h1, h2, if_true, if_false, decide_true, decide_false] <;> first | decide | (subst h1; simp only [h2, if_true, if_false]; decide)
theorem marks_2 {k n : Nat} : b2 ((if k = 0 then 1 else 0) + (if k + 1 = n then 2 else 0)) = decide (k + 1 = n) := by
 by_cases h1 : k = 0 <;> by_cases h2 : k + 1 = n <;> simp only [h1, h2, if_true, if_false, decide_true, decide_false] <;> first | decide | (subst h1; simp only [h2, if_true, if_false]; decide)
theorem ch_app (r : List Int) (k : Nat) : r.take (100 * k) ++ chD r k = r.take (100 * (k + 1)) := by
 unfold chD
 rw [Nat.mul_add, Nat.mul_one, List.take_add]
theorem nPg_pos (r : List Int) : 1 ≤ nPg r := by unfold nPg; split <;> omega
theorem recN_laid {pg : Nat → Option Pg} {sz st : Nat} {gen : Int} {r : List Int} (h : ∀ k, k < nPg r → pg (st + k) = (pagesD gen (st : Int) r)[k]?) (hs : st + nPg r ≤ sz) : ∀ (j k f : Nat), k + j = nPg r → 1 ≤ j → j ≤ f → recN pg sz st gen f (st + k) (r.take (100 * k)) = some (r, st + nPg r)
 | 0, k, f, _, h1, _ => absurd h1 (by decide)
 | j + 1, k, 0, _, _, h2 => absurd h2 (by omega)
 | j + 1, k, f + 1, e, _, h2 => by
  have hp := h k (by omega)
  rw [pagesD_at (by omega)] at hp
  have hg : ¬ (¬ gen = gen ∨ ¬ b1 ((if k = 0 then 1 else 0) + (if k + 1 = nPg r then 2 else 0)) = decide (st + k = st)) := by
   rw [marks_1]
   have : (k = 0) ↔ (st + k = st) := by omega
   rintro (q | q)
   · exact q rfl
   · exact q (decide_eq_decide.2 this)
  have hn : r.length = 0 ∧ nPg r = 1 ∨ 0 < r.length ∧ nPg r = (r.length + 99) / 100 := by unfold nPg; split <;> omega
  have hc : (chD r k).length = min 100 (r.length - 100 * k) := by unfold chD; rw [List.length_take, List.length_drop]
  cases j with
  | zero =>
   rw [recN_l (by omega) hp hg (by rw [marks_2]; exact decide_eq_true (by omega)) (by rintro ⟨q1, q2⟩; rw [hc] at q2; omega)]
   rw [ch_app, List.take_of_length_le (by omega)]
   congr 2
   omega
  | succ j =>
   rw [recN_c (by omega) hp hg (by rw [marks_2]; simp; omega) (by rw [hc]; omega), ch_app]
   exact recN_laid h hs (j + 1) (k + 1) f (by omega) (by omega) (by omega)
theorem recD_laid {pg : Nat → Option Pg} {sz st : Nat} {gen : Int} {r : List Int} (h : ∀ k, k < nPg r → pg (st + k) = (pagesD gen (st : Int) r)[k]?) (hs : st + nPg r ≤ sz) : recD pg sz st gen = some (r, st + nPg r) := by
 have := recN_laid h hs (nPg r) 0 (sz - st + 1) (by omega) (nPg_pos r) (by omega)
 exact this
theorem cntP_app (a b : List (List Int)) : cntP (a ++ b) = cntP a + cntP b := by unfold cntP; rw [List.map_append, List.sum_append]
theorem cntP_cons (r : List Int) (b : List (List Int)) : cntP (r :: b) = nPg r + cntP b := by unfold cntP; rw [List.map_cons, List.sum_cons]
theorem cntP_len (l : List (List Int)) : l.length ≤ cntP l := by
 induction l with
 | nil => exact Nat.zero_le _
 | cons a l ih => have := nPg_pos a; rw [cntP_cons, List.length_cons]; omega
theorem pAll_app (gen : Int) : ∀ (a b : List (List Int)) (u : Int), pAll gen u (a ++ b) = pAll gen u a ++ pAll gen (u + (cntP a : Int)) b
 | [], b, u => by show pAll gen u b = pAll gen (u + ((0 : Nat) : Int)) b; congr 1; omega
 | r :: a, b, u => by
  rw [List.cons_append, pAll, pAll, pAll_app gen a b, List.append_assoc, cntP_cons]
  congr 3
  omega
theorem pAll_len (gen : Int) : ∀ (l : List (List Int)) (u : Int), (pAll gen u l).length = cntP l
 | [], u => rfl
 | r :: l, u => by rw [pAll, List.length_append, pagesD_len, pAll_len gen l, cntP_cons]
theorem pAll_at {gen : Int} {a b : List (List Int)} {r : List Int} {k : Nat} (hk : k < nPg r) : (pAll gen 1 (a ++ r :: b))[cntP a + k]? = (pagesD gen ((1 + cntP a : Nat) : Int) r)[k]? := by
 rw [pAll_app, List.getElem?_append_right (by rw [pAll_len]; omega), pAll_len, Nat.add_sub_cancel_left, pAll, List.getElem?_append_left (by rw [pagesD_len]; exact hk)]
 congr 2
theorem pAll_idx {gen : Int} : ∀ {l : List (List Int)} {u : Int} {k : Nat} {p : Pg}, (pAll gen u l)[k]? = some p → p.idx = u + (k : Int) ∧ p.gen = gen ∧ 0 ≤ p.mks ∧ p.mks ≤ 3 ∧ p.dat.length ≤ 100 ∧ ∃ r ∈ l, ∃ j, p.dat = chD r j
  | [], u, k, p, h => by simp [pAll] at h
  | r :: l, u, k, p, h => by
    rw [pAll] at h
    by_cases hk : k < nPg r
    · rw [List.getElem?_append_left (by rw [pagesD_len]; exact hk), pagesD_at hk] at h
      cases h
      refine ⟨rfl, rfl, ?_, ?_, ch_len _ _, r, .head _, k, rfl⟩
      · show (0 : Int) ≤ (if k = 0 then 1 else 0) + (if k + 1 = nPg r then 2 else 0); split <;> split <;> decide
      · show (if k = 0 then (1 : Int) else 0) + (if k + 1 = nPg r then 2 else 0) ≤ 3; split <;> split <;> decide
    · rw [List.getElem?_append_right (by rw [pagesD_len]; omega), pagesD_len] at h
      obtain ⟨h1, h2, h3, h4, h5, q, hq, j, h6⟩ := pAll_idx h
      exact ⟨by rw [h1]; omega, h2, h3, h4, h5, q, .tail _ hq, j, h6⟩
theorem pAll_ok {gen u : Int} {l : List (List Int)} (hg : 1 ≤ gen ∧ gen ≤ 1099511627776) (hb : ∀ r ∈ l, Byt r) (hu : 0 ≤ u) (hc : u + (cntP l : Int) ≤ 4294967296) {k : Nat} {p : Pg} (h : (pAll gen u l)[k]? = some p) : PgOk p := by
 have hk := (List.getElem?_eq_some_iff.1 h).1
 rw [pAll_len] at hk
 obtain ⟨h1, h2, h3, h4, h5, q, hq, j, h6⟩ := pAll_idx h
 exact ⟨by omega, by omega, by omega, by omega, h3, h4, h5, by rw [h6]; exact ch_byt (hb q hq) j⟩
theorem hdr_ok {gen : Int} {n : Nat} (hg : 1 ≤ gen ∧ gen ≤ 1099511627776) : PgOk (hdrP gen (n : Int)) := ⟨hg.1, hg.2, Int.le_refl _, by show (0 : Int) < _; decide, by show (0 : Int) ≤ 3; decide, by show (3 : Int) ≤ 3; decide, by show 7 ≤ 100; decide, hdr_byt _ _⟩
theorem snap_hdr {gen : Int} {n : Nat} (h : (n : Int) < 4294967296) : snapD (hdrP gen (n : Int)) = some (n : Int) := by
 unfold snapD hdrP
 rw [if_pos ⟨rfl, rfl, rfl, rfl⟩]
 show some (getS (leN 4 (n : Int))) = _
 rw [getS_leN (by decide) (by omega) (by show (n : Int) < 4294967296; omega) (by omega)]
structure HalfV (pg : Nat → Option Pg) (sz : Nat) (gen : Int) (A B : List (List Int)) : Prop where
 hdr : pg 0 = some (hdrP gen (cntP A : Int))
 pgs : ∀ k, k < cntP (A ++ B) → pg (1 + k) = (pAll gen 1 (A ++ B))[k]?
 fit : 1 + cntP (A ++ B) ≤ sz
 stop : recD pg sz (1 + cntP (A ++ B)) gen = none
theorem HalfV.one {pg : Nat → Option Pg} {sz : Nat} {gen : Int} {A B C D : List (List Int)} {r : List Int} (h : HalfV pg sz gen A B) (e : A ++ B = C ++ r :: D) : recD pg sz (1 + cntP C) gen = some (r, 1 + cntP C + nPg r) := by
 have hc : cntP (A ++ B) = cntP C + (nPg r + cntP D) := by rw [e, cntP_app, cntP_cons]
 have hf := h.fit
 refine recD_laid (fun k hk => ?_) (by omega)
 rw [Nat.add_assoc, h.pgs _ (by omega), e]
 exact pAll_at hk
theorem HalfV.r1 {pg : Nat → Option Pg} {sz : Nat} {gen : Int} {A B : List (List Int)} (h : HalfV pg sz gen A B) : ∀ (D C : List (List Int)) (f : Nat), A = C ++ D → D.length < f → recs1 pg sz (cntP A) gen f (1 + cntP C) C = some (A, 1 + cntP A)
 | [], C, 0, _, hf => absurd hf (by simp)
 | [], C, f + 1, e, _ => by
  rw [List.append_nil] at e
  subst e
  exact recs1_0 (by omega)
 | r :: D, C, 0, _, hf => absurd hf (by simp)
 | r :: D, C, f + 1, e, hf => by
  have hc : cntP A = cntP C + (nPg r + cntP D) := by rw [e, cntP_app, cntP_cons]
  have hp := nPg_pos r
  rw [recs1_c (by omega) (h.one (C := C) (r := r) (D := D ++ B) (by rw [e]; simp)) (by omega)]
  have := HalfV.r1 h D (C ++ [r]) f (by rw [e]; simp) (by simp at hf; omega)
  rw [cntP_add, ← Nat.add_assoc] at this
  exact this
theorem HalfV.r2 {pg : Nat → Option Pg} {sz : Nat} {gen : Int} {A B : List (List Int)} (h : HalfV pg sz gen A B) : ∀ (D C : List (List Int)) (f : Nat), A ++ B = C ++ D → D.length ≤ f → recs2 pg sz gen f (1 + cntP C) C = (A ++ B, 1 + cntP (A ++ B))
 | [], C, f, e, _ => by
  rw [List.append_nil] at e
  rw [← e]
  exact recs2_n h.stop f
 | r :: D, C, 0, _, hf => absurd hf (by simp)
 | r :: D, C, f + 1, e, hf => by
  rw [recs2_c (h.one (C := C) (r := r) (D := D) e)]
  have := HalfV.r2 h D (C ++ [r]) f (by rw [e]; simp) (by simp at hf; omega)
  rw [cntP_add, ← Nat.add_assoc] at this
  exact this
theorem HalfV.recs {pg : Nat → Option Pg} {sz : Nat} {gen : Int} {A B : List (List Int)} (h : HalfV pg sz gen A B) (hs : sz ≤ 100000) : recsD pg sz = some (A ++ B, gen, 1 + cntP (A ++ B)) := by
 have hc := cntP_app A B
 have hf := h.fit
 have hA := cntP_len A
 have hBl := cntP_len B
 refine recsD_k (N := cntP A) h.hdr (snap_hdr (by omega)) (by omega) (Int.toNat_natCast _) (h.r1 A [] (sz + 1) rfl (by omega)) ?_
 exact h.r2 B A _ rfl (by omega)
end Go.Proofs.YtfachlmgdlnpoaaDoor
namespace Go.Proofs.YtfachlmgdlnpoaaDoor
set_option linter.unusedVariables false
set_option maxRecDepth 8000

theorem right_mk {secs : List (List Int)} {loose : List (Int × List Int)} (h1 : 1 ≤ secs.length) (h2 : secs.length ≤ 2048) (h3 : loose.length ≤ 4096) (h4 : ∀ p ∈ loose, 0 ≤ p.1 ∧ p.1 < secs.length) : rightD secs loose = true := by
 unfold rightD
 rw [decide_eq_false (by omega), decide_eq_false (by omega), decide_eq_false (by omega)]
 rw [Bool.or_false, Bool.or_false, Bool.not_false, Bool.true_and, Bool.not_eq_true']
 refine List.any_eq_false.2 fun p hp => ?_
 have := h4 p hp
 unfold hasB
 rw [decide_eq_true this.1, decide_eq_true this.2]; decide
theorem right_app {secs : List (List Int)} {loose ws : List (Int × List Int)} (h : rightD secs loose = true) (hl : loose.length + ws.length ≤ 4096) (hw : ∀ p ∈ ws, 0 ≤ p.1 ∧ p.1 < secs.length) : rightD secs (loose ++ ws) = true := by
 obtain ⟨h1, h2, h3, h4⟩ := right_of h
 refine right_mk (List.length_pos_iff.2 h1) h2 (by rw [List.length_append]; exact hl) fun p hp => ?_
 rcases List.mem_append.1 hp with hp | hp
 · exact h4 p hp
 · exact hw p hp
def wrL (fr : Int) (ps : List Pg) : List (Int × List Int) := ps.map fun p => (fr + p.idx, sealS p)
theorem wrL_len (fr : Int) (ps : List Pg) : (wrL fr ps).length = ps.length := List.length_map ..
theorem wr_one {secs : List (List Int)} {loose : List (Int × List Int)} {f fr : Int} {p : Pg} (h : rightD secs loose = true) (hl : loose.length < 4096) (hp : 0 ≤ fr + p.idx ∧ fr + p.idx < secs.length) : wrW ⟨secs, loose, f, false, 0⟩ fr p = if f = 0 then ⟨secs, loose, 0, true, 9⟩ else ⟨secs, loose ++ wrL fr [p], if f < 0 then f else f - 1, false, 0⟩ := by
  rw [wrW_0 rfl]
  show writeS secs loose f false (fr + p.idx) (sealS p) = _
  have hh : hasB secs (fr + p.idx) = true := by unfold hasB; rw [decide_eq_true hp.1, decide_eq_true hp.2]; rfl
  unfold writeS
  rw [if_neg (by rw [h]; decide), if_neg (by rw [hh]; decide), if_neg (by decide), if_neg (by omega)]
  unfold burnS
  by_cases h0 : f = 0
  · subst h0; rfl
  · rw [if_neg h0, if_neg h0]
    by_cases h1 : 0 < f
    · rw [if_pos h1, if_neg (show ¬ f < 0 by omega)]; rfl
    · rw [if_neg h1, if_pos (show f < 0 by omega)]; rfl
theorem wrAll_k {secs : List (List Int)} {fr : Int} : ∀ (ps : List Pg) (loose : List (Int × List Int)) (f : Int), rightD secs loose = true → loose.length + ps.length ≤ 4096 → (∀ p ∈ ps, 0 ≤ fr + p.idx ∧ fr + p.idx < secs.length) → (f < 0 ∨ (ps.length : Int) ≤ f) → wrAll ⟨secs, loose, f, false, 0⟩ fr ps = ⟨secs, loose ++ wrL fr ps, if f < 0 then f else f - (ps.length : Int), false, 0⟩
 | [], loose, f, _, _, _, _ => by
  show (⟨secs, loose, f, false, 0⟩ : DO) = ⟨secs, loose ++ [], if f < 0 then f else f - ((0 : Nat) : Int), false, 0⟩
  rw [List.append_nil]
  congr 1
  split <;> omega
 | p :: ps, loose, f, h, hl, hp, hf => by
  rw [List.length_cons] at hl hf
  show wrAll (wrW ⟨secs, loose, f, false, 0⟩ fr p) fr ps = _
  rw [wr_one h (by omega) (hp p (.head _)), if_neg (by omega), wrAll_k ps _ _ (right_app h (by rw [wrL_len, List.length_singleton]; omega) (fun q hq => by rw [List.mem_singleton.1 hq]; exact hp p (.head _))) (by rw [List.length_append, wrL_len, List.length_singleton]; omega) (fun q hq => hp q (.tail _ hq)) (by split <;> omega)]
  rw [List.append_assoc, List.length_cons]
  show (⟨secs, loose ++ wrL fr (p :: ps), _, false, 0⟩ : DO) = _
  congr 1
  by_cases hz : f < 0
  · simp only [hz, if_true]
  · simp only [hz, if_false]; split <;> omega
def setD (secs : List (List Int)) (loose : List (Int × List Int)) : List (List Int) := settleS (fun _ _ z => z) loose secs 0
theorem wrS_one {secs : List (List Int)} {loose : List (Int × List Int)} {f : Int} (h : rightD secs loose = true) : wrS ⟨secs, loose, f, false, 0⟩ = if f = 0 then ⟨secs, loose, 0, true, 9⟩ else ⟨setD secs loose, [], if f < 0 then f else f - 1, false, 0⟩ := by
  rw [wrS_0 rfl]
  show syncS secs loose f false = _
  unfold syncS
  rw [if_neg (by rw [h]; decide), if_neg (by decide)]
  unfold burnS
  by_cases h0 : f = 0
  · subst h0; rfl
  · rw [if_neg h0, if_neg h0]
    by_cases h1 : 0 < f
    · rw [if_pos h1, if_neg (show ¬ f < 0 by omega)]; rfl
    · rw [if_neg h1, if_pos (show f < 0 by omega)]; rfl
theorem settle_i : ∀ (l : List (Int × List Int)) (secs : List (List Int)) (i j : Nat), settleS (fun _ _ z => z) l secs i = settleS (fun _ _ z => z) l secs j
 | [], secs, i, j => rfl
 | p :: l, secs, i, j => by rw [settleS, settleS]; exact settle_i l _ _ _
theorem setD_app (secs : List (List Int)) (l m : List (Int × List Int)) : setD secs (l ++ m) = setD (setD secs l) m := by
 unfold setD
 generalize hi : (0 : Nat) = i
 clear hi
 induction l generalizing secs i with
 | nil => rfl
 | cons p l ih =>
  rw [List.cons_append, settleS, settleS, ih]
  exact settle_i _ _ _ _
theorem setD_one (secs : List (List Int)) (p : Int × List Int) : setD secs [p] = secs.set p.1.toNat p.2 := rfl
theorem snocI {α : Type} {P : List α → Prop} (h0 : P []) (h1 : ∀ l x, P l → P (l ++ [x])) (l : List α) : P l := by
 have : ∀ n (l : List α), l.length = n → P l := by
  intro n
  induction n with
  | zero => intro l e; rw [List.length_eq_zero_iff.1 e]; exact h0
  | succ n ih =>
   intro l e
   have hne : l ≠ [] := fun q => by rw [q] at e; cases e
   rw [← List.dropLast_concat_getLast hne]
   exact h1 _ _ (ih _ (by rw [List.length_dropLast, e]; rfl))
 exact this _ l rfl
theorem setD_len (secs : List (List Int)) (l : List (Int × List Int)) : (setD secs l).length = secs.length := by
 induction l using snocI with
 | h0 => rfl
 | h1 l x ih => rw [setD_app, setD_one, List.length_set, ih]
theorem lookN_app {l : List (Int × List Int)} {p : Int × List Int} {a : Int} : ∀ n, n ≤ l.length → lookN (l ++ [p]) a n = lookN l a n
 | 0, _ => rfl
 | n + 1, h => by rw [lookN, lookN, List.getElem?_append_left (by omega), lookN_app n (by omega)]
theorem lookN_snoc (l : List (Int × List Int)) (p : Int × List Int) (a : Int) : lookN (l ++ [p]) a (l ++ [p]).length = if p.1 = a then some p.2 else lookN l a l.length := by
 rw [List.length_append, List.length_singleton, lookN, List.getElem?_append_right (Nat.le_refl _), Nat.sub_self]
 show (if p.1 = a then some p.2 else lookN (l ++ [p]) a l.length) = _
 rw [lookN_app _ (Nat.le_refl _)]
theorem setD_get {secs : List (List Int)} {a : Nat} (ha : a < secs.length) (l : List (Int × List Int)) : (∀ p ∈ l, 0 ≤ p.1) → (setD secs l)[a]? = some (match lookN l (a : Int) l.length with | some z => z | none => secs[a]?.getD []) := by
 induction l using snocI with
 | h0 => intro _; show secs[a]? = some (secs[a]?.getD []); rw [List.getElem?_eq_getElem ha]; rfl
 | h1 l p ih =>
  intro h
  have ih := ih fun q hq => h q (List.mem_append_left _ hq)
  have hp := h p (List.mem_append_right _ (.head _))
  rw [setD_app, setD_one, lookN_snoc, List.getElem?_set]
  by_cases e : p.1 = (a : Int)
  · rw [if_pos (by omega), if_pos (by rw [setD_len]; omega), if_pos e]
  · rw [if_neg (by omega), if_neg e]; exact ih
theorem view_sync {secs : List (List Int)} {loose : List (Int × List Int)} (h : rightD secs loose = true) {a : Nat} (ha : a < secs.length) : viewD (setD secs loose) [] a = viewD secs loose a := by
 obtain ⟨h1, h2, h3, h4⟩ := right_of h
 have hr : rightD (setD secs loose) [] = true := right_mk (by rw [setD_len]; exact List.length_pos_iff.2 h1) (by rw [setD_len]; exact h2) (by rw [List.length_nil]; omega) (fun p hp => absurd hp List.not_mem_nil)
 have e0 : lookN [] (a : Int) ([] : List (Int × List Int)).length = none := rfl
 have e : readS (setD secs loose) [] false (a : Int) = readS secs loose false (a : Int) := by
  rw [read_in h ha, read_in hr (by rw [setD_len]; exact ha), setD_get ha loose fun p hp => (h4 p hp).1, e0]
  generalize lookN loose (a : Int) loose.length = x
  cases x <;> rfl
 unfold viewD
 rw [e]
theorem view_wr {secs : List (List Int)} {loose : List (Int × List Int)} (h : rightD secs loose = true) (hl : loose.length < 4096) {b : Int} {p : Pg} (hb : 0 ≤ b ∧ b < secs.length) (hp : PgOk p) {a : Nat} (ha : a < secs.length) : viewD secs (loose ++ [(b, sealS p)]) a = if b = (a : Int) then some p else viewD secs loose a := by
 have hr : rightD secs (loose ++ [(b, sealS p)]) = true := right_app h (by rw [List.length_singleton]; omega) (fun q hq => by rw [List.mem_singleton.1 hq]; exact hb)
 have hs := unseal_seal hp
 unfold viewD
 rw [read_in h ha, read_in hr ha, lookN_snoc]
 generalize sealS p = z at *
 generalize lookN loose (a : Int) loose.length = x at *
 by_cases e : b = (a : Int)
 · rw [if_pos e, if_pos e]; exact hs
 · rw [if_neg e, if_neg e]
def putV (V : Nat → Option Pg) (u : Nat) (ps : List Pg) (a : Nat) : Option Pg := if u ≤ a ∧ a < u + ps.length then ps[a - u]? else V a
theorem putV_snoc (V : Nat → Option Pg) (u : Nat) (ps : List Pg) (p : Pg) (a : Nat) : putV V u (ps ++ [p]) a = if u + ps.length = a then some p else putV V u ps a := by
  unfold putV
  rw [List.length_append, List.length_singleton]
  by_cases h : u + ps.length = a
  · rw [if_pos h, if_pos (by omega), List.getElem?_append_right (by omega), show a - u - ps.length = 0 by omega]; rfl
  · rw [if_neg h]
    by_cases h2 : u ≤ a ∧ a < u + ps.length
    · rw [if_pos h2, if_pos (by omega), List.getElem?_append_left (by omega)]
    · rw [if_neg h2, if_neg (by omega)]
theorem view_put {secs : List (List Int)} {loose : List (Int × List Int)} (h : rightD secs loose = true) {fr u : Nat} {a : Nat} (ha : a < secs.length) (ps : List Pg) : loose.length + ps.length ≤ 4096 → u + ps.length ≤ secs.length → (∀ k p, ps[k]? = some p → (fr : Int) + p.idx = ((u + k : Nat) : Int) ∧ PgOk p) → viewD secs (loose ++ wrL (fr : Int) ps) a = putV (viewD secs loose) u ps a := by
 induction ps using snocI with
 | h0 =>
  intro _ _ _
  show viewD secs (loose ++ []) a = putV _ u [] a
  rw [List.append_nil]
  unfold putV
  rw [if_neg (by rw [List.length_nil]; omega)]
 | h1 ps p ih =>
  intro hl hu hk
  rw [List.length_append, List.length_singleton] at hl hu
  have hk0 : ∀ k q, ps[k]? = some q → (fr : Int) + q.idx = ((u + k : Nat) : Int) ∧ PgOk q := fun k q hq => hk k q (by rw [List.getElem?_append_left (List.getElem?_eq_some_iff.1 hq).1]; exact hq)
  have hp := hk ps.length p (by rw [List.getElem?_append_right (Nat.le_refl _), Nat.sub_self]; rfl)
  have ih := ih (by omega) (by omega) hk0
  have hrp : rightD secs (loose ++ wrL (fr : Int) ps) = true := right_app h (by rw [wrL_len]; omega) fun q hq => by
   obtain ⟨x, hx, rfl⟩ := List.mem_map.1 hq
   obtain ⟨k, hk1⟩ := List.mem_iff_getElem?.1 hx
   have := (hk0 k x hk1).1
   have := (List.getElem?_eq_some_iff.1 hk1).1
   show 0 ≤ (fr : Int) + x.idx ∧ (fr : Int) + x.idx < _
   omega
  rw [show wrL (fr : Int) (ps ++ [p]) = wrL (fr : Int) ps ++ [((fr : Int) + p.idx, sealS p)] from by unfold wrL; rw [List.map_append]; rfl, ← List.append_assoc]
  rw [view_wr hrp (by rw [List.length_append, wrL_len]; omega) (by omega) hp.2 ha, ih, putV_snoc, hp.1]
  by_cases e : u + ps.length = a
  · rw [if_pos e, if_pos (by omega)]
  · rw [if_neg e, if_neg (by omega)]
def maxV (V : Nat → Option Pg) : Nat → Int
 | 0 => 0
 | k + 1 => genO (maxV V k) (V k)
theorem maxG_view (secs : List (List Int)) (loose : List (Int × List Int)) : ∀ k, maxG secs loose false k = maxV (viewD secs loose) k
 | 0 => rfl
 | k + 1 => by rw [maxG, maxV, maxG_view secs loose k]; rfl
theorem maxV_ge {V : Nat → Option Pg} {p : Pg} : ∀ {k a : Nat}, a < k → V a = some p → p.gen ≤ maxV V k
  | 0, a, h, _ => absurd h (by omega)
  | k + 1, a, h, e => by
    rw [maxV]
    have hm : maxV V k ≤ genO (maxV V k) (V k) := by
      cases V k with
      | none => exact Int.le_refl _
      | some q => show _ ≤ (if _ < q.gen then q.gen else _); split <;> omega
    by_cases ha : a = k
    · subst ha
      rw [e]
      show _ ≤ (if _ < p.gen then p.gen else _)
      split <;> omega
    · exact Int.le_trans (maxV_ge (by omega) e) hm
theorem maxV_le {V : Nat → Option Pg} {m : Int} (hm : 0 ≤ m) : ∀ {k : Nat}, (∀ a p, a < k → V a = some p → p.gen ≤ m) → maxV V k ≤ m
 | 0, _ => hm
 | k + 1, h => by
  rw [maxV]
  have ih := maxV_le hm (k := k) fun a p ha => h a p (by omega)
  cases e : V k with
  | none => exact ih
  | some q => have := h k q (by omega) e; show (if _ < q.gen then q.gen else _) ≤ m; split <;> omega
theorem maxV_ext {V V' : Nat → Option Pg} : ∀ {k : Nat}, (∀ a, a < k → V a = V' a) → maxV V k = maxV V' k
 | 0, _ => rfl
 | k + 1, h => by rw [maxV, maxV, maxV_ext (k := k) fun a ha => h a (by omega), h k (by omega)]
theorem setD_byt {secs : List (List Int)} {loose : List (Int × List Int)} (h : BytD secs loose) : BytD (setD secs loose) [] := by
 refine ⟨?_, fun p hp => by cases hp⟩
 have : ∀ l : List (Int × List Int), (∀ p ∈ l, Byt p.2) → ∀ z ∈ setD secs l, Byt z := by
  intro l
  induction l using snocI with
  | h0 => intro _; exact h.1
  | h1 l p ih =>
   intro hl z hz
   rw [setD_app, setD_one] at hz
   rcases List.mem_or_eq_of_mem_set hz with hz | rfl
   · exact ih (fun q hq => hl q (List.mem_append_left _ hq)) z hz
   · exact hl p (List.mem_append_right _ (.head _))
 exact this loose h.2
end Go.Proofs.YtfachlmgdlnpoaaDoor
namespace Go.Proofs.YtfachlmgdlnpoaaDoor
set_option linter.unusedVariables false
set_option maxRecDepth 8000

theorem next_g {secs : List (List Int)} {loose : List (Int × List Int)} (h : maxV (viewD secs loose) secs.length < 1099511627776) : nextD secs loose false = (maxV (viewD secs loose) secs.length + 1, 0) := by
 unfold nextD
 rw [maxG_view, if_neg (by omega)]
theorem next_r {secs : List (List Int)} {loose : List (Int × List Int)} (h : maxV (viewD secs loose) secs.length = 1099511627776) : nextD secs loose false = (0, 5) := by
 unfold nextD
 rw [maxG_view, if_pos h]
theorem maxV_in (secs : List (List Int)) (loose : List (Int × List Int)) : 0 ≤ maxV (viewD secs loose) secs.length ∧ maxV (viewD secs loose) secs.length ≤ 1099511627776 := by
 rw [← maxG_view]; exact maxG_in secs loose false _
def layV (V : Nat → Option Pg) (fr : Nat) (G : Int) (recs : List (List Int)) : Nat → Option Pg := putV (putV V (fr + 1) (pAll G 1 recs)) fr [hdrP G (cntP recs : Int)]
theorem half_in {n Q : Nat} (hQ : Q ≤ 1) {k : Nat} (hk : k < n / 2) : Q * (n / 2) + k < n := by
 have : Q = 0 ∨ Q = 1 := by omega
 rcases this with rfl | rfl <;> omega
theorem pages_in {fr : Nat} {G : Int} {recs : List (List Int)} {n : Nat} (hf : fr + cntP recs < n) : ∀ p ∈ pAll G 1 recs, 0 ≤ (fr : Int) + p.idx ∧ (fr : Int) + p.idx < (n : Int) := fun p hp => by
 obtain ⟨k, hk⟩ := List.mem_iff_getElem?.1 hp
 have h1 := (pAll_idx hk).1
 have h2 := (List.getElem?_eq_some_iff.1 hk).1
 rw [pAll_len] at h2
 omega
theorem bytD_app {secs : List (List Int)} {loose : List (Int × List Int)} (h : BytD secs loose) {fr : Int} {ps : List Pg} (hp : ∀ p ∈ ps, Byt p.dat) : BytD secs (loose ++ wrL fr ps) := by
  refine ⟨h.1, fun q hq => ?_⟩
  rcases List.mem_append.1 hq with hq | hq
  · exact h.2 q hq
  · obtain ⟨x, hx, rfl⟩ := List.mem_map.1 hq
    exact sealS_byt (hp x hx)
theorem pAll_byt {G u : Int} {recs : List (List Int)} (hb : ∀ r ∈ recs, Byt r) : ∀ p ∈ pAll G u recs, Byt p.dat := fun p hp => by
 obtain ⟨k, hk⟩ := List.mem_iff_getElem?.1 hp
 obtain ⟨_, _, _, _, _, r, hr, j, e⟩ := pAll_idx hk
 rw [e]; exact ch_byt (hb r hr) j
theorem view_set {secs : List (List Int)} {loose : List (Int × List Int)} (h : rightD secs loose = true) {fr u : Nat} {ps : List Pg} (hl : loose.length + ps.length ≤ 4096) (hu : u + ps.length ≤ secs.length) (hk : ∀ k p, ps[k]? = some p → (fr : Int) + p.idx = ((u + k : Nat) : Int) ∧ PgOk p) : ∀ a, a < secs.length → viewD (setD secs (loose ++ wrL (fr : Int) ps)) [] a = putV (viewD secs loose) u ps a := fun a ha => by
 have hr : rightD secs (loose ++ wrL (fr : Int) ps) = true := right_app h (by rw [wrL_len]; exact hl) fun q hq => by
  obtain ⟨x, hx, rfl⟩ := List.mem_map.1 hq
  obtain ⟨k, hk1⟩ := List.mem_iff_getElem?.1 hx
  have := (hk k x hk1).1
  have := (List.getElem?_eq_some_iff.1 hk1).1
  show 0 ≤ (fr : Int) + x.idx ∧ (fr : Int) + x.idx < _
  omega
 rw [view_sync hr ha]
 exact view_put h ha ps hl hu hk
theorem right_set {secs : List (List Int)} {loose l : List (Int × List Int)} (h : rightD secs loose = true) : rightD (setD secs l) [] = true := by
 obtain ⟨h1, h2, h3, h4⟩ := right_of h
 exact right_mk (by rw [setD_len]; exact List.length_pos_iff.2 h1) (by rw [setD_len]; exact h2) (by rw [List.length_nil]; omega) (fun p hp => absurd hp List.not_mem_nil)
theorem lay_k {secs : List (List Int)} {loose : List (Int × List Int)} {f q : Int} {Q : Nat} {recs : List (List Int)} (hr : rightD secs loose = true) (hq : q = (Q : Int)) (hQ : Q ≤ 1) (hf : f < 0) (hg : maxV (viewD secs loose) secs.length < 1099511627776) (hb : ∀ r ∈ recs, Byt r) (hfit : 1 + cntP recs ≤ secs.length / 2) (hl : loose.length + cntP recs ≤ 4096) (hbd : BytD secs loose) :
    ∃ S, layD secs loose f false q recs = (⟨S, [], f, false, 0⟩, q, maxV (viewD secs loose) secs.length + 1, 1 + (cntP recs : Int)) ∧ S.length = secs.length ∧ rightD S [] = true ∧ BytD S [] ∧ ∀ a, a < secs.length → viewD S [] a = layV (viewD secs loose) (Q * (secs.length / 2)) (maxV (viewD secs loose) secs.length + 1) recs a := by
  have hm := maxV_in secs loose
  have hlen := (right_of hr).2.1
  generalize hG : maxV (viewD secs loose) secs.length + 1 = G
  have hG1 : 1 ≤ G ∧ G ≤ 1099511627776 := by omega
  have hin := half_in hQ (k := cntP recs) (n := secs.length) (by omega)
  have hfr : q * ((secs.length : Int) / 2) = ((Q * (secs.length / 2) : Nat) : Int) := by rw [hq, Int.natCast_mul]; rfl
  generalize hFR : Q * (secs.length / 2) = fr at *
  have hpl : (pAll G 1 recs).length = cntP recs := pAll_len G recs 1
  have hpk : ∀ k p, (pAll G 1 recs)[k]? = some p → (fr : Int) + p.idx = ((fr + 1 + k : Nat) : Int) ∧ PgOk p := fun k p hk => ⟨by rw [(pAll_idx hk).1]; omega, pAll_ok hG1 hb (by decide) (by omega) hk⟩
  have hhk : ∀ (k : Nat) (p : Pg), [hdrP G (cntP recs : Int)][k]? = some p → (fr : Int) + p.idx = ((fr + k : Nat) : Int) ∧ PgOk p := fun k p hk => by
    have h1 := (List.getElem?_eq_some_iff.1 hk).1
    rw [List.length_singleton] at h1
    obtain rfl : k = 0 := by omega
    cases hk
    exact ⟨by show (fr : Int) + 0 = _; omega, hdr_ok hG1⟩
  have hr1 : rightD secs (loose ++ wrL (fr : Int) (pAll G 1 recs)) = true := right_app hr (by rw [wrL_len, hpl]; exact hl) fun p hp => by
    obtain ⟨x, hx, rfl⟩ := List.mem_map.1 hp
    exact pages_in hin x hx
  have hr2 : rightD (setD secs (loose ++ wrL (fr : Int) (pAll G 1 recs))) [] = true := right_set hr1
  have hl2 : (setD secs (loose ++ wrL (fr : Int) (pAll G 1 recs))).length = secs.length := setD_len _ _
  have hr3 : rightD (setD secs (loose ++ wrL (fr : Int) (pAll G 1 recs))) ([] ++ wrL (fr : Int) [hdrP G (cntP recs : Int)]) = true := right_app hr2 (by rw [wrL_len]; show 0 + 1 ≤ 4096; decide) fun p hp => by
    obtain ⟨x, hx, rfl⟩ := List.mem_map.1 hp
    rw [List.mem_singleton.1 hx, hl2]
    show 0 ≤ (fr : Int) + 0 ∧ (fr : Int) + 0 < _
    omega
  refine ⟨setD (setD secs (loose ++ wrL (fr : Int) (pAll G 1 recs))) ([] ++ wrL (fr : Int) [hdrP G (cntP recs : Int)]), ?_, ?_, ?_, ?_, ?_⟩
  · have e1 : layW (d0D secs loose f false) (fr : Int) G recs = ⟨setD (setD secs (loose ++ wrL (fr : Int) (pAll G 1 recs))) ([] ++ wrL (fr : Int) [hdrP G (cntP recs : Int)]), [], f, false, 0⟩ := by
      unfold layW d0D
      rw [wrAll_k _ _ _ hr (by rw [hpl]; exact hl) (pages_in hin) (.inl hf), if_pos hf, wrS_one hr1, if_neg (by omega), if_pos hf, wr_one hr2 (by rw [List.length_nil]; omega) (by show 0 ≤ (fr : Int) + 0 ∧ (fr : Int) + 0 < _; rw [hl2]; omega), if_neg (by omega), if_pos hf, wrS_one hr3, if_neg (by omega), if_pos hf]
    unfold layD
    rw [next_g hg, if_neg (fun q => q rfl)]
    show (if (doneD (d0D secs loose f false) (layW (d0D secs loose f false) (q * ((secs.length : Int) / 2)) (maxV (viewD secs loose) secs.length + 1) recs)).err = 0 then _ else _) = _
    rw [hG, hfr, e1]
    rfl
  · rw [setD_len, setD_len]
  · exact right_set hr3
  · refine setD_byt (bytD_app (setD_byt (bytD_app hbd (pAll_byt hb))) fun p hp => ?_)
    rw [List.mem_singleton.1 hp]
    exact hdr_byt _ _
  · intro a ha
    rw [view_set hr2 (by rw [List.length_nil]; show 0 + 1 ≤ 4096; decide) (u := fr) (by rw [hl2]; show fr + 1 ≤ _; omega) hhk a (by rw [hl2]; exact ha)]
    unfold layV putV
    rw [view_set hr (by rw [hpl]; exact hl) (u := fr + 1) (by rw [hpl]; omega) hpk a ha]
    rfl
theorem pgV_hdr (V : Nat → Option Pg) (fr : Nat) (G : Int) (recs : List (List Int)) : pgV (layV V fr G recs) fr 0 = some (hdrP G (cntP recs : Int)) := by
 have e : layV V fr G recs (fr + 0) = some (hdrP G (cntP recs : Int)) := by
  unfold layV putV
  rw [List.length_singleton, if_pos (show fr ≤ fr + 0 ∧ fr + 0 < fr + 1 by omega), show fr + 0 - fr = 0 by omega]; rfl
 unfold pgV
 rw [e]
 exact if_pos rfl
theorem layV_pg {V : Nat → Option Pg} {fr : Nat} {G : Int} {recs : List (List Int)} {k : Nat} (hk : k < cntP recs) : layV V fr G recs (fr + (1 + k)) = (pAll G 1 recs)[k]? := by
 unfold layV putV
 rw [List.length_singleton, if_neg (show ¬ (fr ≤ fr + (1 + k) ∧ fr + (1 + k) < fr + 1) by omega), if_pos (show fr + 1 ≤ fr + (1 + k) ∧ fr + (1 + k) < fr + 1 + (pAll G 1 recs).length by rw [pAll_len]; omega), show fr + (1 + k) - (fr + 1) = k by omega]
theorem layV_out {V : Nat → Option Pg} {fr : Nat} {G : Int} {recs : List (List Int)} {a : Nat} (ha : a < fr ∨ fr + 1 + cntP recs ≤ a) : layV V fr G recs a = V a := by
 unfold layV putV
 rw [List.length_singleton, if_neg (show ¬ (fr ≤ a ∧ a < fr + 1) by omega), if_neg (by rw [pAll_len]; omega)]
theorem recD_no {pg : Nat → Option Pg} {sz st : Nat} {gen : Int} (h : st < sz → ∀ p, pg st = some p → p.gen ≠ gen) : recD pg sz st gen = none := by
  unfold recD
  by_cases hs : st < sz
  · cases e : pg st with
    | none => exact recN_p hs e
    | some p => exact recN_g hs e (.inl (h hs p e))
  · exact recN_end hs
theorem lay_half {V : Nat → Option Pg} {fr h : Nat} {G : Int} {recs : List (List Int)} (hfit : 1 + cntP recs ≤ h) (hg : ∀ a p, fr ≤ a → a < fr + h → V a = some p → p.gen < G) : HalfV (pgV (layV V fr G recs) fr) h G recs [] := by
  refine ⟨pgV_hdr V fr G recs, ?_, ?_, ?_⟩
  · rw [List.append_nil]
    intro k hk
    have e := layV_pg (V := V) (fr := fr) (G := G) hk
    unfold pgV
    rw [e]
    cases e2 : (pAll G 1 recs)[k]? with
    | none => rfl
    | some p =>
      have := (pAll_idx e2).1
      exact if_pos (by omega)
  · rw [List.append_nil]; exact hfit
  · rw [List.append_nil]
    refine recD_no fun hs p hp => ?_
    unfold pgV at hp
    rw [layV_out (by omega)] at hp
    split at hp
    · rename_i p' hp'
      split at hp
      · cases hp
        have := hg _ _ (by omega) (by omega) hp'
        omega
      · cases hp
    · cases hp
theorem lay_other {V : Nat → Option Pg} {Q h : Nat} {G : Int} {recs : List (List Int)} (hQ : Q ≤ 1) (hfit : 1 + cntP recs ≤ h) {k : Nat} (hk : k < h) : pgV (layV V (Q * h) G recs) ((1 - Q) * h) k = pgV V ((1 - Q) * h) k := by
 unfold pgV
 rw [layV_out (by
  have : Q = 0 ∨ Q = 1 := by omega
  rcases this with rfl | rfl <;> omega)]
theorem lay_max {V : Nat → Option Pg} {fr n : Nat} {G : Int} {recs : List (List Int)} (hG : 0 ≤ G) (hf : fr < n) (hg : ∀ a p, a < n → V a = some p → p.gen < G) : maxV (layV V fr G recs) n = G := by
  refine Int.le_antisymm (maxV_le hG fun a p ha hp => ?_) ?_
  · by_cases h1 : a < fr ∨ fr + 1 + cntP recs ≤ a
    · rw [layV_out h1] at hp
      exact Int.le_of_lt (hg a p ha hp)
    · by_cases h2 : a = fr
      · subst h2
        have : layV V a G recs a = some (hdrP G (cntP recs : Int)) := by
          unfold layV putV
          rw [if_pos (by simp), Nat.sub_self]; rfl
        rw [this] at hp
        cases hp
        exact Int.le_refl _
      · have e := layV_pg (V := V) (fr := fr) (G := G) (recs := recs) (k := a - fr - 1) (by omega)
        rw [show fr + (1 + (a - fr - 1)) = a by omega, hp] at e
        exact Int.le_of_eq (pAll_idx e.symm).2.1
  · have : layV V fr G recs fr = some (hdrP G (cntP recs : Int)) := by
      unfold layV putV
      rw [if_pos (by simp), Nat.sub_self]; rfl
    exact maxV_ge (p := hdrP G (cntP recs : Int)) hf this
end Go.Proofs.YtfachlmgdlnpoaaDoor
namespace Go.Proofs.YtfachlmgdlnpoaaDoor
set_option linter.unusedVariables false
set_option maxRecDepth 8000

theorem recN_lt {pg : Nat → Option Pg} {sz st : Nat} {gen : Int} : ∀ (f k : Nat) (out r : List Int) (k' : Nat), recN pg sz st gen f k out = some (r, k') → k' ≤ sz
  | 0, k, out, r, k', h => by cases h
  | f + 1, k, out, r, k', h => by
    rw [recN] at h
    split at h
    · split at h
      · cases h
      · split at h
        · cases h
        · split at h
          · split at h
            · cases h
            · cases h; omega
          · split at h
            · cases h
            · exact recN_lt f _ _ r k' h
    · cases h
theorem recs1_lt {pg : Nat → Option Pg} {sz n : Nat} {gen : Int} : ∀ (f k : Nat) (l l' : List (List Int)) (k' : Nat), recs1 pg sz n gen f k l = some (l', k') → k ≤ sz → k' ≤ sz
  | 0, k, l, l', k', h, _ => by cases h
  | f + 1, k, l, l', k', h, hk => by
    rw [recs1] at h
    split at h
    · split at h
      · cases h
      · rename_i out k2 hr
        split at h
        · cases h
        · exact recs1_lt f k2 _ l' k' h (recN_lt _ _ _ _ _ hr)
    · cases h; exact hk
theorem recs2_lt {pg : Nat → Option Pg} {sz : Nat} {gen : Int} : ∀ (f k : Nat) (l : List (List Int)), k ≤ sz → (recs2 pg sz gen f k l).2 ≤ sz
  | 0, k, l, hk => hk
  | f + 1, k, l, hk => by
    rw [recs2]
    split
    · exact hk
    · rename_i out k2 hr
      exact recs2_lt f k2 _ (recN_lt _ _ _ _ _ hr)
theorem recsD_lt {pg : Nat → Option Pg} {sz : Nat} (hs : 1 ≤ sz) {l : List (List Int)} {g : Int} {u : Nat} (h : recsD pg sz = some (l, g, u)) : u ≤ sz ∧ ∃ p, pg 0 = some p ∧ p.gen = g := by
  unfold recsD at h
  split at h
  · cases h
  · rename_i p hp
    split at h
    · cases h
    · split at h
      · cases h
      · split at h
        · cases h
        · rename_i l1 k1 h1
          cases h
          exact ⟨recs2_lt _ _ _ (recs1_lt _ _ _ _ _ h1 hs), p, hp, rfl⟩
theorem pgV_gen {secs : List (List Int)} {loose : List (Int × List Int)} {fr k : Nat} {p : Pg} (h : pgV (viewD secs loose) fr k = some p) (hf : fr + k < secs.length) : 1 ≤ p.gen ∧ p.gen ≤ maxV (viewD secs loose) secs.length := by
  unfold pgV at h
  split at h
  · rename_i q hq
    split at h
    · cases h; exact ⟨(unseal_gen hq).1, maxV_ge hf hq⟩
    · cases h
  · cases h
structure Opn (S : List (List Int)) (n Q : Nat) (G : Int) (l : List (List Int)) : Prop where
  len : S.length = n
  n1 : 8 ≤ n
  n2 : n ≤ 2048
  hQ : Q ≤ 1
  g1 : 1 ≤ G ∧ G ≤ 1099511627776
  right : rightD S [] = true
  byt : BytD S []
  half : ∃ A B, l = A ++ B ∧ HalfV (pgV (viewD S []) (Q * (n / 2))) (n / 2) G A B
  max : maxV (viewD S []) n = G
  oth : ∀ r g u, recsD (pgV (viewD S []) ((1 - Q) * (n / 2))) (n / 2) = some (r, g, u) → g < G
  lb : ∀ r ∈ l, Byt r
  beh : ∀ a p, Q * (n / 2) + 1 + cntP l ≤ a → a < Q * (n / 2) + n / 2 → viewD S [] a = some p → p.gen < G
theorem rec_half {secs : List (List Int)} {loose : List (Int × List Int)} (hr : rightD secs loose = true) (hn : 8 ≤ secs.length) {q : Int} {Q : Nat} (hq : q = (Q : Int)) (hQ : Q ≤ 1) : recordsD secs loose false q = recsD (pgV (viewD secs loose) (Q * (secs.length / 2))) (secs.length / 2) := by
 have hc : checkD secs loose false = 0 := by
  unfold checkD
  rw [if_neg (by rintro (e | e); rw [hr] at e; cases e; omega), if_neg (by decide)]
 unfold recordsD
 rw [if_neg (by omega)]
 exact half_view hr (by omega) hq hQ
theorem pick_Q {Q : Nat} (hQ : Q ≤ 1) {x : Nat → Option (List (List Int) × Int × Nat)} {l : List (List Int)} {G : Int} {u : Nat} (h1 : x Q = some (l, G, u)) (h2 : ∀ r g v, x (1 - Q) = some (r, g, v) → g < G) : pickD (x 0) (x 1) = some (l, ((1 - Q : Nat) : Int)) := by
  have : Q = 0 ∨ Q = 1 := by omega
  rcases this with rfl | rfl
  · rw [h1]
    cases e : x 1 with
    | none => rfl
    | some b => have := h2 b.1 b.2.1 b.2.2 e; exact if_neg (by show ¬ G < b.2.1; omega)
  · rw [h1]
    cases e : x 0 with
    | none => rfl
    | some b => have := h2 b.1 b.2.1 b.2.2 e; exact if_pos (by show b.2.1 < G; omega)
theorem Opn.both {S : List (List Int)} {n Q : Nat} {G : Int} {l : List (List Int)} (h : Opn S n Q G l) : bothD S [] false = some (l, ((1 - Q : Nat) : Int)) := by
 obtain ⟨A, B, rfl, hh⟩ := h.half
 have e0 : recordsD S [] false 0 = recsD (pgV (viewD S []) (0 * (n / 2))) (n / 2) := by have := rec_half h.right (by rw [h.len]; exact h.n1) (q := 0) (Q := 0) rfl (by decide); rw [h.len] at this; exact this
 have e1 : recordsD S [] false 1 = recsD (pgV (viewD S []) (1 * (n / 2))) (n / 2) := by have := rec_half h.right (by rw [h.len]; exact h.n1) (q := 1) (Q := 1) rfl (by decide); rw [h.len] at this; exact this
 unfold bothD
 rw [e0, e1]
 exact pick_Q (x := fun Q => recsD (pgV (viewD S []) (Q * (n / 2))) (n / 2)) h.hQ (hh.recs (by have := h.n2; omega)) h.oth
theorem layS {secs : List (List Int)} {loose : List (Int × List Int)} {f q : Int} {Q : Nat} {recs : List (List Int)} (hr : rightD secs loose = true) (h8 : 8 ≤ secs.length) (hq : q = (Q : Int)) (hQ : Q ≤ 1) (hf : f < 0) (hg : maxV (viewD secs loose) secs.length < 1099511627776) (hb : ∀ r ∈ recs, Byt r) (hfit : 1 + cntP recs ≤ secs.length / 2) (hl : loose.length + cntP recs ≤ 4096) (hbd : BytD secs loose) :
    ∃ S, layD secs loose f false q recs = (⟨S, [], f, false, 0⟩, q, maxV (viewD secs loose) secs.length + 1, 1 + (cntP recs : Int)) ∧ Opn S secs.length Q (maxV (viewD secs loose) secs.length + 1) recs := by
  obtain ⟨S, e, hl1, hr1, hb1, hv⟩ := lay_k hr hq hQ hf hg hb hfit hl hbd
  have hm := maxV_in secs loose
  have hn2 := (right_of hr).2.1
  refine ⟨S, e, hl1, h8, hn2, hQ, by omega, hr1, hb1, ?_, ?_, ?_, hb, ?_⟩
  · refine ⟨recs, [], (List.append_nil _).symm, ?_⟩
    have hh := lay_half (V := viewD secs loose) (fr := Q * (secs.length / 2)) (h := secs.length / 2) (G := maxV (viewD secs loose) secs.length + 1) (recs := recs) hfit fun a p ha1 ha2 hp => by
      have := half_in hQ (k := a - Q * (secs.length / 2)) (n := secs.length) (by omega)
      have := maxV_ge (k := secs.length) (by omega) hp
      omega
    have hx : ∀ k, k < secs.length / 2 → pgV (viewD S []) (Q * (secs.length / 2)) k = pgV (layV (viewD secs loose) (Q * (secs.length / 2)) (maxV (viewD secs loose) secs.length + 1) recs) (Q * (secs.length / 2)) k := fun k hk => by
      unfold pgV
      rw [hv _ (half_in hQ hk)]
    refine ⟨by rw [hx 0 (by omega)]; exact hh.hdr, fun k hk => by rw [hx _ (by have := hh.fit; omega)]; exact hh.pgs k hk, hh.fit, ?_⟩
    rw [recD_ext hx]
    exact hh.stop
  · rw [maxV_ext hv]
    exact lay_max (by omega) (by have := half_in hQ (k := 0) (n := secs.length) (by omega); omega) fun a p ha hp => by have := maxV_ge ha hp; omega
  · intro r g u hru
    have hx : ∀ k, k < secs.length / 2 → pgV (viewD S []) ((1 - Q) * (secs.length / 2)) k = pgV (viewD secs loose) ((1 - Q) * (secs.length / 2)) k := fun k hk => by
      rw [← lay_other (V := viewD secs loose) (G := maxV (viewD secs loose) secs.length + 1) (recs := recs) hQ hfit hk]
      unfold pgV
      rw [hv _ (half_in (by omega) hk)]
    rw [recsD_ext (by omega) hx] at hru
    obtain ⟨_, p, hp, rfl⟩ := recsD_lt (by omega) hru
    have := (pgV_gen hp (by have := half_in (Q := 1 - Q) (by omega) (k := 0) (n := secs.length) (by omega); omega)).2
    omega
  · intro a p ha1 ha2 hp
    have hin := half_in hQ (k := a - Q * (secs.length / 2)) (n := secs.length) (by omega)
    rw [hv a (by omega), layV_out (by omega)] at hp
    have := maxV_ge (k := secs.length) (by omega) hp
    omega
theorem check_0 {secs : List (List Int)} {loose : List (Int × List Int)} (hr : rightD secs loose = true) (hn : 8 ≤ secs.length) : checkD secs loose false = 0 := by
 unfold checkD
 rw [if_neg (by rintro (e | e); rw [hr] at e; cases e; omega), if_neg (by decide)]
theorem Opn.next {S : List (List Int)} {n Q : Nat} {G : Int} {l : List (List Int)} (h : Opn S n Q G l) {f : Int} (hf : f < 0) : (openD S [] f false).1.1.err = 5 ∨ ∃ S', openD S [] f false = ((⟨S', [], f, false, 0⟩, ((1 - Q : Nat) : Int), G + 1, 1 + (cntP l : Int)), l) ∧ Opn S' n (1 - Q) (G + 1) l := by
  have hc := check_0 h.right (by rw [h.len]; exact h.n1)
  obtain ⟨A, B, rfl, hh⟩ := h.half
  have hfit := hh.fit
  by_cases hG : G = 1099511627776
  · refine .inl ?_
    have he : layD S [] f false ((1 - Q : Nat) : Int) (A ++ B) = (⟨S, [], f, false, 5⟩, 0, 0, 0) := by
      unfold layD
      rw [next_r (by rw [h.len, h.max, hG]), if_pos (by show ¬ (5 : Int) = 0; decide)]
    rw [openD_f hc h.both (by rw [he]; show ¬ (5 : Int) = 0; decide), he]
  · obtain ⟨S', e, ho⟩ := layS (f := f) (q := ((1 - Q : Nat) : Int)) (Q := 1 - Q) h.right (by rw [h.len]; exact h.n1) rfl (by omega) hf (by rw [h.len, h.max]; have := h.g1; omega) h.lb (by rw [h.len]; exact hfit) (by have := h.n2; rw [List.length_nil]; omega) h.byt
    rw [h.len, h.max] at e ho
    exact .inr ⟨S', by rw [openD_k hc h.both (by rw [e]), e], ho⟩
theorem pagesD_ok {G : Int} {u : Nat} {r : List Int} (hg : 1 ≤ G ∧ G ≤ 1099511627776) (hb : Byt r) (hc : u + nPg r ≤ 100000) {k : Nat} {p : Pg} (h : (pagesD G (u : Int) r)[k]? = some p) : p.idx = (u : Int) + (k : Int) ∧ p.gen = G ∧ PgOk p := by
 have hk := (List.getElem?_eq_some_iff.1 h).1
 rw [pagesD_len] at hk
 rw [pagesD_at hk] at h
 cases h
 refine ⟨rfl, rfl, hg.1, hg.2, ?_, ?_, ?_, ?_, ch_len _ _, ch_byt hb _⟩
 · show (0 : Int) ≤ (u : Int) + (k : Int); omega
 · show (u : Int) + (k : Int) < 4294967296; omega
 · show (0 : Int) ≤ (if k = 0 then 1 else 0) + (if k + 1 = nPg r then 2 else 0); split <;> split <;> decide
 · show (if k = 0 then (1 : Int) else 0) + (if k + 1 = nPg r then 2 else 0) ≤ 3; split <;> split <;> decide
theorem pAll_snoc (G : Int) (l : List (List Int)) (r : List Int) : pAll G 1 (l ++ [r]) = pAll G 1 l ++ pagesD G ((1 + cntP l : Nat) : Int) r := by
 rw [pAll_add]
 congr 2
theorem Opn.app {S : List (List Int)} {n Q : Nat} {G : Int} {l : List (List Int)} (h : Opn S n Q G l) {f : Int} (hf : f < 0) {r : List Int} (hb : Byt r) (hr : r.length ≤ 4096) (hfit : 1 + cntP l + nPg r ≤ n / 2) : ∃ S', appendD S [] f false (Q : Int) G (1 + (cntP l : Int)) r = (⟨S', [], f, false, 0⟩, (Q : Int), G, 1 + (cntP (l ++ [r]) : Int)) ∧ Opn S' n Q G (l ++ [r]) := by
  have hQ := h.hQ; have hg := h.g1; have hn1 := h.n1; have hn2 := h.n2; have hlen := h.len
  have hin := half_in hQ (k := cntP l + nPg r) (n := n) (by omega)
  generalize hFR : Q * (n / 2) = fr at hin
  have hfr : (Q : Int) * ((S.length : Int) / 2) = (fr : Int) := by rw [hlen, ← hFR, Int.natCast_mul]; rfl
  have hpl : (pagesD G ((1 + cntP l : Nat) : Int) r).length = nPg r := pagesD_len ..
  have hok : ∀ (k : Nat) (p : Pg), (pagesD G ((1 + cntP l : Nat) : Int) r)[k]? = some p → p.idx = ((1 + cntP l : Nat) : Int) + (k : Int) ∧ p.gen = G ∧ PgOk p := fun k p hp => pagesD_ok hg hb (by omega) hp
  have hpk : ∀ (k : Nat) (p : Pg), (pagesD G ((1 + cntP l : Nat) : Int) r)[k]? = some p → (fr : Int) + p.idx = ((fr + 1 + cntP l + k : Nat) : Int) ∧ PgOk p := fun k p hp => ⟨by rw [(hok k p hp).1]; omega, (hok k p hp).2.2⟩
  have hpi : ∀ p ∈ pagesD G ((1 + cntP l : Nat) : Int) r, 0 ≤ (fr : Int) + p.idx ∧ (fr : Int) + p.idx < (S.length : Int) := fun p hp => by
    obtain ⟨k, hk⟩ := List.mem_iff_getElem?.1 hp
    have h1 := (hok k p hk).1
    have h2 := (List.getElem?_eq_some_iff.1 hk).1
    rw [hpl] at h2
    omega
  have hr1 : rightD S ([] ++ wrL (fr : Int) (pagesD G ((1 + cntP l : Nat) : Int) r)) = true := right_app h.right (by rw [wrL_len, hpl, List.length_nil]; omega) fun p hp => by
    obtain ⟨x, hx, rfl⟩ := List.mem_map.1 hp
    exact hpi x hx
  have e : appW S [] f false (Q : Int) G (1 + (cntP l : Int)) r = ⟨setD S ([] ++ wrL (fr : Int) (pagesD G ((1 + cntP l : Nat) : Int) r)), [], f, false, 0⟩ := by
    unfold appW d0D
    rw [hfr, show (1 + (cntP l : Int)) = ((1 + cntP l : Nat) : Int) by omega, wrAll_k _ _ _ h.right (by rw [hpl, List.length_nil]; omega) hpi (.inl hf), if_pos hf, wrS_one hr1, if_neg (by omega), if_pos hf]
    rfl
  have hv : ∀ a, a < n → viewD (setD S ([] ++ wrL (fr : Int) (pagesD G ((1 + cntP l : Nat) : Int) r))) [] a = putV (viewD S []) (fr + 1 + cntP l) (pagesD G ((1 + cntP l : Nat) : Int) r) a := fun a ha => view_set h.right (by rw [hpl, List.length_nil]; omega) (by rw [hpl]; omega) hpk a (by omega)
  have hvin : ∀ k, k < nPg r → putV (viewD S []) (fr + 1 + cntP l) (pagesD G ((1 + cntP l : Nat) : Int) r) (fr + (1 + (cntP l + k))) = (pagesD G ((1 + cntP l : Nat) : Int) r)[k]? := fun k hk => by
    unfold putV
    rw [if_pos (by rw [hpl]; omega), show fr + (1 + (cntP l + k)) - (fr + 1 + cntP l) = k by omega]
  have hvout : ∀ a, a < fr + 1 + cntP l ∨ fr + 1 + cntP l + nPg r ≤ a → putV (viewD S []) (fr + 1 + cntP l) (pagesD G ((1 + cntP l : Nat) : Int) r) a = viewD S [] a := fun a ha => by
    unfold putV
    rw [if_neg (by rw [hpl]; omega)]
  have hlg : logD (S.length : Int) (Q : Int) G (1 + (cntP l : Int)) = 0 := by
    unfold logD
    rw [if_neg (by omega)]
  refine ⟨setD S ([] ++ wrL (fr : Int) (pagesD G ((1 + cntP l : Nat) : Int) r)), ?_, by rw [setD_len]; exact hlen, hn1, hn2, hQ, hg, right_set hr1, ?_, ?_, ?_, ?_, ?_, ?_⟩
  · unfold appendD
    rw [if_neg (fun q => q (check_0 h.right (by omega))), if_neg (fun q => q hlg), if_neg (by omega), if_neg (by rw [sizeD_n hr]; omega), e, if_pos rfl, sizeD_n hr, cntP_add]
    congr 3
    omega
  · refine setD_byt (bytD_app h.byt fun p hp => ?_)
    obtain ⟨k, hk⟩ := List.mem_iff_getElem?.1 hp
    exact (hok k p hk).2.2.db
  · obtain ⟨A, B, rfl, hh⟩ := h.half
    rw [hFR] at hh ⊢
    refine ⟨A, B ++ [r], (List.append_assoc ..), ?_, ?_, ?_, ?_⟩
    · have : pgV (viewD S []) fr 0 = some (hdrP G (cntP A : Int)) := hh.hdr
      unfold pgV at this ⊢
      rw [hv _ (by omega), hvout _ (by omega)]
      exact this
    · rw [← List.append_assoc]
      intro k hk
      rw [cntP_add] at hk
      rw [pAll_snoc]
      by_cases hk2 : k < cntP (A ++ B)
      · have := hh.pgs k hk2
        unfold pgV at this ⊢
        rw [hv _ (by omega), hvout _ (by omega), List.getElem?_append_left (by rw [pAll_len]; exact hk2)]
        exact this
      · rw [List.getElem?_append_right (by rw [pAll_len]; omega), pAll_len]
        have e1 := hvin (k - cntP (A ++ B)) (by omega)
        rw [show fr + (1 + (cntP (A ++ B) + (k - cntP (A ++ B)))) = fr + (1 + k) by omega] at e1
        unfold pgV
        rw [hv _ (by omega), e1]
        cases e2 : (pagesD G ((1 + cntP (A ++ B) : Nat) : Int) r)[k - cntP (A ++ B)]? with
        | none => rfl
        | some p => exact if_pos (by rw [(hok _ _ e2).1]; omega)
    · rw [← List.append_assoc, cntP_add]; omega
    · rw [← List.append_assoc, cntP_add]
      refine recD_no fun hs p hp => ?_
      unfold pgV at hp
      rw [hv _ (by have := half_in hQ (k := 1 + (cntP (A ++ B) + nPg r)) hs; omega), hvout _ (by omega)] at hp
      split at hp
      · rename_i p' hp'
        split at hp
        · cases hp
          have := h.beh _ _ (by omega) (by omega) hp'
          omega
        · cases hp
      · cases hp
  · refine Int.le_antisymm (maxV_le (by omega) fun a p ha hp => ?_) ?_
    · rw [hv a ha] at hp
      by_cases h1 : a < fr + 1 + cntP l ∨ fr + 1 + cntP l + nPg r ≤ a
      · rw [hvout a h1] at hp
        rw [← h.max]
        exact maxV_ge ha hp
      · have e1 := hvin (a - (fr + 1 + cntP l)) (by omega)
        rw [show fr + (1 + (cntP l + (a - (fr + 1 + cntP l)))) = a by omega, hp] at e1
        exact Int.le_of_eq (hok _ _ e1.symm).2.1
    · obtain ⟨A, B, _, hh⟩ := h.half
      have hd : pgV (viewD S []) fr 0 = some (hdrP G (cntP A : Int)) := by rw [← hFR]; exact hh.hdr
      unfold pgV at hd
      split at hd
      · rename_i p hp
        split at hd
        · have e3 : p = hdrP G (cntP A : Int) := Option.some.inj hd
          have hx : viewD (setD S ([] ++ wrL (fr : Int) (pagesD G ((1 + cntP l : Nat) : Int) r))) [] (fr + 0) = some p := by rw [hv _ (by omega), hvout _ (by omega)]; exact hp
          have hge := maxV_ge (k := n) (by omega) hx
          rw [e3] at hge
          exact hge
        · cases hd
      · cases hd
  · intro r' g u hru
    have hx : ∀ k, k < n / 2 → pgV (viewD (setD S ([] ++ wrL (fr : Int) (pagesD G ((1 + cntP l : Nat) : Int) r))) []) ((1 - Q) * (n / 2)) k = pgV (viewD S []) ((1 - Q) * (n / 2)) k := fun k hk => by
      unfold pgV
      rw [hv _ (half_in (by omega) hk), hvout _ (by
        have : Q = 0 ∨ Q = 1 := by omega
        rcases this with rfl | rfl <;> omega)]
    rw [recsD_ext (by omega) hx] at hru
    exact h.oth _ _ _ hru
  · intro x hx
    rcases List.mem_append.1 hx with hx | hx
    · exact h.lb x hx
    · rw [List.mem_singleton.1 hx]; exact hb
  · rw [cntP_add, hFR]
    intro a p ha1 ha2 hp
    rw [hv a (by have := half_in hQ (k := a - fr) (n := n) (by omega); omega), hvout a (by omega)] at hp
    exact h.beh a p (by omega) (by omega) hp
theorem Opn.recs {S : List (List Int)} {n Q : Nat} {G : Int} {l : List (List Int)} (h : Opn S n Q G l) {q : Int} (hq : q = (Q : Int)) : recordsD S [] false q = some (l, G, 1 + cntP l) := by
 obtain ⟨A, B, rfl, hh⟩ := h.half
 have := rec_half h.right (by rw [h.len]; exact h.n1) hq h.hQ
 rw [h.len] at this
 rw [this]
 exact hh.recs (by have := h.n2; omega)
theorem view_new (n : Nat) (a : Nat) : viewD (List.replicate n z0) [] a = none := by
  have e : (readS (List.replicate n z0) [] false (a : Int)).1 = z0 := by
    unfold readS
    split
    · rfl
    · split
      · rfl
      · rename_i h
        have hl : a < n := by
          cases hh : hasB (List.replicate n z0) (a : Int) with
          | false => exact absurd hh h
          | true => have := hasB_t hh; rw [List.length_replicate] at this; omega
        rw [if_neg (by decide)]
        show ((List.replicate n z0)[a]?.getD []) = z0
        rw [List.getElem?_replicate, if_pos hl]; rfl
  unfold viewD
  rw [e]; exact unseal_z0
theorem format_new {n : Nat} (h1 : 8 ≤ n) (h2 : n ≤ 2048) {f : Int} (hf : f < 0) : ∃ S, formatD (List.replicate n z0) [] f false = (⟨S, [], f, false, 0⟩, 0, 1, 1) ∧ Opn S n 0 1 [] := by
 have hr : rightD (List.replicate n z0) [] = true := right_mk (by rw [List.length_replicate]; omega) (by rw [List.length_replicate]; exact h2) (by rw [List.length_nil]; omega) (fun p hp => absurd hp List.not_mem_nil)
 have hm : maxV (viewD (List.replicate n z0) []) (List.replicate n z0).length = 0 := Int.le_antisymm (maxV_le (Int.le_refl _) fun a p _ hp => by rw [view_new] at hp; cases hp) (maxV_in _ _).1
 have hb : BytD (List.replicate n z0) [] := ⟨fun z hz => by rw [(List.mem_replicate.1 hz).2]; exact z0_byt, fun p hp => absurd hp List.not_mem_nil⟩
 obtain ⟨S, e, ho⟩ := layS (f := f) (q := 0) (Q := 0) (recs := []) hr (by rw [List.length_replicate]; exact h1) rfl (by decide) hf (by rw [hm]; decide) (fun r hr => by cases hr) (by rw [List.length_replicate]; show 1 + 0 ≤ _; omega) (by decide) hb
 rw [hm, List.length_replicate] at ho
 rw [hm] at e
 refine ⟨S, ?_, ho⟩
 rw [formatD_k (check_0 hr (by rw [List.length_replicate]; exact h1)), e]
 rfl
end Go.Proofs.YtfachlmgdlnpoaaDoor
namespace Go.Proofs.YtfachlmgdlnpoaaDoor
open Go.RowKit
set_option linter.unusedVariables false
set_option linter.unusedSimpArgs false
set_option maxRecDepth 8000
set_option maxHeartbeats 2000000

theorem Opn.next1 {S : List (List Int)} {n Q : Nat} {G : Int} {l : List (List Int)} (h : Opn S n Q G l) (hG : G < 1099511627776) : ∃ S', openD S [] (-1) false = ((⟨S', [], -1, false, 0⟩, ((1 - Q : Nat) : Int), G + 1, 1 + (cntP l : Int)), l) ∧ Opn S' n (1 - Q) (G + 1) l := by
 have hc := check_0 h.right (by rw [h.len]; exact h.n1)
 obtain ⟨A, B, rfl, hh⟩ := h.half
 have hfit := hh.fit
 obtain ⟨S', e, ho⟩ := layS (f := -1) (q := ((1 - Q : Nat) : Int)) (Q := 1 - Q) h.right (by rw [h.len]; exact h.n1) rfl (by omega) (by decide) (by rw [h.len, h.max]; exact hG) h.lb (by rw [h.len]; exact hfit) (by have := h.n2; rw [List.length_nil]; omega) h.byt
 rw [h.len, h.max] at e ho
 exact ⟨S', by rw [openD_k hc h.both (by rw [e]), e], ho⟩
def TupE (L : List Nat) (S : List (List Int)) (T : List (Int × List Int)) (f : Int) (d : Bool) (h g u e : Int) (v : Value) (W : World) : Prop := ∃ t1 t2, v = .tuple #[.agg #[t1, t2, .int .i64 f, .bool d], .agg #[.int .i64 h, .int .i64 g, .int .i64 u], .int .i64 e] ∧ RdF 128 L W t1 (S.map encS) ∧ RdF 129 L W t2 (T.map encW)
def TupR (L : List Nat) (S : List (List Int)) (T : List (Int × List Int)) (f : Int) (d : Bool) (h g u e : Int) (l : List (List Int)) (v : Value) (W : World) : Prop := ∃ t1 t2 lv rs, v = .tuple #[.agg #[t1, t2, .int .i64 f, .bool d], .agg #[.int .i64 h, .int .i64 g, .int .i64 u], lv, .int .i64 e] ∧ RdF 128 L W t1 (S.map encS) ∧ RdF 129 L W t2 (T.map encW) ∧ RdF 1 L W lv (rs.map encR) ∧ RdRs L W rs ∧ (∀ r ∈ rs, Byt r.1 ∧ r.1.length ≤ 1000000) ∧ rs.map Prod.fst = l
theorem TupE.below {L : List Nat} {S : List (List Int)} {T : List (Int × List Int)} {f : Int} {d : Bool} {h g u e : Int} {v : Value} {w w' : World} (hh : TupE L S T f d h g u e v w) (hb : Below w.heap.size w w') : TupE L S T f d h g u e v w' := by
 obtain ⟨t1, t2, ev, h1, h2⟩ := hh
 exact ⟨t1, t2, ev, h1.below hb, h2.below hb⟩
theorem TupE.only {L : List Nat} {S : List (List Int)} {T : List (Int × List Int)} {f : Int} {d : Bool} {h g u e : Int} {v : Value} {w w' : World} (hh : TupE L S T f d h g u e v w) {B : Nat} (ho : Only B w w') (hB : B ∈ L) : TupE L S T f d h g u e v w' := by
 obtain ⟨t1, t2, ev, h1, h2⟩ := hh
 exact ⟨t1, t2, ev, h1.only ho hB, h2.only ho hB⟩
def AggE (L : List Nat) (S : List (List Int)) (T : List (Int × List Int)) (f : Int) (d : Bool) (v : Value) (W : World) : Prop := ∃ t1 t2, v = .agg #[t1, t2, .int .i64 f, .bool d] ∧ RdF 128 L W t1 (S.map encS) ∧ RdF 129 L W t2 (T.map encW)
theorem AggE.below {L : List Nat} {S : List (List Int)} {T : List (Int × List Int)} {f : Int} {d : Bool} {v : Value} {w w' : World} (hh : AggE L S T f d v w) (hb : Below w.heap.size w w') : AggE L S T f d v w' := by
 obtain ⟨t1, t2, ev, h1, h2⟩ := hh
 exact ⟨t1, t2, ev, h1.below hb, h2.below hb⟩
theorem AggE.only {L : List Nat} {S : List (List Int)} {T : List (Int × List Int)} {f : Int} {d : Bool} {v : Value} {w w' : World} (hh : AggE L S T f d v w) {B : Nat} (ho : Only B w w') (hB : B ∈ L) : AggE L S T f d v w' := by
 obtain ⟨t1, t2, ev, h1, h2⟩ := hh
 exact ⟨t1, t2, ev, h1.only ho hB, h2.only ho hB⟩

section
variable {secs : List (List Int)} {loose : List (Int × List Int)} {fuse : Int} {down : Bool} {s1 s2 : Value} {w : World} {L : List Nat} {S : List (List Int)} {T : List (Int × List Int)} {f : Int} {d : Bool} {h g u e : Int} {l : List (List Int)}
theorem open_e (hE : openD secs loose fuse down = ((⟨S, T, f, d, e⟩, h, g, u), l)) (hL : LL L w) (h1 : RdF 128 L w s1 (secs.map encS)) (h2 : RdF 129 L w s2 (loose.map encW)) (hfu : -9223372036854775808 ≤ fuse ∧ fuse ≤ 9223372036854775807) (hbd : BytD secs loose) (hT : TabS w) : CV Tryd.prog 12 [.agg #[s1, s2, .int .i64 fuse, .bool down]] w fun v W => TupR L S T f d h g u e l v W := by
 have := open_v secs loose fuse down s1 s2 w L hL h1 h2 hfu hbd hT
 rw [hE] at this
 exact this
theorem format_e (hE : formatD secs loose fuse down = (⟨S, T, f, d, e⟩, h, g, u)) (hL : LL L w) (h1 : RdF 128 L w s1 (secs.map encS)) (h2 : RdF 129 L w s2 (loose.map encW)) (hfu : -9223372036854775808 ≤ fuse ∧ fuse ≤ 9223372036854775807) (hbd : BytD secs loose) (hT : TabS w) : CV Tryd.prog 20 [.agg #[s1, s2, .int .i64 fuse, .bool down]] w fun v W => TupE L S T f d h g u e v W := by
 have := format_v secs loose fuse down s1 s2 w L hL h1 h2 hfu hbd hT
 rw [hE] at this
 exact this
theorem append_e {half gen used : Int} {rec : List Int} {rv : Value} (hE : appendD secs loose fuse down half gen used rec = (⟨S, T, f, d, e⟩, h, g, u)) (hL : LL L w) (h1 : RdF 128 L w s1 (secs.map encS)) (h2 : RdF 129 L w s2 (loose.map encW)) (h3 : RdF 1 L w rv (e8s rec)) (hfu : -9223372036854775808 ≤ fuse ∧ fuse ≤ 9223372036854775807) (hbd : BytD secs loose) (hrb : Byt rec) (hul : -9223372036854775808 ≤ used ∧ used ≤ 9223372036854775807) (hrm : rec.length ≤ 1000000000) (hT : TabS w) : CV Tryd.prog 18 [.agg #[s1, s2, .int .i64 fuse, .bool down], .agg #[.int .i64 half, .int .i64 gen, .int .i64 used], rv] w fun v W => TupE L S T f d h g u e v W := by
 have := append_v secs loose fuse down s1 s2 half gen used rec rv w L hL h1 h2 h3 hfu hbd hrb hul hrm hT
 rw [hE] at this
 exact this
theorem new_e {n : Nat} (hn : 1 ≤ n ∧ n ≤ 2048) (hL : LL L w) : CV Tryd.prog 27 [.int .i64 (n : Int)] w fun v W => ∃ t1 t2, v = .tuple #[.agg #[t1, t2, .int .i64 (-1), .bool false], .int .i64 0] ∧ RdF 128 L W t1 ((List.replicate n z0).map encS) ∧ RdF 129 L W t2 (([] : List (Int × List Int)).map encW) := by
 have := new_v (n : Int) w L hL hL
 have e : newS (n : Int) = ⟨List.replicate n z0, [], -1, false, 0⟩ := by unfold newS; rw [if_neg (by omega), Int.toNat_natCast]
 rw [e] at this
 exact this
end
set_option maxHeartbeats 1000000 in
theorem same_v (rs ss : List RcV) (av bv : Value) (w : World) (L : List Nat) (hL : LL L w) (h1 : RdF 1 L w av (rs.map encR)) (ha : RdRs L w rs) (h2 : RdF 1 L w bv (ss.map encR)) (hb : RdRs L w ss)  (hqe : ss.map Prod.fst = rs.map Prod.fst) (hll : ss.length = rs.length) (hlm : rs.length ≤ 1000000) : CV Tryd.prog 17 [av, bv] w fun v W => v = .bool true := by
 refine cv_enter (N := 28) (f := [(0, av), (1, bv)]) Tryd.func17 rfl rfl rfl rfl fun Q hQ hE => ?_
 have hB := Below.refl w.heap.size w
 have h1m : rs.length ≤ maxLen := by have := h1.len; rwa [List.length_map] at this
 unfold maxLen at h1m
 have h2m : ss.length ≤ maxLen := by have := h2.len; rwa [List.length_map] at this
 unfold maxLen at h2m
 refine Sq fun K1 hK1 => (Rg (Pu rfl (Ni (hK1 (Sq fun K2 hK2 => (Sq fun K3 hK3 => (Rg ?_)))))))
 refine Pu rfl (Va (dx_lenM rfl ty_slice_31 rfl h1) rfl rfl (Pu rfl (Va (dx_lenM rfl ty_slice_31 rfl h2) rfl rfl (Va (dx_neq rfl rfl rfl) rfl rfl (Ni (hK3 ?_))))))
 refine WC.cond rfl (fun c4 => ?_) (fun c4 => ?_)
 ·
  replace c4 := bnot_t c4
  replace c4 := dF c4
  refine Sq fun K5 hK5 => (Rg (Pu rfl (Ni (hK5 ?_))))
  exact WC.ret fun a_ ha_ => hQ (cv_ret1 rfl (.tmp rfl) (by omega) hB ha_)
 ·
  replace c4 := bnot_f c4
  replace c4 := dT c4
  refine WC.skip (hK2 (Sq fun K6 hK6 => (Sq fun K7 hK7 => (Rg (Pu rfl (Ni (hK7 ?_)))))))
  refine WC.block ?_
  refine WC.loop (fun (i : Nat) => [(0, av), (1, bv), (5, .int .i64 (i : Int))]) (fun (i : Nat) W => i ≤ rs.length ∧ Below w.heap.size w W ∧ LL (L) W ∧ RdF 1 (L) W av (rs.map encR) ∧ RdRs (L) W rs ∧ RdF 1 (L) W bv (ss.map encR) ∧ RdRs (L) W ss) (fun (i : Nat) => rs.length - i) 0 (by repeat first | exact trivial | refine aR ?_ | refine aI (by omega) ?_) ⟨Nat.zero_le _, hB, hL, h1, ha, h2, hb⟩ ?_
  clear h1 ha h2 hb hB hL
  rintro K8 i W9 ⟨hi, hB, hL, h1, ha, h2, hb⟩ hK8
  refine Sq fun K10 hK10 => (Sq fun K11 hK11 => (Rg (Pu rfl (Pu rfl (Va (dx_lenM rfl ty_slice_31 rfl h1) rfl rfl (Va (dx_lss rfl rfl rfl) rfl rfl (Ni ?_)))))))
  refine hK11 ?_
  refine WC.cond rfl (fun c12 => ?_) (fun c12 => ?_)
  ·
   replace c12 := dT c12
   refine WC.skip (hK10 (Sq fun K13 hK13 => (WC.block (Sq fun K14 hK14 => ?_))))
   obtain ⟨r15, e16⟩ : ∃ x, rs[i]? = some x := ⟨_, List.getElem?_eq_getElem (by omega)⟩
   obtain ⟨r17, e18⟩ : ∃ x, ss[i]? = some x := ⟨_, List.getElem?_eq_getElem (by omega)⟩
   have e1 : r17.1 = r15.1 := Option.some.inj ((show ss[i]?.map Prod.fst = some r17.1 by rw [e18]; rfl).symm.trans ((by rw [← List.getElem?_map, hqe, List.getElem?_map] : ss[i]?.map Prod.fst = rs[i]?.map Prod.fst).trans (by rw [e16]; rfl)))
   have hr15 := ha r15 (List.mem_of_getElem? e16)
   have hr17 := hb r17 (List.mem_of_getElem? e18)
   rw [e1] at hr17
   refine dM 10 [(some 17, .is (av)), (some 18, .is (.int .i64 (i : Int))), (some 19, .by fun u W => PtR (L) W u [r15.2]), (some 20, .is (r15.2)), (some 21, .is (.string (strOfNums r15.1))), (some 22, .is (bv)), (some 23, .is (.int .i64 (i : Int))), (some 24, .by fun u W => PtR (L) W u [r17.2]), (some 25, .is (r17.2)), (some 26, .is (.string (strOfNums r15.1)))] [[], [], [0, 1], [2], [3], [], [], [5, 6], [7], [8]] ⟨fun _ _ _ hb h => h.below hb, fun _ _ _ hb h => h.below hb, trivial⟩ ?_ ?_
   ·
    refine Dc (fun Wd hd => ?_) ?_
    ·
     exact Dd (dx_move rfl rfl) rfl
    refine Dc (fun Wd hd => ?_) ?_
    ·
     exact Dd (dx_move rfl rfl) rfl
    refine Dc (fun Wd hd => ?_) ?_
    ·
     have h1 := h1.below hd
     exact (dx_idxF i rfl ty_slice_31 rfl rfl h1 (by omega) (at_map (enc := encR) e16)).mono (fun v W' h => ⟨by rw [← h.1]; exact Below.refl _ _, by rw [← h.1]; exact h.2⟩)
    refine Dc (fun Wd hd => ?_) ?_
    ·
     intro u6_2 p6_2
     exact Dd (dx_loadP rfl ty_one_40 rfl p6_2) rfl
    refine Dc (fun Wd hd => ?_) ?_
    ·
     have hr15 := hr15.below hd
     exact Dd (dx_bsJ rfl Tryd.underlying40 Tryd.underlying9 Tryd.underlying5 rfl hr15) rfl
    refine Dc (fun Wd hd => ?_) ?_
    ·
     exact Dd (dx_move rfl rfl) rfl
    refine Dc (fun Wd hd => ?_) ?_
    ·
     exact Dd (dx_move rfl rfl) rfl
    refine Dc (fun Wd hd => ?_) ?_
    ·
     have h2 := h2.below hd
     exact (dx_idxF i rfl ty_slice_31 rfl rfl h2 (by omega) (at_map (enc := encR) e18)).mono (fun v W' h => ⟨by rw [← h.1]; exact Below.refl _ _, by rw [← h.1]; exact h.2⟩)
    refine Dc (fun Wd hd => ?_) ?_
    ·
     intro u6_7 p6_7
     exact Dd (dx_loadP rfl ty_one_40 rfl p6_7) rfl
    refine Dc (fun Wd hd => ?_) ?_
    ·
     have hr17 := hr17.below hd
     exact Dd (dx_bsJ rfl Tryd.underlying40 Tryd.underlying9 Tryd.underlying5 rfl hr17) rfl
    exact trivial
   ·
    intro W19 b20
    intro u6_2 p6_2
    intro u6_7 p6_7
    replace h1 := h1.below b20
    replace ha := ha.below b20
    replace h2 := h2.below b20
    replace hb := hb.below b20
    replace hB := below_then hB b20
    replace hL := LL.below hL b20
    refine Va (dx_neqT rfl rfl rfl) rfl rfl (Ni (hK14 ?_))
    refine WC.cond rfl (fun c21 => ?_) (fun c21 => ?_)
    ·
     replace c21 := bnot_t c21
     exact absurd rfl (of_decide_eq_false c21)
    ·
     replace c21 := bnot_f c21
     replace c21 := dT c21
     refine WC.skip (hK13 (Rg (Pu rfl (Va (dx_add (r := (i : Int) + 1) rfl rfl rfl (wrap64_id (by omega))) rfl rfl (Pu rfl (Ni ?_))))))
     exact hK8 (i + 1) ⟨(by omega), hB, hL, h1, ha, h2, hb⟩ (by omega) (by repeat first | exact trivial | refine aR ?_ | refine aI (by omega) ?_)
  ·
   replace c12 := dF c12
   refine WC.exit ?_
   refine hK6 (Sq fun K22 hK22 => (Rg (Pu rfl (Ni (hK22 ?_)))))
   exact WC.ret fun a_ ha_ => hQ (cv_ret1 rfl (.tmp rfl) rfl hB ha_)

section
variable {ops : Array Oper} {o : Oper} {N : Nat} {f : Fl} {w : World}
theorem three_mapX {α β : Type} {g : α → β} {l : List α} {x y z : β} (h : l.map g = [x, y, z]) : ∃ a b c, l = [a, b, c] ∧ g a = x ∧ g b = y ∧ g c = z := by
 match l, h with
 | [a, b, c], h => simp at h; exact ⟨a, b, c, rfl, h.1, h.2.1, h.2.2⟩
theorem fieldsLg : (Tryd.prog.fieldsOf 30).toList.map (fun f => (f.name == "_", f.type, f.offset)) = [(false, 3, 0), (false, 3, 1), (false, 3, 2)] := by kernel_rfl
theorem run_partLg (a b c : Int) : (part 3 #[.int .i64 a, .int .i64 b, .int .i64 c] 0).run Tryd.prog w = .ok (.int .i64 a) w ∧ (part 3 #[.int .i64 a, .int .i64 b, .int .i64 c] 1).run Tryd.prog w = .ok (.int .i64 b) w ∧ (part 3 #[.int .i64 a, .int .i64 b, .int .i64 c] 2).run Tryd.prog w = .ok (.int .i64 c) w := by
 have g2 : (isAgg 3).run Tryd.prog w = .ok false w := by
  unfold isAgg
  rw [Sem.run_bind, run_underlying Tryd.underlying3 w]; rfl
 refine ⟨?_, ?_, ?_⟩ <;> simp [part, Sem.run_bind, g2]
theorem run_eqLgR (a b c : Int) : (Op.equalIn 10000 30 (.agg #[.int .i64 a, .int .i64 b, .int .i64 c]) (.agg #[.int .i64 a, .int .i64 b, .int .i64 c])).run Tryd.prog w = .ok true w := by
 rw [show (10000 : Nat) = 9999 + 1 from rfl, run_equalIn_struct w 9999 30 _ _ (by kernel_rfl) (by kernel_rfl)]
 obtain ⟨f0, f1, f2, hfs, h0, h1, h2⟩ := three_mapX fieldsLg
 rw [hfs]
 simp only [Prod.mk.injEq] at h0 h1 h2
 obtain ⟨n0, t0, o0⟩ := h0
 obtain ⟨n1, t1, o1⟩ := h1
 obtain ⟨n2, t2, o2⟩ := h2
 have m0 : f0.name ≠ "_" := by simpa using n0
 have m1 : f1.name ≠ "_" := by simpa using n1
 have m2 : f2.name ≠ "_" := by simpa using n2
 obtain ⟨p0, p1, p2⟩ := run_partLg (w := w) a b c
 have e0 := run_equalIn_int (P := Tryd.prog) (w := w) 9998 3 .i64 .i64 a a Tryd.underlying3
 have e1 := run_equalIn_int (P := Tryd.prog) (w := w) 9998 3 .i64 .i64 b b Tryd.underlying3
 have e2 := run_equalIn_int (P := Tryd.prog) (w := w) 9998 3 .i64 .i64 c c Tryd.underlying3
 rw [beq_self_eq_true] at e0 e1 e2
 simp only [Op.eqFields, if_pos m0, if_pos m1, if_pos m2, t0, o0, t1, o1, t2, o2, Sem.run_bind, p0, Result.andThen_ok]
 rw [show (9999 : Nat) = 9998 + 1 from rfl, e0]
 simp only [Result.andThen_ok, Bool.not_true, Bool.false_eq_true, if_false, Sem.run_bind, p1]
 rw [e1]
 simp only [Result.andThen_ok, Bool.not_true, Bool.false_eq_true, if_false, Sem.run_bind, p2]
 rw [e2]
 simp
theorem dx_eqLgR {t' : TypeId} {x y : Operand} {a b c : Int} (ho : o.op = .binOp .eql 30 x y t') (hx : ev f x = some (.agg #[.int .i64 a, .int .i64 b, .int .i64 c])) (hy : ev f y = some (.agg #[.int .i64 a, .int .i64 b, .int .i64 c])) (hw : wantF ops o f = some true := by rfl) : DV Tryd.prog ops o N f w (.bool true) := fun k ha => by
 have hx := ha.ev hx
 have hy := ha.ev hy
 have hg : Tryd.prog.eqGuardType Tryd.prog.depth 30 = false := by kernel_rfl
 have hgd : (eqGuard .eql 30 x y (.agg #[.int .i64 a, .int .i64 b, .int .i64 c]) (.agg #[.int .i64 a, .int .i64 b, .int .i64 c])).run Tryd.prog w = .ok () w := by
  simp [eqGuard, Sem.run_bind, hg]
 have e1 : binOp .eql 30 (.agg #[.int .i64 a, .int .i64 b, .int .i64 c]) (.agg #[.int .i64 a, .int .i64 b, .int .i64 c]) = (do pure (.bool (← Op.equal 30 (.agg #[.int .i64 a, .int .i64 b, .int .i64 c]) (.agg #[.int .i64 a, .int .i64 b, .int .i64 c])))) := rfl
 have e2 : (Op.equal 30 (.agg #[.int .i64 a, .int .i64 b, .int .i64 c]) (.agg #[.int .i64 a, .int .i64 b, .int .i64 c])).run Tryd.prog w = .ok true w := run_eqLgR a b c
 exact Does.pure (wantF_of ha hw) _ (by unfold execOp; simp only [ho, hx, hy, Sem.run_bind, hgd, Result.andThen_ok, e1, e2, Sem.run_pure]) ⟨rfl, rfl⟩
theorem bld_log (a b c : Int) : Tryd.prog.built 30 [(0, .int .i64 a), (1, .int .i64 b), (2, .int .i64 c)] = some [Value.int .i64 a, .int .i64 b, .int .i64 c].toArray := by kernel_rfl
end
theorem one_rec {rs : List RcV} {x : List Int} (h : rs.map Prod.fst = [x]) : ∃ r0, rs = [r0] ∧ r0.1 = x := by
 match rs, h with
 | [r], h => exact ⟨r, rfl, by simpa using h⟩
theorem z_byt (n : Nat) : Byt (List.replicate n 0) := fun x hx => by rw [(List.mem_replicate.1 hx).2]; exact ⟨by decide, by decide⟩
theorem new_byt (n : Nat) : BytD (List.replicate n z0) [] := ⟨fun z hz => by rw [(List.mem_replicate.1 hz).2]; exact z0_byt, fun p hp => absurd hp List.not_mem_nil⟩
set_option maxHeartbeats 1000000 in
theorem alive_v  (w : World) (L : List Nat) (hL : LL L w)   (hT : TabS w) : CV Tryd.prog 9 [] w fun v W => v = .bool true := by
 refine cv_enter (N := 79) (f := []) Tryd.func9 rfl rfl rfl rfl fun Q hQ hE => ?_
 have hB := Below.refl w.heap.size w
 refine Sq fun K1 hK1 => (Rg (Pu rfl (Ni (hK1 (Sq fun K2 hK2 => (Rg ?_))))))
 refine Ge (dx_cv rfl Tryd.func27 rfl rfl rfl (new_e (n := 8) ⟨by omega, by omega⟩ hL)) rfl rfl ?_
 rintro _ W4 ⟨⟨n1, n2, rfl, q1, q2⟩, b3⟩
 replace hB := below_then hB b3
 replace hL := LL.below hL b3
 refine Pu rfl (Pu rfl (Pu rfl ?_))
 refine Ge (dx_alloc rfl ty_zero_25 rfl) rfl rfl ?_
 rintro _ W5 ⟨rfl, k6, b7, z8⟩
 have l9 := hB.size
 replace q1 := q1.more b7 (Nat.le_refl _)
 replace q2 := q2.more b7 (Nat.le_refl _)
 replace hB := below_then hB b7
 replace hL := LL.more hL z8
 refine WL.do (dx_store (cs' := [n1, n2, .int .i64 (-1), .bool false]) (vs := [n1, n2, .int .i64 (-1), .bool false]) rfl ty_size_25_4 rfl rfl rfl (oC q1.one (oC q2.one (oC rfl (oC rfl oc_nil)))) k6 rfl (nB rfl) rfl) rfl ?_
 rintro _ W10 ⟨k12, o11⟩
 clear k6
 replace q1 := q1.only o11 (.head _)
 replace q2 := q2.only o11 (.head _)
 replace hB := o11.below hB l9
 replace hL := LL.only hL o11
 refine Pu rfl (Ni (hK2 (Sq fun K13 hK13 => ?_)))
 obtain ⟨SF, eF, oF⟩ := format_new (n := 8) (by decide) (by decide) (f := -1) (by decide)
 refine Rg (Va (dx_loadN rfl ty_agg_25_4 rfl k12.range rfl) rfl rfl ?_)
 refine Ge (dx_cv rfl Tryd.func20 rfl rfl rfl (format_e eF hL q1 q2 (by decide) (new_byt 8) (hT.below hB))) rfl rfl ?_
 rintro _ W15 ⟨⟨f1, f2, rfl, fk1, fk2⟩, b14⟩
 replace q1 := q1.below b14
 replace q2 := q2.below b14
 replace k12 := k12.below b14
 replace hB := below_then hB b14
 replace hL := LL.below hL b14
 refine Pu rfl (Pu rfl (Pu rfl (Pu rfl ?_)))
 refine Ge (dx_alloc rfl ty_zero_30 rfl) rfl rfl ?_
 rintro _ W16 ⟨rfl, k17, b18, z19⟩
 have n20 : W4.heap.size ≠ W15.heap.size := Nat.ne_of_lt k12.lt
 have l21 := hB.size
 replace q1 := q1.more b18 (Nat.le_refl _)
 replace q2 := q2.more b18 (Nat.le_refl _)
 replace fk1 := fk1.more b18 (Nat.le_refl _)
 replace fk2 := fk2.more b18 (Nat.le_refl _)
 replace k12 := k12.below b18
 replace hB := below_then hB b18
 replace hL := LL.more hL z19
 refine WL.do (dx_store (cs' := [f1, f2, .int .i64 (-1), .bool false]) (vs := [f1, f2, .int .i64 (-1), .bool false]) rfl ty_size_25_4 rfl rfl rfl (oC fk1.one (oC fk2.one (oC rfl (oC rfl oc_nil)))) k12 rfl (nB rfl) rfl) rfl ?_
 rintro _ W22 ⟨k24, o23⟩
 replace k17 := k17.other o23 n20.symm
 clear k12
 replace q1 := q1.only o23 (.tail _ (.head _))
 replace q2 := q2.only o23 (.tail _ (.head _))
 replace fk1 := fk1.only o23 (.tail _ (.head _))
 replace fk2 := fk2.only o23 (.tail _ (.head _))
 replace hB := o23.below hB l9
 replace hL := LL.only hL o23
 refine WL.do (dx_store (cs' := [.int .i64 0, .int .i64 1, .int .i64 1]) (vs := [.int .i64 0, .int .i64 1, .int .i64 1]) rfl ty_size_30_3 rfl rfl rfl (oC rfl (oC rfl (oC rfl oc_nil))) k17 rfl (nB rfl) rfl) rfl ?_
 rintro _ W25 ⟨k27, o26⟩
 replace k24 := k24.other o26 n20
 clear k17
 replace q1 := q1.only o26 (.head _)
 replace q2 := q2.only o26 (.head _)
 replace fk1 := fk1.only o26 (.head _)
 replace fk2 := fk2.only o26 (.head _)
 replace hB := o26.below hB l21
 replace hL := LL.only hL o26
 refine Pu rfl (Ni (hK13 (Sq fun K28 hK28 => ?_)))
 obtain ⟨SA, eA0, oA⟩ := oF.app (f := -1) (by decide) (r := List.replicate 150 0) (z_byt 150) (by decide) (by decide)
 have eA : appendD SF [] (-1) false 0 1 1 (List.replicate 150 0) = (⟨SA, [], -1, false, 0⟩, 0, 1, 3) := eA0
 refine WC.drawC 10 [(8, W4.heap.size, [f1, f2, .int .i64 (-1), .bool false], fun cs_ W_ => ∃ t1_ t2_, cs_ = [t1_, t2_, .int .i64 (-1), .bool false] ∧ RdF 128 (W15.heap.size :: W4.heap.size :: L) W_ t1_ (SA.map encS) ∧ RdF 129 (W15.heap.size :: W4.heap.size :: L) W_ t2_ (([] : List (Int × List Int)).map encW)), (9, W15.heap.size, [.int .i64 0, .int .i64 1, .int .i64 1], fun cs_ _ => cs_ = [.int .i64 0, .int .i64 1, .int .i64 3])] [(some 21, .is (.agg #[f1, f2, .int .i64 (-1), .bool false])), (some 22, .is (.agg #[.int .i64 0, .int .i64 1, .int .i64 1])), (some 23, .by fun u W => RdF 1 (W15.heap.size :: W4.heap.size :: L) W u (e8s (List.replicate 150 0))), (some 24, .by fun u W => TupE (W15.heap.size :: W4.heap.size :: L) SA [] (-1) false 0 1 3 0 u W), (some 20, .by fun u W => TupE (W15.heap.size :: W4.heap.size :: L) SA [] (-1) false 0 1 3 0 u W), (some 25, .by fun u W => AggE (W15.heap.size :: W4.heap.size :: L) SA [] (-1) false u W), (some 26, .is (.agg #[.int .i64 0, .int .i64 1, .int .i64 3])), (some 27, .is (.int .i64 0)), (none, .by fun _ _ => True), (none, .by fun _ _ => True)] [[], [], [], [0, 1, 2], [3], [4], [4], [4], [5, 3, 0, 1, 2, 3, 4, 5], [6, 8, 0, 1, 2, 3, 4, 5, 6, 8]] ⟨fun _ _ _ hb h => h.below hb, fun _ _ _ hb h => h.below hb, fun _ _ _ hb h => h.below hb, fun _ _ _ hb h => h.below hb, fun _ _ _ _ h => h, fun _ _ _ _ h => h, trivial⟩ (fun e he => by simp only [List.mem_cons, List.not_mem_nil, or_false] at he; rcases he with rfl | rfl; exact ⟨fun _ _ _ ho h => h.only ho (.tail _ (.head _)), fun _ _ _ ho h => h.only ho (.tail _ (.head _)), fun _ _ _ ho h => h.only ho (.tail _ (.head _)), fun _ _ _ ho h => h.only ho (.tail _ (.head _)), fun _ _ _ _ h => h, fun _ _ _ _ h => h, trivial⟩; exact ⟨fun _ _ _ ho h => h.only ho (.head _), fun _ _ _ ho h => h.only ho (.head _), fun _ _ _ ho h => h.only ho (.head _), fun _ _ _ ho h => h.only ho (.head _), fun _ _ _ _ h => h, fun _ _ _ _ h => h, trivial⟩) ⟨fun x hx => (by simp only [List.mem_cons, List.not_mem_nil, or_false] at hx; subst hx; exact ⟨(show ¬ ((9 : Nat) = 8) by decide), n20.symm⟩), ⟨fun x hx => (by cases hx), trivial⟩⟩ (fun e he => by simp only [List.mem_cons, List.not_mem_nil, or_false] at he; rcases he with rfl | rfl; exact ⟨fun cs_ W_ W2_ hb_ h_ => by obtain ⟨t1_, t2_, e_, g1_, g2_⟩ := h_; exact ⟨t1_, t2_, e_, g1_.below hb_, g2_.below hb_⟩, fun x hx hne cs_ W_ W2_ ho_ h_ => by obtain ⟨t1_, t2_, e_, g1_, g2_⟩ := h_; simp only [List.mem_cons, List.not_mem_nil, or_false] at hx; rcases hx with rfl | rfl; exact absurd rfl hne; exact ⟨t1_, t2_, e_, g1_.only ho_ (.head _), g2_.only ho_ (.head _)⟩⟩; exact ⟨fun _ _ _ _ h => h, fun _ _ _ _ _ _ _ h => h⟩) (fun e he => by simp only [List.mem_cons, List.not_mem_nil, or_false] at he; rcases he with rfl | rfl; exact k24; exact k27) ?_ ?_
 ·
  refine DStepsC.cons rfl (fun Wd hd hbs_ => ?_) ?_
  ·
   have k24 := hbs_ _ (.head _) (show 0 ∈ ([5, 3, 0, 1, 2, 3, 4, 5] : List Nat) by decide)
   exact Dd (dx_loadN rfl ty_agg_25_4 rfl k24.range rfl) rfl
  refine DStepsC.cons rfl (fun Wd hd hbs_ => ?_) ?_
  ·
   have k27 := hbs_ _ (.tail _ (.head _)) (show 1 ∈ ([6, 8, 0, 1, 2, 3, 4, 5, 6, 8] : List Nat) by decide)
   exact Dd (dx_loadN rfl ty_agg_30_3 rfl k27.range rfl) rfl
  refine DStepsC.cons rfl (fun Wd hd hbs_ => ?_) ?_
  ·
   exact DR.mono (dx_make (r := [Value.int .u8 0]) rfl ty_ap_40 (fun e he => by rw [Tryd.underlying40] at he; cases he; kernel_rfl) rfl rfl (by decide) (by decide) (by decide) (by decide)) (fun v W' h => ⟨h.2.1, by have h_ := h.1.rd (L := W15.heap.size :: W4.heap.size :: L) (fun e_ => absurd ((hL.chgM hd) _ e_) (Nat.lt_irrefl _)); rw [← List.map_replicate] at h_; exact h_⟩)
  refine DStepsC.cons rfl (fun Wd hd hbs_ => ?_) ?_
  ·
   intro u3_2 p3_2
   have fk1 := fk1.chgM hd (fun C hC => by simp only [List.map_cons, List.map_nil, List.mem_cons, List.not_mem_nil, or_false] at hC; rcases hC with rfl | rfl; exact (.tail _ (.head _)); exact (.head _))
   have fk2 := fk2.chgM hd (fun C hC => by simp only [List.map_cons, List.map_nil, List.mem_cons, List.not_mem_nil, or_false] at hC; rcases hC with rfl | rfl; exact (.tail _ (.head _)); exact (.head _))
   exact DR.mono (dx_cv rfl Tryd.func18 rfl rfl rfl (append_e eA (hL.chgM hd) fk1 fk2 p3_2 (by decide) oF.byt (z_byt 150) (by decide) (by decide) (hT.below (hd.toBelow hB (fun C hC => by simp only [List.map_cons, List.map_nil, List.mem_cons, List.not_mem_nil, or_false] at hC; rcases hC with rfl | rfl; exact l9; exact l21))))) (fun v W_ h => ⟨h.2, h.1⟩)
  refine DStepsC.cons rfl (fun Wd hd hbs_ => ?_) ?_
  ·
   intro u3_3 p3_3
   exact DV.dr (dx_move rfl rfl) ⟨Below.refl _ _, p3_3⟩
  refine DStepsC.cons rfl (fun Wd hd hbs_ => ?_) ?_
  ·
   intro u3_4 p3_4
   obtain ⟨t1_, t2_, rfl, g1_, g2_⟩ := p3_4
   exact DV.dr (dx_extract rfl rfl rfl) ⟨Below.refl _ _, ⟨t1_, t2_, rfl, g1_, g2_⟩⟩
  refine DStepsC.cons rfl (fun Wd hd hbs_ => ?_) ?_
  ·
   intro u3_4 p3_4
   obtain ⟨t1_, t2_, rfl, g1_, g2_⟩ := p3_4
   exact Dd (dx_extract rfl rfl rfl) rfl
  refine DStepsC.cons rfl (fun Wd hd hbs_ => ?_) ?_
  ·
   intro u3_4 p3_4
   obtain ⟨t1_, t2_, rfl, g1_, g2_⟩ := p3_4
   exact Dd (dx_extract rfl rfl rfl) rfl
  refine DStepsC.hit rfl (fun Wd hd hb_ => ?_) ?_
  ·
   intro u3_5 p3_5 u3_3 p3_3 u3_2 p3_2 u3_3 p3_3 u3_4 p3_4 u3_5 p3_5
   obtain ⟨t1_, t2_, rfl, g1_, g2_⟩ := p3_5
   exact DR.mono (dx_storeW (vs := [t1_, t2_, .int .i64 (-1), .bool false]) rfl ty_size_25_4 rfl rfl rfl (oC g1_.one (oC g2_.one (oC rfl (oC rfl oc_nil)))) hb_ rfl rfl) (fun _ W_ h => ⟨h.2, ⟨_, h.1, t1_, t2_, rfl, g1_.only h.2 (.tail _ (.head _)), g2_.only h.2 (.tail _ (.head _))⟩, trivial⟩)
  refine DStepsC.hit rfl (fun Wd hd hb_ => ?_) ?_
  ·
   intro u3_8 p3_8 u3_2 p3_2 u3_3 p3_3 u3_4 p3_4 u3_5 p3_5 u3_8 p3_8
   exact (dx_storeW (vs := [.int .i64 0, .int .i64 1, .int .i64 3]) rfl ty_size_30_3 rfl rfl rfl (oC rfl (oC rfl (oC rfl oc_nil))) hb_ rfl rfl).mono (fun _ W' h => ⟨h.2, QBlk.is h.1, trivial⟩)
  exact trivial
 ·
  intro W29 hd hq_
  replace q1 := q1.chgM hd (fun C hC => by simp only [List.map_cons, List.map_nil, List.mem_cons, List.not_mem_nil, or_false] at hC; rcases hC with rfl | rfl; exact (.tail _ (.head _)); exact (.head _))
  replace q2 := q2.chgM hd (fun C hC => by simp only [List.map_cons, List.map_nil, List.mem_cons, List.not_mem_nil, or_false] at hC; rcases hC with rfl | rfl; exact (.tail _ (.head _)); exact (.head _))
  replace fk1 := fk1.chgM hd (fun C hC => by simp only [List.map_cons, List.map_nil, List.mem_cons, List.not_mem_nil, or_false] at hC; rcases hC with rfl | rfl; exact (.tail _ (.head _)); exact (.head _))
  replace fk2 := fk2.chgM hd (fun C hC => by simp only [List.map_cons, List.map_nil, List.mem_cons, List.not_mem_nil, or_false] at hC; rcases hC with rfl | rfl; exact (.tail _ (.head _)); exact (.head _))
  have k30 := hq_ _ (.head _)
  obtain ⟨_, k30, t33, t34, rfl, j31, j32⟩ := k30
  have k35 := hq_ _ (.tail _ (.head _))
  replace k35 := QBlk.blk k35
  replace hB := hd.toBelow hB (fun C hC => by simp only [List.map_cons, List.map_nil, List.mem_cons, List.not_mem_nil, or_false] at hC; rcases hC with rfl | rfl; exact l9; exact l21)
  replace hL := hL.chgM hd
  intro u3_2 p3_2
  intro u3_3 p3_3
  intro u3_4 p3_4
  intro u3_5 p3_5
  intro _ _
  intro _ _
  refine Pu rfl (Ni (hK28 (Sq fun K36 hK36 => (Sq fun K37 hK37 => (Rg (Pu rfl (Va (dx_neq rfl rfl rfl) rfl rfl ?_)))))))
  refine Pu rfl (Pu rfl (Va (dx_neq rfl rfl rfl) rfl rfl (Pu rfl (Pu rfl (Pu rfl (Va (dx_neq rfl rfl rfl) rfl rfl (Pu rfl ?_)))))))
  refine Pu rfl (Va (dx_fld (o1 := 2) rfl ty_fld_30_2_2 rfl rfl) rfl rfl (Va (dx_load rfl ty_one_3 rfl (k35.cell (k := 2) rfl)) rfl rfl (Va (dx_neq rfl rfl rfl) rfl rfl (Pu rfl (Pu rfl (Va (dx_fld (o1 := 0) rfl ty_fld_30_0_0 rfl rfl) rfl rfl (Va (dx_load rfl ty_one_3 rfl (k35.cell (k := 0) rfl)) rfl rfl ?_)))))))
  refine Va (dx_neq rfl rfl rfl) rfl rfl (Pu rfl (Pu rfl (Va (dx_fld (o1 := 1) rfl ty_fld_30_1_1 rfl rfl) rfl rfl (Va (dx_load rfl ty_one_3 rfl (k35.cell (k := 1) rfl)) rfl rfl (Va (dx_neq rfl rfl rfl) rfl rfl (Pu rfl (Ni ?_)))))))
  refine hK37 (WC.condF rfl (WC.skip (hK36 (Sq fun K38 hK38 => ?_))))
  obtain ⟨SO, eO0, oO⟩ := oA.next1 (by decide)
  have eO : openD SA [] (-1) false = ((⟨SO, [], -1, false, 0⟩, 1, 2, 3), [List.replicate 150 0]) := eO0
  refine Rg (Va (dx_loadN rfl ty_agg_25_4 rfl k30.range rfl) rfl rfl ?_)
  refine Ge (dx_cv rfl Tryd.func12 rfl rfl rfl (open_e eO hL j31 j32 (by decide) oA.byt (hT.below hB))) rfl rfl ?_
  rintro _ W40 ⟨⟨o1, o2, ov, or, rfl, ok1, ok2, ok3, ok4, ok5, ok6⟩, b39⟩
  replace hB := below_then hB b39
  obtain ⟨r0, rfl, er0⟩ := one_rec ok6
  have hr0 := ok4 r0 (.head _)
  refine Pu rfl (Pu rfl (Pu rfl (Pu rfl (Pu rfl ?_))))
  refine Ge (dx_alloc rfl ty_zero_25 rfl) rfl rfl ?_
  rintro _ W41 ⟨rfl, k42, b43, z44⟩
  have l47 := hB.size
  replace ok1 := ok1.more b43 (Nat.le_refl _)
  replace ok2 := ok2.more b43 (Nat.le_refl _)
  replace ok3 := ok3.more b43 (Nat.le_refl _)
  replace hr0 := hr0.more b43 (Nat.le_refl _)
  replace hB := below_then hB b43
  refine Ge (dx_alloc rfl ty_zero_30 rfl) rfl rfl ?_
  rintro _ W48 ⟨rfl, k49, b50, z51⟩
  have n54 : W40.heap.size ≠ W41.heap.size := Nat.ne_of_lt k42.lt
  have l55 := hB.size
  replace ok1 := ok1.more b50 (Nat.le_refl _)
  replace ok2 := ok2.more b50 (Nat.le_refl _)
  replace ok3 := ok3.more b50 (Nat.le_refl _)
  replace hr0 := hr0.more b50 (Nat.le_refl _)
  replace k42 := k42.below b50
  replace hB := below_then hB b50
  refine WL.do (dx_store (cs' := [o1, o2, .int .i64 (-1), .bool false]) (vs := [o1, o2, .int .i64 (-1), .bool false]) rfl ty_size_25_4 rfl rfl rfl (oC ok1.one (oC ok2.one (oC rfl (oC rfl oc_nil)))) k42 rfl (nB rfl) rfl) rfl ?_
  rintro _ W56 ⟨k58, o57⟩
  replace k49 := k49.other o57 n54.symm
  clear k42
  replace ok3 := ok3.only o57 (.tail _ (.head _))
  replace hr0 := hr0.only o57 (.tail _ (.head _))
  replace hB := o57.below hB l47
  refine WL.do (dx_store (cs' := [.int .i64 1, .int .i64 2, .int .i64 3]) (vs := [.int .i64 1, .int .i64 2, .int .i64 3]) rfl ty_size_30_3 rfl rfl rfl (oC rfl (oC rfl (oC rfl oc_nil))) k49 rfl (nB rfl) rfl) rfl ?_
  rintro _ W59 ⟨k61, o60⟩
  clear k49
  replace ok3 := ok3.only o60 (.head _)
  replace hr0 := hr0.only o60 (.head _)
  replace hB := o60.below hB l55
  refine Pu rfl (Pu rfl (Ni (hK38 (Sq fun K62 hK62 => (Rg (Pu rfl (Va (dx_eql rfl rfl rfl) rfl rfl ?_)))))))
  refine Pu rfl (Va (dx_loadN rfl ty_agg_30_3 rfl k61.range rfl) rfl rfl (Va (dx_build rfl rfl (bld_log _ _ _)) rfl rfl (Va (dx_eqLgR rfl rfl rfl) rfl rfl (Pu rfl (Pu rfl (Pu rfl (Va (dx_lenM rfl ty_slice_31 rfl ok3) rfl rfl ?_)))))))
  refine Va (dx_eql rfl rfl rfl) rfl rfl (Pu rfl (Pu rfl (Pu rfl ?_)))
  refine Ge (dx_idxF 0 rfl ty_slice_31 rfl rfl ok3 (by omega) (at_map (enc := encR) rfl)) rfl rfl ?_
  rintro u63 _ ⟨rfl, p64⟩
  refine Va (dx_loadP rfl ty_one_40 rfl p64) rfl rfl (Va (dx_lenM rfl ty_slice_40 rfl hr0) rfl rfl (Va (dx_eql rfl rfl rfl) rfl rfl (Pu rfl (Pu rfl (Ni (hK62 ?_))))))
  exact WC.ret fun a_ ha_ => hQ (cv_ret1 rfl (.tmp rfl) (by rw [er0]; rfl) hB ha_)

theorem len_of {rs ss : List RcV} {l : List (List Int)} (h1 : rs.map Prod.fst = l) (h2 : ss.map Prod.fst = l) : ss.map Prod.fst = rs.map Prod.fst ∧ ss.length = rs.length := ⟨h2.trans h1.symm, by have e1 := congrArg List.length h1; have e2 := congrArg List.length h2; rw [List.length_map] at e1 e2; omega⟩
theorem cnt_len {rs : List RcV} {l : List (List Int)} (h : rs.map Prod.fst = l) : rs.length ≤ cntP l := by rw [← List.length_map (f := Prod.fst), h]; exact cntP_len l
theorem Opn.small {S : List (List Int)} {n Q : Nat} {G : Int} {l : List (List Int)} (h : Opn S n Q G l) : cntP l ≤ 2048 := by
 obtain ⟨A, B, rfl, hh⟩ := h.half
 have := hh.fit
 have := h.n2
 omega
structure WrQ where
 s : Nat
 t : Nat
 dt : Nat
 pt : Value → World → Prop
 q : Value → World → Prop
 rel : World → World → Prop
def relQ (a b : WrQ) (k : Nat) (W W' : World) : Prop := if k = a.s then a.rel W W' else if k = b.s then b.rel W W' else Below W.heap.size W W'
def DStepsQ (P : Program) (ops : Array Oper) (N : Nat) (w0 : World) (sd : List (Option Tmp × VS)) (dl : List (List Nat)) (f : Fl) (a b : WrQ) : Nat → List Oper → Prop
 | _, [] => True
 | k, o :: l => (if k = a.s then ∀ W, Below w0.heap.size w0 W → ∀ ut, a.pt ut W → DStep P ops o N W (sd.set a.t (some a.dt, .is ut)) (fun v W' => a.rel W W' ∧ a.q ut W') ((dl[k]?).getD []) f
   else if k = b.s then ∀ W, Below w0.heap.size w0 W → ∀ ut, b.pt ut W → DStep P ops o N W (sd.set b.t (some b.dt, .is ut)) (fun v W' => b.rel W W' ∧ b.q ut W') ((dl[k]?).getD []) f
   else ∀ W, Below w0.heap.size w0 W → DStep P ops o N W sd (fun v W' => Below W.heap.size W W' ∧ okAt sd k v W') ((dl[k]?).getD []) f) ∧ DStepsQ P ops N w0 sd dl f a b (k + 1) l
section
variable {P : Program} {N : Nat} {sd : List (Option Tmp × VS)} {dl : List (List Nat)}
theorem DStepsQ.cons {ops : Array Oper} {w0 : World} {f : Fl} {k : Nat} {a b : WrQ} {o : Oper} {l : List Oper} (hk : k ≠ a.s ∧ k ≠ b.s) (h : ∀ W, Below w0.heap.size w0 W → DStep P ops o N W sd (fun v W' => Below W.heap.size W W' ∧ okAt sd k v W') ((dl[k]?).getD []) f) (hl : DStepsQ P ops N w0 sd dl f a b (k + 1) l) : DStepsQ P ops N w0 sd dl f a b k (o :: l) := ⟨by rw [if_neg hk.1, if_neg hk.2]; exact h, hl⟩
theorem DStepsQ.hitA {ops : Array Oper} {w0 : World} {f : Fl} {k : Nat} {a b : WrQ} {o : Oper} {l : List Oper} (hk : k = a.s) (h : ∀ W, Below w0.heap.size w0 W → ∀ ut, a.pt ut W → DStep P ops o N W (sd.set a.t (some a.dt, .is ut)) (fun v W' => a.rel W W' ∧ a.q ut W') ((dl[k]?).getD []) f) (hl : DStepsQ P ops N w0 sd dl f a b (k + 1) l) : DStepsQ P ops N w0 sd dl f a b k (o :: l) := ⟨by rw [if_pos hk]; exact h, hl⟩
theorem DStepsQ.hitB {ops : Array Oper} {w0 : World} {f : Fl} {k : Nat} {a b : WrQ} {o : Oper} {l : List Oper} (hk : k ≠ a.s ∧ k = b.s) (h : ∀ W, Below w0.heap.size w0 W → ∀ ut, b.pt ut W → DStep P ops o N W (sd.set b.t (some b.dt, .is ut)) (fun v W' => b.rel W W' ∧ b.q ut W') ((dl[k]?).getD []) f) (hl : DStepsQ P ops N w0 sd dl f a b (k + 1) l) : DStepsQ P ops N w0 sd dl f a b k (o :: l) := ⟨by rw [if_neg hk.1, if_pos hk.2]; exact h, hl⟩
theorem okQ {t dt : Nat} {ut : Value} (htlt : t < sd.length) {g : Nat → Value} {W : World} {j : Nat} (hut : ut = g t) (h1 : okAt sd j (g j) W) : okAt (sd.set t (some dt, .is ut)) j (g j) W := by
  by_cases e : j = t
  · subst e
    rw [← hut]
    exact okAt_hit htlt W
  · rw [okAt_set e]
    exact h1
structure OkQ (w : World) (sd : List (Option Tmp × VS)) (dl : List (List Nat)) (m : Nat) (a : WrQ) : Prop where
  ht : sd[a.t]? = some (some a.dt, .by a.pt)
  hs : sd[a.s]? = some (none, .by fun _ _ => True)
  hts : ((dl[a.s]?).getD []).contains a.t = true
  hne : a.s ≠ a.t
  hsm : a.s < m
  hrel : VS.monoR a.rel sd
  hq : ∀ u W W', Below W.heap.size W W' → a.q u W → a.q u W'
  hbr : ∀ W W', Below w.heap.size w W → a.rel W W' → Below w.heap.size w W'
theorem OkQ.step {pre : List Oper} {w : World} {m : Nat} {c : WrQ} (hc : OkQ w sd dl m c) (hds : pre.map (·.dst) = sd.map (·.1)) (hN : inN N sd = true) {f : Fl} {a : Act} (ha : Fr N a f) {g : Nat → Value} {W : World} (hG : Below w.heap.size w W) {o : Oper} (hd : ∀ j ∈ (dl[c.s]?).getD [], okAt sd j (g j) W)
  (hk : ∀ W, Below w.heap.size w W → ∀ ut, c.pt ut W → DStep P pre.toArray o N W (sd.set c.t (some c.dt, .is ut)) (fun v W' => c.rel W W' ∧ c.q ut W') ((dl[c.s]?).getD []) f) :
  Does P pre.toArray o (putL (sd.map (·.1)) g ((dl[c.s]?).getD []) a) W fun v W' => c.rel W W' ∧ c.q (g c.t) W' := by
 have hmemt : c.t ∈ (dl[c.s]?).getD [] := by simpa using hc.hts
 have hpt : c.pt (g c.t) W := by
  have := hd c.t hmemt
  unfold okAt at this
  rw [hc.ht] at this
  exact this
 obtain ⟨ut, hut⟩ : ∃ ut, ut = g c.t := ⟨_, rfl⟩
 have htlt : c.t < sd.length := (List.getElem?_eq_some_iff.1 hc.ht).1
 have hH : HypL (fun j g w => okAt (sd.set c.t (some c.dt, .is ut)) j (g j) w) dl g W ((dl[c.s]?).getD []) := HypL.of _ fun j hj => by
  show okAt _ j (restr g (j :: _) j) W
  rw [restr_self]
  exact okQ htlt hut (hd j hj)
 have hfin := DStep.to (inN_set hc.ht hN) _ f a (hk W hG ut (by rw [hut]; exact hpt)) ha hH
 rw [map_set hc.ht] at hfin
 rw [hut] at hfin
 exact hfin
theorem WC.drawQ {id : Nat} {f : Fl} {w : World} {Q : Exit → Act → World → Prop} (m : Nat) (x y : WrQ) {ops : List Oper} (sd : List (Option Tmp × VS)) (dl : List (List Nat)) (hm : P.follows .mixedOrders = true) (hb : ordB .any ops.toArray = true) (hbp : ordB .any (ops.take m).toArray = true) (htl : tailB .any ops.toArray (ops.take m).length = true) (hdl : (ops.take m).map (depsOf .any) = dl)
    (hds : (ops.take m).map (·.dst) = sd.map (·.1)) (hN : inN N sd = true) (hmono : VS.mono sd) (hx : OkQ w sd dl m x) (hy : OkQ w sd dl m y) (hxy : x.s ≠ y.s ∧ x.t ≠ y.t ∧ x.s ≠ y.t ∧ y.s ≠ x.t) (hqx : ∀ u W W', y.rel W W' → x.q u W → x.q u W') (hqy : ∀ u W W', x.rel W W' → y.q u W → y.q u W')
    (hst : DStepsQ P (ops.take m).toArray N w sd dl f x y 0 (ops.take m))
    (hend : ∀ W, Below w.heap.size w W → ∀ u1 u2, x.pt u1 W → x.q u1 W → y.pt u2 W → y.q u2 W → DEnd (fun f W => WL P ops.toArray Q N (ops.drop m) f W) W ((sd.set x.t (some x.dt, .is u1)).set y.t (some y.dt, .is u2)) f) : WC P N (.region id ops.toArray true) Q f w := fun a ha => by
  obtain ⟨pre, hpre⟩ : ∃ pre, pre = ops.take m := ⟨_, rfl⟩
  obtain ⟨suf, hsuf⟩ : ∃ suf, suf = ops.drop m := ⟨_, rfl⟩
  have hops : pre ++ suf = ops := by rw [hpre, hsuf]; exact List.take_append_drop m ops
  rw [← hpre] at hbp htl hdl hds hst
  rw [← hsuf] at hend
  clear hpre hsuf
  subst hops
  have hlen : dl.length = sd.length := by rw [← hdl, List.length_map, ← List.length_map (f := (·.dst)), hds, List.length_map]
  have hpl : pre.length = dl.length := by rw [← hdl, List.length_map]
  have hslt : ∀ c : WrQ, OkQ w sd dl m c → c.s < sd.length ∧ c.t < sd.length := fun c hc => ⟨(List.getElem?_eq_some_iff.1 hc.hs).1, (List.getElem?_eq_some_iff.1 hc.ht).1⟩
  refine wp_region_any hm ?_
  have hrep : Array.replicate (pre ++ suf).toArray.size false = Array.replicate pre.toArray.size false ++ Array.replicate suf.length false := by
    simp [Array.replicate_append_replicate]
  rw [hrep]
  have hsz : (pre ++ suf).toArray.size = pre.toArray.size + suf.length := by simp
  rw [hsz]
  refine pre_tail (pre := pre.toArray) (suf := suf) hb hbp (by simp) (by simpa using htl) pre.toArray.size _ (by simp) (fun j hj => by simp [Array.getD_eq_getD_getElem?, Array.getElem?_replicate] at hj; split at hj <;> simp_all) a w.drew ?_
  have hda : ∀ j, depsAt .any pre.toArray j = (dl[j]?).getD [] := by
    intro j
    subst hdl
    simp only [depsAt, List.getElem?_map, List.getElem?_toArray]
  have hF0 : ∀ j, (Array.replicate pre.toArray.size false).getD j false = true → False := fun j hj => by simp [Array.getD_eq_getD_getElem?, Array.getElem?_replicate] at hj; split at hj <;> simp_all
  have hmx : x.t ∈ (dl[x.s]?).getD [] := by simpa using hx.hts
  have hmy : y.t ∈ (dl[y.s]?).getD [] := by simpa using hy.hts
  refine wpAny_facts hbp a (fun _ W => Below w.heap.size w W) (fun j g W => okAt sd j (g j) W ∧ (j = x.s → x.q (g x.t) W) ∧ (j = y.s → y.q (g y.t) W)) (fun i _ W W' => relQ x y i W W') ?_ ?_ ?_ pre.toArray.size _ (fun _ => undef) a w.drew (by simp) (by
      have := List.countP_le_length (p := fun b => !b) (l := (Array.replicate pre.toArray.size false).toList)
      simpa using this) (fun j hj => (hF0 j hj).elim) (Agrees.start fun j hj => hF0 j hj) (below_draws (Below.refl _ _) 1) (fun j hj => (hF0 j hj).elim)
  · intro i g W W' j g' hB hne ⟨h, hq1, hq2⟩
    have hok : ∀ {rel : World → World → Prop}, (∀ {j : Nat} {d : Option Tmp} {p : Value → World → Prop}, sd[j]? = some (d, .by p) → ∀ u, p u W → p u W') → okAt sd j (g' j) W' := fun hmo => by
      unfold okAt at h ⊢
      cases hsj : sd[j]? with
      | none => trivial
      | some p =>
        obtain ⟨d, s'⟩ := p
        rw [hsj] at h
        cases s' with
        | is v => exact h
        | «by» p => exact hmo hsj _ h
    unfold relQ at hB
    by_cases h1 : i = x.s
    · rw [if_pos h1] at hB
      exact ⟨hok (rel := x.rel) fun hsj u hu => monoR_at hx.hrel hsj u W W' hB hu, fun hj => absurd (hj.trans h1.symm) hne, fun hj => hqy _ _ _ hB (hq2 hj)⟩
    · rw [if_neg h1] at hB
      by_cases h2 : i = y.s
      · rw [if_pos h2] at hB
        exact ⟨hok (rel := y.rel) fun hsj u hu => monoR_at hy.hrel hsj u W W' hB hu, fun hj => hqx _ _ _ hB (hq1 hj), fun hj => absurd (hj.trans h2.symm) hne⟩
      · rw [if_neg h2] at hB
        exact ⟨hok (rel := y.rel) fun hsj u hu => mono_at hmono hsj u W W' hB hu, fun hj => hx.hq _ _ _ hB (hq1 hj), fun hj => hy.hq _ _ _ hB (hq2 hj)⟩
  · intro i o hoi L g W _ _ hG hd
    have key : ∀ (l : List Oper) (k : Nat), DStepsQ P pre.toArray N w sd dl f x y k l → ∀ j o, l[j]? = some o → DStepsQ P pre.toArray N w sd dl f x y (k + j) [o] := by
      intro l
      induction l with
      | nil => intro k _ j o h; simp at h
      | cons z l ih =>
        intro k hs j o h
        cases j with
        | zero =>
          simp only [List.getElem?_cons_zero, Option.some.injEq] at h
          subst h
          exact ⟨hs.1, trivial⟩
        | succ j =>
          have := ih (k + 1) hs.2 j o (by simpa using h)
          rw [show k + (j + 1) = k + 1 + j by omega]
          exact this
    have hk := (key pre 0 hst i o (by simpa using hoi)).1
    rw [Nat.zero_add] at hk
    have hdo : depsOf .any o = (dl[i]?).getD [] := by rw [← hda i, depsAt_eq hoi]
    rw [hdo] at hd ⊢
    rw [putL_eq (ds := sd.map (·.1)) (by simpa using hds)]
    have hdk : ∀ j ∈ (dl[i]?).getD [], okAt sd j (g j) W := fun j hj => by
      have := (hd j hj).1
      rwa [restr_self] at this
    by_cases h1 : i = x.s
    · rw [if_pos h1] at hk
      subst h1
      refine (hx.step hds hN ha hG hdk hk).mono fun v W' h => ⟨by unfold relQ; rw [if_pos rfl]; exact h.1, hx.hbr _ _ hG h.1, ?_, fun _ => ?_, fun e => absurd e hxy.1⟩
      · unfold okAt; rw [hx.hs]; trivial
      · have e : restr (upd g x.s v) (x.s :: (dl[x.s]?).getD []) x.t = g x.t := by
          unfold restr upd
          rw [if_pos (by simp [hmx]), if_neg (fun h => hx.hne h.symm)]
        rw [e]
        exact h.2
    · rw [if_neg h1] at hk
      by_cases h2 : i = y.s
      · rw [if_pos h2] at hk
        subst h2
        refine (hy.step hds hN ha hG hdk hk).mono fun v W' h => ⟨by unfold relQ; rw [if_neg h1, if_pos rfl]; exact h.1, hy.hbr _ _ hG h.1, ?_, fun e => absurd e h1, fun _ => ?_⟩
        · unfold okAt; rw [hy.hs]; trivial
        · have e : restr (upd g y.s v) (y.s :: (dl[y.s]?).getD []) y.t = g y.t := by
            unfold restr upd
            rw [if_pos (by simp [hmy]), if_neg (fun h => hy.hne h.symm)]
          rw [e]
          exact h.2
      · rw [if_neg h2] at hk
        have hH : HypL (fun j g w => okAt sd j (g j) w) dl g W ((dl[i]?).getD []) := HypL.of _ fun j hj => by have := (hd j hj).1; rwa [hda j] at this
        refine (DStep.to hN _ f a (hk W hG) ha hH).mono fun v W' h => ⟨by unfold relQ; rw [if_neg h1, if_neg h2]; exact h.1, hG.trans (h.1.mono hG.size), ?_, fun e => absurd e h1, fun e => absurd e h2⟩
        simp only [restr_self]
        rw [show upd g i v i = v by simp [upd]]
        exact h.2
  · intro L g W hL hG hd
    rw [putL_eq (ds := sd.map (·.1)) (by simpa using hds)]
    have hsize : pre.toArray.size = sd.length := by simp; omega
    have hdk : ∀ j, j < sd.length → okAt sd j (g j) W := fun j hj => by
      have := (hd j (by omega)).1
      rwa [restr_self] at this
    have hpt : ∀ c : WrQ, OkQ w sd dl m c → c.pt (g c.t) W := fun c hc => by
      have := hdk c.t (hslt c hc).2
      unfold okAt at this
      rw [hc.ht] at this
      exact this
    have hq1 : x.q (g x.t) W := by
      have := (hd x.s (by have := (hslt x hx).1; omega)).2.1 rfl
      have e : restr g (x.s :: depsAt .any pre.toArray x.s) x.t = g x.t := by
        rw [hda x.s]
        unfold restr
        rw [if_pos (by simp [hmx])]
      rwa [e] at this
    have hq2 : y.q (g y.t) W := by
      have := (hd y.s (by have := (hslt y hy).1; omega)).2.2 rfl
      have e : restr g (y.s :: depsAt .any pre.toArray y.s) y.t = g y.t := by
        rw [hda y.s]
        unfold restr
        rw [if_pos (by simp [hmy])]
      rwa [e] at this
    have hp1 := hpt x hx
    have hp2 := hpt y hy
    obtain ⟨u1, hu1⟩ : ∃ ut, ut = g x.t := ⟨_, rfl⟩
    obtain ⟨u2, hu2⟩ : ∃ ut, ut = g y.t := ⟨_, rfl⟩
    have hlt2 : y.t < (sd.set x.t (some x.dt, .is u1)).length := by rw [List.length_set]; exact (hslt y hy).2
    have hty : (sd.set x.t (some x.dt, .is u1))[y.t]? = some (some y.dt, .by y.pt) := by rw [List.getElem?_set_ne hxy.2.1]; exact hy.ht
    have hH : HypL (fun j g w => okAt ((sd.set x.t (some x.dt, .is u1)).set y.t (some y.dt, .is u2)) j (g j) w) dl g W (List.range' 0 sd.length) := HypL.of _ fun j hj => by
      show okAt _ j (restr g (j :: _) j) W
      rw [restr_self]
      refine okQ hlt2 hu2 (okQ (hslt x hx).2 hu1 (hdk j ?_))
      simp [List.mem_range'] at hj
      omega
    have hfin := DEnd.to (Q := fun a W => wpList P (pre ++ suf).toArray Q suf a W) (inN_set (s' := .is u2) hty (inN_set (s' := .is u1) hx.ht hN)) (fun f h a ha => h a ha) ((sd.set x.t (some x.dt, .is u1)).set y.t (some y.dt, .is u2)) 0 f a (by simp) (hend W hG u1 u2 (by rw [hu1]; exact hp1) (by rw [hu1]; exact hq1) (by rw [hu2]; exact hp2) (by rw [hu2]; exact hq2)) ha (by rw [List.length_set, List.length_set]; exact hH)
    rw [List.length_set, List.length_set, map_set hty, map_set hx.ht] at hfin
    show wpOps P (pre ++ suf).toArray Q (List.range' pre.toArray.size suf.length) _ _
    rw [wpOps_eq_wpList suf pre.toArray.size (fun j => by simp [List.getElem?_append_right])]
    rw [List.range_eq_range', hsize]
    exact hfin
end
def CmD (base : Nat) (L : List Nat) (S : List (List Int)) (t1 t2 : Value) (cs : List RcV) (u : Value) (W : World) : Prop := ((u = .slice none 0 0 ∧ cs = []) ∧ RdF 128 L W t1 (S.map encS) ∧ RdF 129 L W t2 (([] : List (Int × List Int)).map encW)) ∨ ∃ D, base ≤ D ∧ D ∉ L ∧ OwS 1 W u (cs.map encR) D ∧ RdF 128 (D :: L) W t1 (S.map encS) ∧ RdF 129 (D :: L) W t2 (([] : List (Int × List Int)).map encW)
def CmH (base hi : Nat) (L : List Nat) (S : List (List Int)) (t1 t2 : Value) (cs : List RcV) (u : Value) (W : World) : Prop := ((u = .slice none 0 0 ∧ cs = []) ∧ RdF 128 L W t1 (S.map encS) ∧ RdF 129 L W t2 (([] : List (Int × List Int)).map encW)) ∨ ∃ D, base ≤ D ∧ D < hi ∧ D ∉ L ∧ OwS 1 W u (cs.map encR) D ∧ RdF 128 (D :: L) W t1 (S.map encS) ∧ RdF 129 (D :: L) W t2 (([] : List (Int × List Int)).map encW)
section
variable {base hi : Nat} {L L' : List Nat} {S : List (List Int)} {t1 t2 u : Value} {cs : List RcV} {w w' : World}
theorem CmD.below (h : CmD base L S t1 t2 cs u w) (hb : Below w.heap.size w w') : CmD base L S t1 t2 cs u w' := by
 rcases h with ⟨h, h1, h2⟩ | ⟨D, k1, k2, k3, h1, h2⟩
 · exact .inl ⟨h, h1.below hb, h2.below hb⟩
 · exact .inr ⟨D, k1, k2, k3.below hb, h1.below hb, h2.below hb⟩
theorem less_perm {D B : Nat} {L : List Nat} : ∀ x, x ∈ D :: B :: L → x ∈ B :: D :: L := fun x hx => by
 simp only [List.mem_cons] at hx ⊢
 rcases hx with h | h | h
 · exact .inr (.inl h)
 · exact .inl h
 · exact .inr (.inr h)
theorem CmD.more (h : CmD base L S t1 t2 cs u w) (hb : Below w.heap.size w w') {B : Nat} (hB : w.heap.size ≤ B) : CmD base (B :: L) S t1 t2 cs u w' := by
  rcases h with ⟨h, h1, h2⟩ | ⟨D, k1, k2, k3, h1, h2⟩
  · exact .inl ⟨h, h1.more hb hB, h2.more hb hB⟩
  · have hlt := k3.lt
    exact .inr ⟨D, k1, fun e => by rcases List.mem_cons.1 e with e | e; omega; exact k2 e, k3.below hb, (h1.more hb hB).less less_perm, (h2.more hb hB).less less_perm⟩
theorem CmD.less (h : CmD base L S t1 t2 cs u w) (hl : ∀ x, x ∈ L' → x ∈ L) : CmD base L' S t1 t2 cs u w := by
  rcases h with ⟨h, h1, h2⟩ | ⟨D, k1, k2, k3, h1, h2⟩
  · exact .inl ⟨h, h1.less hl, h2.less hl⟩
  · have hh : ∀ x, x ∈ D :: L' → x ∈ D :: L := fun x hx => by
      rcases List.mem_cons.1 hx with h | h
      · exact h ▸ .head _
      · exact .tail _ (hl x h)
    exact .inr ⟨D, k1, fun e => k2 (hl D e), k3, h1.less hh, h2.less hh⟩
theorem CmD.only (h : CmD base L S t1 t2 cs u w) {B : Nat} (ho : Only B w w') (hB : B ∈ L) : CmD base L S t1 t2 cs u w' := by
 rcases h with ⟨h, h1, h2⟩ | ⟨D, k1, k2, k3, h1, h2⟩
 · exact .inl ⟨h, h1.only ho hB, h2.only ho hB⟩
 · exact .inr ⟨D, k1, k2, k3.other ho (fun e => k2 (e ▸ hB)), h1.only ho (.tail _ hB), h2.only ho (.tail _ hB)⟩
theorem CmD.chgM (h : CmD base L S t1 t2 cs u w) {Cs : List Nat} (g : ChgM Cs w w') (hC : ∀ C ∈ Cs, C ∈ L) : CmD base L S t1 t2 cs u w' := by
 rcases h with ⟨h, h1, h2⟩ | ⟨D, k1, k2, k3, h1, h2⟩
 · exact .inl ⟨h, h1.chgM g hC, h2.chgM g hC⟩
 · exact .inr ⟨D, k1, k2, k3.chgM g (fun e => k2 (hC D e)), h1.chgM g (fun C hc => .tail _ (hC C hc)), h2.chgM g (fun C hc => .tail _ (hC C hc))⟩
theorem CmD.rd1 (h : CmD base L S t1 t2 cs u w) : RdF 128 L w t1 (S.map encS) := by
 rcases h with ⟨h, h1, h2⟩ | ⟨D, k1, k2, k3, h1, h2⟩
 · exact h1
 · exact h1.less fun x hx => .tail _ hx
theorem CmD.rd2 (h : CmD base L S t1 t2 cs u w) : RdF 129 L w t2 (([] : List (Int × List Int)).map encW) := by
 rcases h with ⟨h, h1, h2⟩ | ⟨D, k1, k2, k3, h1, h2⟩
 · exact h2
 · exact h2.less fun x hx => .tail _ hx
theorem CmD.one1 (h : CmD base L S t1 t2 cs u w) : t1.oneCell' = true := h.rd1.one
theorem CmD.one2 (h : CmD base L S t1 t2 cs u w) : t2.oneCell' = true := h.rd2.one
theorem CmD.rdc (h : CmD base L S t1 t2 cs u w) : RdF 1 [] w u (cs.map encR) := by
 rcases h with ⟨⟨h, hc⟩, h1, h2⟩ | ⟨D, k1, k2, k3, h1, h2⟩
 · rw [h, hc]; exact RdF.nil (by decide)
 · exact k3.rd (fun e => by cases e)
theorem CmH.below (h : CmH base hi L S t1 t2 cs u w) (hb : Below w.heap.size w w') : CmH base hi L S t1 t2 cs u w' := by
 rcases h with ⟨h, h1, h2⟩ | ⟨D, k1, k0, k2, k3, h1, h2⟩
 · exact .inl ⟨h, h1.below hb, h2.below hb⟩
 · exact .inr ⟨D, k1, k0, k2, k3.below hb, h1.below hb, h2.below hb⟩
theorem CmH.wr {t n : Nat} (h : CmH base hi L S t1 t2 cs u w) (hw : WrT hi t n w w') (hn : n < 128) : CmH base hi L S t1 t2 cs u w' := by
 have hw0 := hw
 obtain ⟨C, c1, c2, q1, q2, q3, q0, q4, q5⟩ := hw
 rcases h with ⟨h, h1, h2⟩ | ⟨D, k1, k0, k2, k3, h1, h2⟩
 · exact .inl ⟨h, h1.wr hw0 hn, h2.wr hw0 (by omega)⟩
 · exact .inr ⟨D, k1, k0, k2, k3.other q5 (by omega), h1.wr hw0 hn, h2.wr hw0 (by omega)⟩
theorem CmH.one1 (h : CmH base hi L S t1 t2 cs u w) : t1.oneCell' = true := by
 rcases h with ⟨h, h1, h2⟩ | ⟨D, k1, k0, k2, k3, h1, h2⟩
 · exact h1.one
 · exact h1.one
theorem CmH.one2 (h : CmH base hi L S t1 t2 cs u w) : t2.oneCell' = true := by
 rcases h with ⟨h, h1, h2⟩ | ⟨D, k1, k0, k2, k3, h1, h2⟩
 · exact h2.one
 · exact h2.one
theorem CmH.end (h : CmH base hi L S t1 t2 cs u w) {A B : Nat} {a b : List Value} (hA : Blk w A a) (hB : Blk w B b) (ha : a.length < 128) (hb : b.length < 128) (h1 : hi ≤ A) (h2 : hi ≤ B) : CmD base (B :: A :: L) S t1 t2 cs u w := by
  rcases h with ⟨h, k1, k2⟩ | ⟨D, k1, k0, k2, k3, k4, k5⟩
  · exact .inl ⟨h, (k1.offB hA ha).offB hB hb, (k2.offB hA (by omega)).offB hB (by omega)⟩
  · refine .inr ⟨D, k1, fun e => ?_, k3, ((k4.offB hA ha).offB hB hb).less ?_, ((k5.offB hA (by omega)).offB hB (by omega)).less ?_⟩
    · simp only [List.mem_cons] at e
      rcases e with e | e | e
      · omega
      · omega
      · exact k2 e
    all_goals
      intro x hx
      simp only [List.mem_cons] at hx ⊢
      rcases hx with h | h | h | h
      · exact .inr (.inr (.inl h))
      · exact .inl h
      · exact .inr (.inl h)
      · exact .inr (.inr (.inr h))
theorem RdF.moreL {s : Nat} {v : Value} {rs : List (List Value)} (h : RdF s L w v rs) (hb : Below w.heap.size w w') : ∀ (L' : List Nat), (∀ x ∈ L', x ∈ L ∨ w.heap.size ≤ x) → RdF s L' w' v rs
  | [], _ => (h.below hb).less (fun x hx => by cases hx)
  | x :: L', hl => by
    have ih := RdF.moreL h hb L' fun y hy => hl y (.tail _ hy)
    rcases hl x (.head _) with hx | hx
    · obtain ⟨h0, hr, a, cap, h1, h2, h3, h4, h5⟩ := ih
      obtain ⟨_, _, a', cap', h1', _, _, _, h5'⟩ := h.below hb
      rw [h1] at h1'
      cases h1'
      refine ⟨h0, hr, a, cap, h1, h2, h3, h4, fun hn => ?_⟩
      obtain ⟨X, o, e, hX, hc⟩ := h5 hn
      obtain ⟨X', o', e', hX', _⟩ := h5' hn
      rw [e] at e'
      cases e'
      exact ⟨X, o, e, fun q => by rcases List.mem_cons.1 q with q | q; exact hX' (q ▸ hx); exact hX q, hc⟩
    · obtain ⟨h0, hr, a, cap, h1, h2, h3, h4, h5⟩ := ih
      obtain ⟨_, _, a', cap', h1', _, _, _, h5'⟩ := h
      rw [h1] at h1'
      cases h1'
      refine ⟨h0, hr, a, cap, h1, h2, h3, h4, fun hn => ?_⟩
      obtain ⟨X, o, e, hX, hc⟩ := h5 hn
      obtain ⟨X', o', e', hX', hc'⟩ := h5' hn
      rw [e] at e'
      cases e'
      have hne := h0
      have hlen : 0 < rs.flatten.length := by
        rw [flat_len hr]
        exact Nat.mul_pos (List.length_pos_iff.2 hn) h0
      have hXl : X < w.heap.size := by
        have := hc' 0 _ (List.getElem?_eq_getElem hlen)
        exact World.block_lt_of_cell? w _ this
      exact ⟨X, o, e, fun q => by rcases List.mem_cons.1 q with q | q; omega; exact hX q, hc⟩
end
section
variable {P : Program} {ops : Array Oper} {o : Oper} {N : Nat} {f : Fl} {w : World}
theorem dx_apC {t bytes base : Nat} {x y : Operand} {u v2 dv t1 t2 : Value} {S : List (List Int)} {rs : List RcV} {z : List Int} {L : List Nat} {Cs : List (Nat × List Value)} (ho : o.op = .call { callee := .builtin .append, args := #[x, y], argTypes := #[t, t] }) (ht : apB P t 1 bytes = true) (hx : ev f x = some u) (hy : ev f y = some v2)
    (h : CmD base L S t1 t2 rs u w) (h2 : RdF 1 [] w v2 [[dv]]) (h1 : dv.oneCell' = true) (hm : rs.length + 1 ≤ maxLen) (hby : (rs.length + 1) * bytes ≤ 140737488355328) (hb : base ≤ w.heap.size) (hL : LL L w) (hC : ∀ c ∈ Cs, Blk w c.1 c.2 ∧ c.1 ∈ L) (hw : wantF ops o f = some true := by rfl) : DR P ops o N f w fun u' W => CmD base L S t1 t2 (rs ++ [(z, dv)]) u' W ∧ Below base w W ∧ w.heap.size ≤ W.heap.size ∧ ∀ c ∈ Cs, Blk W c.1 c.2 := fun a ha => by
  have hone : ∀ r ∈ [[dv]], ∀ u ∈ r, u.oneCell' = true := fun r hr u hu => by
    rw [List.mem_singleton.1 hr] at hu
    rw [List.mem_singleton.1 hu]
    exact h1
  rcases h with ⟨⟨rfl, rfl⟩, r1, r2⟩ | ⟨D, q1, hDL, hO, r1, r2⟩
  · refine Does.mono (dx_apF (rs := []) (L := []) ho ht hx hy (RdF.nil (by decide)) h2 (by simp) (by simpa using hm) (by simpa using hby) hw a ha) fun v W ⟨k1, k2, k3⟩ => ⟨.inr ⟨w.heap.size, hb, fun e => Nat.lt_irrefl _ (hL _ e), k1, r1.more k2 (Nat.le_refl _), r2.more k2 (Nat.le_refl _)⟩, k2.mono hb, Nat.le_of_lt k3, fun c hc => (hC c hc).1.below k2⟩
  · refine Does.mono (dx_apO' ho ht hx hy hO h2 hone (by rw [List.length_map]; exact hm) (by rw [List.length_map]; exact hby) hw a ha) fun v W ⟨B', k1, k2⟩ => ⟨.inr ⟨B', k2.le q1 hb, ?_, ?_, r1.grow k2, r2.grow k2⟩, k2.from_base q1 hb, k2.size, fun c hc => (hC c hc).1.grow k2 (fun e => hDL (e ▸ (hC c hc).2))⟩
    · intro e
      have := k2.new
      rcases this with rfl | hh
      · exact hDL e
      · have := hL _ e; omega
    · rw [List.map_append]; exact k1
end
theorem NewT.wrO {base t t' n n' : Nat} {u : Value} {w w' : World} (h : NewT base t' n' u w) (hw : WrT base t n w w') (hn : (t' == t) = false) : NewT base t' n' u w' := by
 obtain ⟨B, cs, h1, h2, h3, h4⟩ := h
 obtain ⟨C, c1, c2, k1, k2, k3, k0, k4, k5⟩ := hw
 exact ⟨B, cs, h1, h2, by unfold BlkT; rw [k5.block B (h3.ne k2 hn)]; exact h3, h4⟩
def TupC (base hi : Nat) (L : List Nat) (S : List (List Int)) (a e : Int) (cs : List RcV) (cv : Value) (v : Value) (W : World) : Prop := ∃ t1 t2, v = .tuple #[.agg #[t1, t2, .int .i64 (-1), .bool false], .agg #[.int .i64 0, .int .i64 1, .int .i64 a], .int .i64 e] ∧ CmH base hi L S t1 t2 cs cv W
def AggC (base hi : Nat) (L : List Nat) (S : List (List Int)) (cs : List RcV) (cv : Value) (v : Value) (W : World) : Prop := ∃ t1 t2, v = .agg #[t1, t2, .int .i64 (-1), .bool false] ∧ CmH base hi L S t1 t2 cs cv W
section
variable {base hi : Nat} {L : List Nat} {S : List (List Int)} {a e : Int} {cs : List RcV} {cv v : Value} {w w' : World}
theorem TupC.below (h : TupC base hi L S a e cs cv v w) (hb : Below w.heap.size w w') : TupC base hi L S a e cs cv v w' := by
 obtain ⟨t1, t2, h1, h2⟩ := h; exact ⟨t1, t2, h1, h2.below hb⟩
theorem AggC.below (h : AggC base hi L S cs cv v w) (hb : Below w.heap.size w w') : AggC base hi L S cs cv v w' := by
 obtain ⟨t1, t2, h1, h2⟩ := h; exact ⟨t1, t2, h1, h2.below hb⟩
theorem TupC.wr {t n : Nat} (h : TupC base hi L S a e cs cv v w) (hw : WrT hi t n w w') (hn : n < 128) : TupC base hi L S a e cs cv v w' := by
 obtain ⟨t1, t2, h1, h2⟩ := h; exact ⟨t1, t2, h1, h2.wr hw hn⟩
theorem AggC.wr {t n : Nat} (h : AggC base hi L S cs cv v w) (hw : WrT hi t n w w') (hn : n < 128) : AggC base hi L S cs cv v w' := by
 obtain ⟨t1, t2, h1, h2⟩ := h; exact ⟨t1, t2, h1, h2.wr hw hn⟩
end

theorem CmD.toH {base : Nat} {L : List Nat} {S : List (List Int)} {t1 t2 u : Value} {cs : List RcV} {w : World} (h : CmD base L S t1 t2 cs u w) : CmH base w.heap.size L S t1 t2 cs u w := by
 rcases h with ⟨h, h1, h2⟩ | ⟨D, k1, k2, k3, h1, h2⟩
 · exact .inl ⟨h, h1, h2⟩
 · exact .inr ⟨D, k1, k3.lt, k2, k3, h1, h2⟩
theorem append_c {base hi : Nat} {L : List Nat} {S S' : List (List Int)} {used u' e : Int} {cs : List RcV} {cv s1 s2 rv : Value} {rec : List Int} {w : World} (hE : appendD S [] (-1) false 0 1 used rec = (⟨S', [], -1, false, e⟩, 0, 1, u')) (hL : LL L w) (hj : CmH base hi L S s1 s2 cs cv w) (h3 : ∀ L' : List Nat, (∀ x ∈ L', x ∈ L ∨ base ≤ x) → RdF 1 L' w rv (e8s rec)) (hbd : BytD S []) (hrb : Byt rec) (hul : -9223372036854775808 ≤ used ∧ used ≤ 9223372036854775807) (hrm : rec.length ≤ 1000000000) (hT : TabS w) : CV Tryd.prog 18 [.agg #[s1, s2, .int .i64 (-1), .bool false], .agg #[.int .i64 0, .int .i64 1, .int .i64 used], rv] w fun v W => TupC base hi L S' u' e cs cv v W := by
  rcases hj with ⟨hn, h1, h2⟩ | ⟨D, k1, k0, k2, k3, h1, h2⟩
  · refine Calls.mono (append_e hE hL h1 h2 (h3 L fun x hx => .inl hx) (by decide) hbd hrb hul hrm hT) fun _ W h => ?_
    obtain ⟨v, he, ⟨t1, t2, ev, g1, g2⟩, hb⟩ := h
    exact ⟨v, he, ⟨t1, t2, ev, .inl ⟨hn, g1, g2⟩⟩, hb⟩
  · have hLD : LL (D :: L) w := fun x hx => by
      rcases List.mem_cons.1 hx with h | h
      · exact h ▸ k3.lt
      · exact hL x h
    refine Calls.mono (append_e hE hLD h1 h2 (h3 (D :: L) fun x hx => by rcases List.mem_cons.1 hx with h | h; exact .inr (h ▸ k1); exact .inl h) (by decide) hbd hrb hul hrm hT) fun _ W h => ?_
    obtain ⟨v, he, ⟨t1, t2, ev, g1, g2⟩, hb⟩ := h
    exact ⟨v, he, ⟨t1, t2, ev, .inr ⟨D, k1, k0, k2, k3.below hb, g1, g2⟩⟩, hb⟩
theorem Opn.app3 {S : List (List Int)} {n : Nat} {l : List (List Int)} (h : Opn S n 0 1 l) {r : List Int} (hb : Byt r) : (4096 < r.length ∧ appendD S [] (-1) false 0 1 (1 + (cntP l : Int)) r = (⟨S, [], -1, false, 3⟩, 0, 1, 1 + (cntP l : Int))) ∨ (¬ 4096 < r.length ∧ (n : Int) / 2 < 1 + (cntP l : Int) + sizeD (r.length : Int) ∧ appendD S [] (-1) false 0 1 (1 + (cntP l : Int)) r = (⟨S, [], -1, false, 10⟩, 0, 1, 1 + (cntP l : Int))) ∨ (¬ 4096 < r.length ∧ ¬ (n : Int) / 2 < 1 + (cntP l : Int) + sizeD (r.length : Int) ∧ (cntP (l ++ [r]) : Int) = (cntP l : Int) + sizeD (r.length : Int) ∧ ∃ S', appendD S [] (-1) false 0 1 (1 + (cntP l : Int)) r = (⟨S', [], -1, false, 0⟩, 0, 1, 1 + (cntP (l ++ [r]) : Int)) ∧ Opn S' n 0 1 (l ++ [r])) := by
  have hc := check_0 h.right (by rw [h.len]; exact h.n1)
  obtain ⟨A, B, hAB, hh⟩ := h.half
  have hfit := hh.fit
  rw [← hAB] at hfit
  have hlg : logD (S.length : Int) 0 1 (1 + (cntP l : Int)) = 0 := by
    unfold logD
    rw [h.len, if_neg (by omega)]
  by_cases h1 : 4096 < r.length
  · exact .inl ⟨h1, appendD_g hc hlg h1⟩
  · have hs := sizeD_n (r := r) (by omega)
    by_cases h2 : (n : Int) / 2 < 1 + (cntP l : Int) + sizeD (r.length : Int)
    · exact .inr (.inl ⟨h1, h2, appendD_f hc hlg h1 (by rw [h.len]; exact h2)⟩)
    · obtain ⟨S', e, ho⟩ := h.app (f := -1) (by decide) hb (by omega) (by omega)
      exact .inr (.inr ⟨h1, h2, by rw [cntP_add, hs]; omega, S', e, ho⟩)
theorem HalfU.of {x : Option (List (List Int) × Int × Nat)} {n u : Nat} {rs : List RcV} {g G : Int} {b : Bool} {l : List (List Int)} (h : HalfU x n rs g b) (e : x = some (l, G, u)) : b = true ∧ rs.map Prod.fst = l ∧ g = G := by
 cases b with
 | false => rw [(h.2 rfl).1] at e; cases e
 | true =>
  obtain ⟨u', e', _⟩ := h.1 rfl
  rw [e] at e'
  cases e'
  exact ⟨rfl, rfl, rfl⟩
section
variable {P : Program} {N : Nat} {Q : Exit → Act → World → Prop} {f : Fl} {w : World}
theorem WC.loop6 {α β γ δ ε ζ : Type} {c : Code} (fr : α → β → γ → δ → ε → ζ → Fl) (I : α → β → γ → δ → ε → ζ → World → Prop) (μ : α → β → γ → δ → ε → ζ → Nat) (a0 : α) (b0 : β) (c0 : γ) (d0 : δ) (e0 : ε) (z0 : ζ) (hs : Sub (fr a0 b0 c0 d0 e0 z0) f) (h0 : I a0 b0 c0 d0 e0 z0 w)
  (round : ∀ (K : Act → World → Prop) a b c' d e z w, I a b c' d e z w → (∀ {f' w'} (a' : α) (b' : β) (c'' : γ) (d' : δ) (e' : ε) (z' : ζ), I a' b' c'' d' e' z' w' → μ a' b' c'' d' e' z' < μ a b c' d e z → Sub (fr a' b' c'' d' e' z') f' → ∀ x, Fr N x f' → K x w') → WC P N c (Exit.then K Q) (fr a b c' d e z) w) : WC P N (.loop c) Q f w :=
 WC.loop (σ := α × β × γ × δ × ε × ζ) (fun s => fr s.1 s.2.1 s.2.2.1 s.2.2.2.1 s.2.2.2.2.1 s.2.2.2.2.2) (fun s => I s.1 s.2.1 s.2.2.1 s.2.2.2.1 s.2.2.2.2.1 s.2.2.2.2.2) (fun s => μ s.1 s.2.1 s.2.2.1 s.2.2.2.1 s.2.2.2.2.1 s.2.2.2.2.2) (a0, b0, c0, d0, e0, z0) hs h0 fun K s w hI hK => round K s.1 s.2.1 s.2.2.1 s.2.2.2.1 s.2.2.2.2.1 s.2.2.2.2.2 w hI fun a' b' c' d' e' z' h1 h2 h3 => hK (a', b', c', d', e', z') h1 h2 h3
end
set_option maxHeartbeats 1000000 in
theorem fills_v (rs : List RcV) (rv : Value) (sc : Int) (w : World) (L : List Nat) (hL : LL L w) (h1 : RdF 1 L w rv (rs.map encR)) (hrs : RdRs L w rs)  (hrg : ∀ r ∈ rs, Byt r.1) (hsc : 0 ≤ sc ∧ sc ≤ 255) (hT : TabS w) : CV Tryd.prog 8 [rv, .int .u8 sc] w fun v W => v = .bool true := by
 have h10 := h1
 have hrs0 := hrs
 refine cv_enter (N := 152) (f := [(0, rv), (1, .int .u8 sc)]) Tryd.func8 rfl rfl rfl rfl fun Q hQ hE => ?_
 have hB := Below.refl w.heap.size w
 have h1m : rs.length ≤ maxLen := by have := h1.len; rwa [List.length_map] at this
 unfold maxLen at h1m
 refine Sq fun K1 hK1 => (Rg (Pu rfl (Ni (hK1 (Sq fun K2 hK2 => (Sq fun K3 hK3 => (Rg ?_)))))))
 refine Ge (dx_cv rfl Tryd.func9 rfl rfl rfl (alive_v w [] (LL.nil _) (hT.below hB))) rfl rfl ?_
 rintro _ W5 ⟨rfl, b4⟩
 replace h1 := h1.below b4
 replace hB := below_then hB b4
 replace hL := LL.below hL b4
 refine Va (dx_not rfl rfl) rfl rfl (Ni (hK3 (WC.condF rfl (WC.skip (hK2 (Sq fun K6 hK6 => (Rg ?_)))))))
 refine Pu rfl (Va (dx_lenM rfl ty_slice_31 rfl h1) rfl rfl (Pu rfl (Ni (hK6 (Sq fun K7 hK7 => (Sq fun K8 hK8 => (Rg ?_)))))))
 refine Pu rfl (Ni (hK8 (WC.block ?_)))
 refine WC.loop2 (fun (i : Nat) (n : Int) => [(0, rv), (1, .int .u8 sc), (5, .int .i64 n), (6, .int .i64 (i : Int))]) (fun (i : Nat) (n : Int) W => i ≤ rs.length ∧ 0 ≤ n ∧ (n ≤ (rs.length : Int) ∨ n ≤ 15000) ∧ (∀ r ∈ rs.take i, (r.1.length : Int) ≤ n ∨ 10000 ≤ n) ∧ Below w.heap.size w W ∧ LL (L) W ∧ RdF 1 (L) W rv (rs.map encR)) (fun (i : Nat) (n : Int) => rs.length - i) 0 (rs.length : Int) (by repeat first | exact trivial | refine aR ?_ | refine aI (by omega) ?_) ⟨Nat.zero_le _, (by omega), (.inl (Int.le_refl _)), (fun r hr => by cases hr), hB, hL, h1⟩ ?_
 clear h1 hB hL
 rintro K9 i n W10 ⟨hi, hn0, hn1, hnl, hB, hL, h1⟩ hK9
 refine Sq fun K11 hK11 => (Sq fun K12 hK12 => (Rg (Pu rfl (Pu rfl (Va (dx_lenM rfl ty_slice_31 rfl h1) rfl rfl (Va (dx_lss rfl rfl rfl) rfl rfl (Pu rfl ?_)))))))
 refine WL.split 29 rfl (fun g13 => ?_) (fun g13 => ?_)
 ·
  replace g13 := dT g13
  refine Pu rfl (Va (dx_leq rfl rfl rfl) rfl rfl (Pu rfl (Ni (hK12 ?_))))
  refine WC.cond rfl (fun c14 => ?_) (fun c14 => ?_)
  ·
   replace c14 := dT c14
   refine WC.skip (hK11 (Sq fun K15 hK15 => (WC.block (Rg (Pu rfl (Pu rfl (Pu rfl ?_)))))))
   obtain ⟨r16, e17⟩ : ∃ x, rs[i]? = some x := ⟨_, List.getElem?_eq_getElem (by omega)⟩
   refine Ge (dx_idxF i rfl ty_slice_31 rfl rfl h1 (by omega) (at_map (enc := encR) e17)) rfl rfl ?_
   rintro u18 _ ⟨rfl, p19⟩
   refine Va (dx_loadP rfl ty_one_40 rfl p19) rfl rfl (Va (dv_eJ (dx_lenB rfl ty_slice_40 rfl (hrs0 r16 (List.mem_of_getElem? e17))) (show _ = Value.int .i64 (r16.1.length : Int) by rw [List.length_map])) rfl rfl ?_)
   obtain ⟨mn, hmn, hmn2⟩ : ∃ m_ : Int, m_ = (if (10000 : Int) < (r16.1.length : Int) then 10000 else (r16.1.length : Int)) ∧ (m_ = r16.1.length ∧ m_ ≤ 10000 ∨ m_ = 10000) := ⟨_, rfl, by split <;> omega⟩
   refine Va (dv_eJ (dx_min rfl rfl rfl) (congrArg (Value.int .i64) hmn.symm)) rfl rfl (Va (dx_add (r := n + mn) rfl rfl rfl (wrap64_id (by omega))) rfl rfl (Pu rfl (Ni (hK15 (Rg (Pu rfl (Va (dx_add (r := (i : Int) + 1) rfl rfl rfl (wrap64_id (by omega))) rfl rfl ?_)))))))
   refine Pu rfl (Ni ?_)
   exact hK9 (i + 1) (n + mn) ⟨(by omega), (by omega), (by omega), (fun r_ hr_ => by rw [List.take_add_one, e17] at hr_; rcases List.mem_append.1 hr_ with h_ | h_; (have := hnl r_ h_; omega); simp only [Option.toList_some, List.mem_singleton] at h_; rw [h_]; omega), hB, hL, h1⟩ (by omega) (by repeat first | exact trivial | refine aR ?_ | refine aI (by omega) ?_)
  ·
   replace c14 := dF c14
   refine WC.exit ?_
   refine hK7 (Sq fun K20 hK20 => (Sq fun K21 hK21 => (Rg (Pu rfl (Va (dx_gtr rfl rfl rfl) rfl rfl (Pu rfl ?_))))))
   refine WL.split 45 rfl (fun g22 => ?_) (fun g22 => ?_)
   ·
    replace g22 := dT g22
    refine Of rfl (Of rfl (Of rfl (Pu rfl (Ni (hK21 (WC.condT rfl (Sq fun K23 hK23 => ?_)))))))
    refine Rg (Pu rfl (Ni (hK23 ?_)))
    exact WC.ret fun a_ ha_ => hQ (cv_ret1 rfl (.tmp rfl) rfl hB ha_)
   ·
    replace g22 := dF g22
    refine Pu rfl (Va (dx_lenM rfl ty_slice_31 rfl h1) rfl rfl (Va (dx_gtr rfl rfl rfl) rfl rfl (Pu rfl (Ni (hK21 ?_)))))
    refine WC.cond rfl (fun c24 => ?_) (fun c24 => ?_)
    ·
     replace c24 := dT c24
     refine Sq fun K25 hK25 => (Rg (Pu rfl (Ni (hK25 ?_))))
     exact WC.ret fun a_ ha_ => hQ (cv_ret1 rfl (.tmp rfl) rfl hB ha_)
    ·
     replace c24 := dF c24
     refine WC.skip (hK20 (Sq fun K26 hK26 => ?_))
     have hie : i = rs.length := by omega
     have hlen : ∀ r ∈ rs, r.1.length ≤ 5000 := fun r_ hr_ => by have := hnl r_ (by rw [List.take_of_length_le (by omega)]; exact hr_); omega
     obtain ⟨nn, hnn⟩ : ∃ nn : Nat, 8 + sc % 100 = (nn : Int) := ⟨(8 + sc % 100).toNat, by omega⟩
     have hnn2 : 8 ≤ nn ∧ nn ≤ 107 := by omega
     refine Rg (Pu rfl (Va (dx_conv (r := sc) rfl Tryd.underlying5 Tryd.underlying3 rfl (wrap64_id (by omega))) rfl rfl (Va (dx_rem (r := sc % 100) rfl rfl rfl (by omega) (Int.tmod_eq_emod_of_nonneg (by omega))) rfl rfl (Va (dx_add (r := (nn : Int)) rfl rfl rfl (by rw [wrap64_id (by omega)]; exact hnn)) rfl rfl ?_))))
     refine Ge (dx_cv rfl Tryd.func27 rfl rfl rfl (new_e (n := nn) ⟨by omega, by omega⟩ hL)) rfl rfl ?_
     rintro _ W28 ⟨⟨n1, n2, rfl, q1, q2⟩, b27⟩
     replace h1 := h1.below b27
     replace hB := below_then hB b27
     replace hL := LL.below hL b27
     refine Pu rfl (Pu rfl (Pu rfl ?_))
     refine Ge (dx_alloc rfl ty_zero_25 rfl) rfl rfl ?_
     rintro _ W29 ⟨rfl, k30, b31, z32⟩
     have l33 := hB.size
     replace h1 := h1.more b31 (Nat.le_refl _)
     replace q1 := q1.more b31 (Nat.le_refl _)
     replace q2 := q2.more b31 (Nat.le_refl _)
     replace hB := below_then hB b31
     replace hL := LL.more hL z32
     refine WL.do (dx_store (cs' := [n1, n2, .int .i64 (-1), .bool false]) (vs := [n1, n2, .int .i64 (-1), .bool false]) rfl ty_size_25_4 rfl rfl rfl (oC q1.one (oC q2.one (oC rfl (oC rfl oc_nil)))) k30 rfl (nB rfl) rfl) rfl ?_
     rintro _ W34 ⟨k36, o35⟩
     clear k30
     replace h1 := h1.only o35 (.head _)
     replace q1 := q1.only o35 (.head _)
     replace q2 := q2.only o35 (.head _)
     replace hB := o35.below hB l33
     replace hL := LL.only hL o35
     refine Pu rfl (Ni (hK26 (Sq fun K37 hK37 => ?_)))
     obtain ⟨SF, eF, oF⟩ := format_new (n := nn) (by omega) (by omega) (f := -1) (by decide)
     refine Rg (Va (dx_loadN rfl ty_agg_25_4 rfl k36.range rfl) rfl rfl ?_)
     refine Ge (dx_cv rfl Tryd.func20 rfl rfl rfl (format_e eF hL q1 q2 (by decide) (new_byt nn) (hT.below hB))) rfl rfl ?_
     rintro _ W39 ⟨⟨f1, f2, rfl, fk1, fk2⟩, b38⟩
     replace h1 := h1.below b38
     replace k36 := k36.below b38
     replace hB := below_then hB b38
     replace hL := LL.below hL b38
     refine Pu rfl (Pu rfl (Pu rfl (Pu rfl ?_)))
     refine Ge (dx_alloc rfl ty_zero_30 rfl) rfl rfl ?_
     rintro _ W40 ⟨rfl, k41, b42, z43⟩
     have n44 : W28.heap.size ≠ W39.heap.size := Nat.ne_of_lt k36.lt
     have l45 := hB.size
     replace h1 := h1.more b42 (Nat.le_refl _)
     replace fk1 := fk1.more b42 (Nat.le_refl _)
     replace fk2 := fk2.more b42 (Nat.le_refl _)
     replace k36 := k36.below b42
     replace hB := below_then hB b42
     replace hL := LL.more hL z43
     refine WL.do (dx_store (cs' := [f1, f2, .int .i64 (-1), .bool false]) (vs := [f1, f2, .int .i64 (-1), .bool false]) rfl ty_size_25_4 rfl rfl rfl (oC fk1.one (oC fk2.one (oC rfl (oC rfl oc_nil)))) k36 rfl (nB rfl) rfl) rfl ?_
     rintro _ W46 ⟨k48, o47⟩
     replace k41 := k41.other o47 n44.symm
     clear k36
     replace h1 := h1.only o47 (.tail _ (.head _))
     replace fk1 := fk1.only o47 (.tail _ (.head _))
     replace fk2 := fk2.only o47 (.tail _ (.head _))
     replace hB := o47.below hB l33
     replace hL := LL.only hL o47
     refine WL.do (dx_store (cs' := [.int .i64 0, .int .i64 1, .int .i64 1]) (vs := [.int .i64 0, .int .i64 1, .int .i64 1]) rfl ty_size_30_3 rfl rfl rfl (oC rfl (oC rfl (oC rfl oc_nil))) k41 rfl (nB rfl) rfl) rfl ?_
     rintro _ W49 ⟨k51, o50⟩
     replace k48 := k48.other o50 n44
     clear k41
     replace h1 := h1.only o50 (.head _)
     replace fk1 := fk1.only o50 (.head _)
     replace fk2 := fk2.only o50 (.head _)
     replace hB := o50.below hB l45
     replace hL := LL.only hL o50
     refine Pu rfl (Ni (hK37 (Sq fun K52 hK52 => (Rg (Pu rfl (Ni (hK52 ?_)))))))
     refine Sq fun K53 hK53 => (Rg (Pu rfl (Ni (hK53 (Sq fun K54 hK54 => (Sq fun K55 hK55 => (Rg ?_)))))))
     refine Pu rfl (Ni (hK55 (WC.block ?_)))
     have hj : CmD w.heap.size (W39.heap.size :: W28.heap.size :: L) SF f1 f2 [] (.slice none 0 0) W49 := .inl ⟨⟨rfl, rfl⟩, fk1, fk2⟩
     refine WC.loop6 (fun (j : Nat) (S : List (List Int)) (t1 : Value) (t2 : Value) (cv : Value) (cs : List RcV) => [(0, rv), (1, .int .u8 sc), (7, .pointer (some ⟨W28.heap.size, 0, none⟩)), (8, .int .i64 0), (9, .pointer (some ⟨W39.heap.size, 0, none⟩)), (10, .int .i64 0), (13, .int .i64 (j : Int)), (12, cv), (11, .int .i64 (1 + (cntP (cs.map Prod.fst) : Int)))]) (fun (j : Nat) (S : List (List Int)) (t1 : Value) (t2 : Value) (cv : Value) (cs : List RcV) W => j ≤ rs.length ∧ Opn S nn 0 1 (cs.map Prod.fst) ∧ (∀ r ∈ cs, r ∈ rs) ∧ Below w.heap.size w W ∧ LL (W39.heap.size :: W28.heap.size :: L) W ∧ RdF 1 (W39.heap.size :: W28.heap.size :: L) W rv (rs.map encR) ∧ CmD w.heap.size (W39.heap.size :: W28.heap.size :: L) S t1 t2 cs cv W ∧ Blk W W28.heap.size [t1, t2, .int .i64 (-1), .bool false] ∧ Blk W W39.heap.size [.int .i64 0, .int .i64 1, .int .i64 (1 + (cntP (cs.map Prod.fst) : Int))]) (fun (j : Nat) (S : List (List Int)) (t1 : Value) (t2 : Value) (cv : Value) (cs : List RcV) => rs.length - j) 0 SF f1 f2 (.slice none 0 0) [] (by repeat first | exact trivial | refine aR ?_ | refine aI (by omega) ?_) ⟨Nat.zero_le _, oF, (fun r hr => by cases hr), hB, hL, h1, hj, k48, k51⟩ ?_
     clear h1 hj k48 k51 hB hL
     rintro K56 j S t1 t2 cv cs W57 ⟨hj_, hO, hcs, hB, hL, h1, hj, k48, k51⟩ hK56
     refine Sq fun K58 hK58 => (Sq fun K59 hK59 => (Rg (Pu rfl (Pu rfl (Va (dx_lenM rfl ty_slice_31 rfl h1) rfl rfl (Va (dx_lss rfl rfl rfl) rfl rfl (Ni ?_)))))))
     refine hK59 ?_
     refine WC.cond rfl (fun c60 => ?_) (fun c60 => ?_)
     ·
      replace c60 := dT c60
      refine WC.skip (hK58 (Sq fun K61 hK61 => (WC.block (Sq fun K62 hK62 => ?_))))
      obtain ⟨r63, e64⟩ : ∃ x, rs[j]? = some x := ⟨_, List.getElem?_eq_getElem (by omega)⟩
      have hrm := List.mem_of_getElem? e64
      have hrl := hlen r63 hrm
      have hsm := hO.small
      have hsd := sizeD_le (r63.1.length : Int)
      have hcl := cnt_len (rs := cs) rfl
      rcases hO.app3 (hrg r63 hrm) with ⟨c1, eA⟩ | ⟨c1, c2, eA⟩ | ⟨c1, c2, hcn, SN, eA0, oN⟩
      ·
       have hH := hj.toH
       refine WC.drawQ 15 ⟨13, 11, 14, fun u W => NewT W57.heap.size 25 4 u W, fun u W => ∃ t1_ t2_, NewP W57.heap.size 25 [t1_, t2_, .int .i64 (-1), .bool false] u W ∧ CmH w.heap.size W57.heap.size (W39.heap.size :: W28.heap.size :: L) S t1_ t2_ cs cv W, WrT W57.heap.size 25 4⟩ ⟨14, 12, 15, fun u W => NewT W57.heap.size 30 3 u W, fun u W => NewP W57.heap.size 30 [.int .i64 0, .int .i64 1, .int .i64 (1 + (cntP (cs.map Prod.fst) : Int))] u W, WrT W57.heap.size 30 3⟩ [(some 71, .is (.agg #[t1, t2, .int .i64 (-1), .bool false])), (some 72, .is (.agg #[.int .i64 0, .int .i64 1, .int .i64 (1 + (cntP (cs.map Prod.fst) : Int))])), (some 73, .is (rv)), (some 74, .is (.int .i64 (j : Int))), (some 75, .by fun u W => PtB W57.heap.size (W39.heap.size :: W28.heap.size :: L) W u [r63.2]), (some 76, .is (r63.2)), (some 77, .by fun u W => TupC w.heap.size W57.heap.size (W39.heap.size :: W28.heap.size :: L) S (1 + (cntP (cs.map Prod.fst) : Int)) 3 cs cv u W), (some 70, .by fun u W => TupC w.heap.size W57.heap.size (W39.heap.size :: W28.heap.size :: L) S (1 + (cntP (cs.map Prod.fst) : Int)) 3 cs cv u W), (some 78, .by fun u W => AggC w.heap.size W57.heap.size (W39.heap.size :: W28.heap.size :: L) S cs cv u W), (some 79, .is (.agg #[.int .i64 0, .int .i64 1, .int .i64 (1 + (cntP (cs.map Prod.fst) : Int))])), (some 80, .is (.int .i64 3)), (some 14, .by fun u W => NewT W57.heap.size 25 4 u W), (some 15, .by fun u W => NewT W57.heap.size 30 3 u W), (none, .by fun _ _ => True), (none, .by fun _ _ => True)] [[], [], [], [], [2, 3], [4], [0, 1, 5], [6], [7], [7], [7], [], [], [11, 8, 6, 0, 1, 2, 3, 4, 5, 6, 7, 8, 11, 12], [12, 9, 13, 0, 1, 2, 3, 4, 5, 6, 7, 8, 9, 11, 12, 13]] (by kernel_rfl) (by kernel_rfl) (by kernel_rfl) (by kernel_rfl) (by kernel_rfl) (by kernel_rfl) (by kernel_rfl) ⟨fun _ _ _ hb h => h.below hb, fun _ _ _ hb h => h.below hb, fun _ _ _ hb h => h.below hb, fun _ _ _ hb h => h.below hb, fun _ _ _ hb h => h.below hb, fun _ _ _ hb h => h.below hb, fun _ _ _ _ h => h, fun _ _ _ _ h => h, trivial⟩ ⟨rfl, rfl, rfl, (show (13 : Nat) ≠ 11 by decide), (show (13 : Nat) < 15 by decide), ⟨fun _ _ _ hw h => h.wr hw, fun _ _ _ hw h => h.wr hw (by decide), fun _ _ _ hw h => h.wr hw (by decide), fun _ _ _ hw h => h.wr hw (by decide), fun _ _ _ hw h => h.wr hw, fun _ _ _ hw h => h.wrO hw rfl, fun _ _ _ _ h => h, fun _ _ _ _ h => h, trivial⟩, fun _ _ _ hb h => by obtain ⟨t1_, t2_, h1_, h2_⟩ := h; exact ⟨t1_, t2_, h1_.below hb, h2_.below hb⟩, fun _ _ hb hw => hw.below hb⟩ ⟨rfl, rfl, rfl, (show (14 : Nat) ≠ 12 by decide), (show (14 : Nat) < 15 by decide), ⟨fun _ _ _ hw h => h.wr hw, fun _ _ _ hw h => h.wr hw (by decide), fun _ _ _ hw h => h.wr hw (by decide), fun _ _ _ hw h => h.wr hw (by decide), fun _ _ _ hw h => h.wrO hw rfl, fun _ _ _ hw h => h.wr hw, fun _ _ _ _ h => h, fun _ _ _ _ h => h, trivial⟩, fun _ _ _ hb h => h.below hb, fun _ _ hb hw => hw.below hb⟩ ⟨(show (13 : Nat) ≠ 14 by decide), (show (11 : Nat) ≠ 12 by decide), (show (13 : Nat) ≠ 12 by decide), (show (14 : Nat) ≠ 11 by decide)⟩ (fun _ _ _ hw h => by obtain ⟨t1_, t2_, h1_, h2_⟩ := h; exact ⟨t1_, t2_, h1_.wr hw rfl, h2_.wr hw (by decide)⟩) (fun _ _ _ hw h => h.wr hw rfl) ?_ ?_
       ·
        refine DStepsQ.cons ⟨(show (0 : Nat) ≠ 13 by decide), (show (0 : Nat) ≠ 14 by decide)⟩ (fun Wd hd => ?_) ?_
        ·
         have hk_ := k48.below hd
         exact Dd (dx_loadN rfl ty_agg_25_4 rfl hk_.range rfl) rfl
        refine DStepsQ.cons ⟨(show (1 : Nat) ≠ 13 by decide), (show (1 : Nat) ≠ 14 by decide)⟩ (fun Wd hd => ?_) ?_
        ·
         have hk_ := k51.below hd
         exact Dd (dx_loadN rfl ty_agg_30_3 rfl hk_.range rfl) rfl
        refine DStepsQ.cons ⟨(show (2 : Nat) ≠ 13 by decide), (show (2 : Nat) ≠ 14 by decide)⟩ (fun Wd hd => ?_) ?_
        ·
         exact Dd (dx_move rfl rfl) rfl
        refine DStepsQ.cons ⟨(show (3 : Nat) ≠ 13 by decide), (show (3 : Nat) ≠ 14 by decide)⟩ (fun Wd hd => ?_) ?_
        ·
         exact Dd (dx_move rfl rfl) rfl
        refine DStepsQ.cons ⟨(show (4 : Nat) ≠ 13 by decide), (show (4 : Nat) ≠ 14 by decide)⟩ (fun Wd hd => ?_) ?_
        ·
         exact (dx_idxB j rfl ty_slice_31 rfl rfl h1 hd (by omega) (at_map (enc := encR) e64)).mono (fun v W' h => ⟨by rw [← h.1]; exact Below.refl _ _, by rw [← h.1]; exact h.2⟩)
        refine DStepsQ.cons ⟨(show (5 : Nat) ≠ 13 by decide), (show (5 : Nat) ≠ 14 by decide)⟩ (fun Wd hd => ?_) ?_
        ·
         intro u17_4 p17_4
         exact Dd (dx_loadP rfl ty_one_40 rfl p17_4.ptr) rfl
        refine DStepsQ.cons ⟨(show (6 : Nat) ≠ 13 by decide), (show (6 : Nat) ≠ 14 by decide)⟩ (fun Wd hd => ?_) ?_
        ·
         exact DR.mono (dx_cv rfl Tryd.func18 rfl rfl rfl (append_c eA (LL.below hL hd) (hH.below hd) (fun L_ hl_ => RdF.moreL (hrs0 r63 hrm) (below_then hB hd) L_ (fun x_ hx_ => by rcases hl_ x_ hx_ with h_ | h_; (simp only [List.mem_cons] at h_; rcases h_ with rfl | rfl | h_; exact .inr l45; exact .inr l33; exact .inl h_); exact .inr h_)) hO.byt (hrg r63 hrm) (by omega) (by omega) (hT.below (below_then hB hd)))) (fun v W' h => ⟨h.2, h.1⟩)
        refine DStepsQ.cons ⟨(show (7 : Nat) ≠ 13 by decide), (show (7 : Nat) ≠ 14 by decide)⟩ (fun Wd hd => ?_) ?_
        ·
         intro u17_6 p17_6
         exact DV.dr (dx_move rfl rfl) ⟨Below.refl _ _, p17_6⟩
        refine DStepsQ.cons ⟨(show (8 : Nat) ≠ 13 by decide), (show (8 : Nat) ≠ 14 by decide)⟩ (fun Wd hd => ?_) ?_
        ·
         intro u17_7 p17_7
         obtain ⟨t1_, t2_, rfl, h_⟩ := p17_7
         exact DV.dr (dx_extract rfl rfl rfl) ⟨Below.refl _ _, ⟨t1_, t2_, rfl, h_⟩⟩
        refine DStepsQ.cons ⟨(show (9 : Nat) ≠ 13 by decide), (show (9 : Nat) ≠ 14 by decide)⟩ (fun Wd hd => ?_) ?_
        ·
         intro u17_7 p17_7
         obtain ⟨t1_, t2_, rfl, h_⟩ := p17_7
         exact Dd (dx_extract rfl rfl rfl) rfl
        refine DStepsQ.cons ⟨(show (10 : Nat) ≠ 13 by decide), (show (10 : Nat) ≠ 14 by decide)⟩ (fun Wd hd => ?_) ?_
        ·
         intro u17_7 p17_7
         obtain ⟨t1_, t2_, rfl, h_⟩ := p17_7
         exact Dd (dx_extract rfl rfl rfl) rfl
        refine DStepsQ.cons ⟨(show (11 : Nat) ≠ 13 by decide), (show (11 : Nat) ≠ 14 by decide)⟩ (fun Wd hd => ?_) ?_
        ·
         exact (dx_allocP (cs := [.slice none 0 0, .slice none 0 0, .int .i64 0, .bool false]) rfl ty_zero_25 rfl).mono (fun v W' h => ⟨h.1, (h.2 hd).newT rfl⟩)
        refine DStepsQ.cons ⟨(show (12 : Nat) ≠ 13 by decide), (show (12 : Nat) ≠ 14 by decide)⟩ (fun Wd hd => ?_) ?_
        ·
         exact (dx_allocP (cs := [.int .i64 0, .int .i64 0, .int .i64 0]) rfl ty_zero_30 rfl).mono (fun v W' h => ⟨h.1, (h.2 hd).newT rfl⟩)
        refine DStepsQ.hitA rfl (fun Wd hd ut hut => ?_) ?_
        ·
         intro u17_8 p17_8 u17_6 p17_6 u17_4 p17_4 u17_6 p17_6 u17_7 p17_7 u17_8 p17_8 u17_12 p17_12
         obtain ⟨t1_, t2_, rfl, h_⟩ := p17_8
         have one1 := h_.one1
         have one2 := h_.one2
         exact (dx_storeT (vs := [t1_, t2_, .int .i64 (-1), .bool false]) rfl ty_size_25_4 rfl hut rfl rfl (oC one1 (oC one2 (oC rfl (oC rfl oc_nil)))) rfl).mono (fun v W' h => ⟨h.1, t1_, t2_, h.2, h_.wr h.1 (by decide)⟩)
        refine DStepsQ.hitB ⟨(show (14 : Nat) ≠ 13 by decide), rfl⟩ (fun Wd hd ut hut => ?_) ?_
        ·
         intro u17_13 p17_13 u17_4 p17_4 u17_6 p17_6 u17_7 p17_7 u17_8 p17_8 u17_11 p17_11 u17_13 p17_13
         exact (dx_storeT (vs := [.int .i64 0, .int .i64 1, .int .i64 (1 + (cntP (cs.map Prod.fst) : Int))]) rfl ty_size_30_3 rfl hut rfl rfl (oC rfl (oC rfl (oC rfl oc_nil))) rfl).mono (fun v W' h => ⟨h.1, h.2⟩)
        exact trivial
       ·
        rintro W65 hd _ _ - ⟨t1n, t2n, ⟨B14, rfl, hb14, kt14⟩, hjn⟩ - ⟨B15, rfl, hb15, kt15⟩
        have k14 := kt14.blk
        have k15 := kt15.blk
        intro _ _ _ _ _ _ _ _ _ _ _ _
        have n66 : W28.heap.size ≠ B14 := Nat.ne_of_lt (Nat.lt_of_lt_of_le k48.lt hb14)
        have n67 : W28.heap.size ≠ B15 := Nat.ne_of_lt (Nat.lt_of_lt_of_le k48.lt hb15)
        have n70 : B14 ≠ B15 := kt14.ne kt15 rfl
        replace h1 := h1.more (Below.refl _ _) hb14
        replace h1 := h1.more hd hb15
        replace k48 := k48.below hd
        replace k51 := k51.below hd
        replace hj := hjn.end k14 k15 (show 4 < 128 by decide) (show 3 < 128 by decide) hb14 hb15
        have l71 := Nat.le_trans hB.size hb14
        have l72 := Nat.le_trans hB.size hb15
        replace hB := below_then hB hd
        replace hL := LL.cons (LL.cons (LL.below hL hd) k14.lt) k15.lt
        refine Pu rfl (Ni (hK62 (Sq fun K73 hK73 => (Rg (Pu rfl (Pu rfl ?_))))))
        refine Ge (dx_idxF j rfl ty_slice_31 rfl rfl h1 (by omega) (at_map (enc := encR) e64)) rfl rfl ?_
        rintro u74 _ ⟨rfl, p75⟩
        refine Va (dx_loadP rfl ty_one_40 rfl p75) rfl rfl (Va (dv_eJ (dx_lenB rfl ty_slice_40 rfl (hrs0 r63 (List.mem_of_getElem? e64))) (show _ = Value.int .i64 (r63.1.length : Int) by rw [List.length_map])) rfl rfl ?_)
        refine Ge (dx_cv rfl Tryd.func22 rfl rfl rfl (size_v (r63.1.length : Int) W65 [] (LL.nil _) (by omega))) rfl rfl ?_
        rintro _ W77 ⟨rfl, b76⟩
        replace h1 := h1.below b76
        replace hj := hj.below b76
        replace k48 := k48.below b76
        replace k51 := k51.below b76
        replace k14 := k14.below b76
        replace k15 := k15.below b76
        replace hB := below_then hB b76
        replace hL := LL.below hL b76
        refine Pu rfl (Ni (hK73 (Sq fun K78 hK78 => (WC.block (Sq fun K79 hK79 => (Rg (Pu rfl ?_)))))))
        refine Pu rfl ?_
        refine Ge (dx_idxF j rfl ty_slice_31 rfl rfl h1 (by omega) (at_map (enc := encR) e64)) rfl rfl ?_
        rintro u80 _ ⟨rfl, p81⟩
        refine Va (dx_loadP rfl ty_one_40 rfl p81) rfl rfl (Va (dv_eJ (dx_lenB rfl ty_slice_40 rfl (hrs0 r63 (List.mem_of_getElem? e64))) (show _ = Value.int .i64 (r63.1.length : Int) by rw [List.length_map])) rfl rfl (Va (dv_eJ (dx_gtr rfl rfl rfl) (congrArg Value.bool (decide_eq_true (by omega)))) rfl rfl (Pu rfl (Ni (hK79 (WC.condT rfl (Sq fun K82 hK82 => ?_)))))))
        refine Rg (Pu rfl (Va (dx_neq rfl rfl rfl) rfl rfl (Ni (hK82 (WC.condF rfl (WC.skip (hK78 ?_)))))))
        refine WC.drawC 3 [(2, W28.heap.size, [t1, t2, .int .i64 (-1), .bool false], fun cs_ _ => cs_ = [t1n, t2n, .int .i64 (-1), .bool false])] [(some 120, .is (.agg #[t1n, t2n, .int .i64 (-1), .bool false])), (some 121, .is (.agg #[.int .i64 0, .int .i64 1, .int .i64 (1 + (cntP (cs.map Prod.fst) : Int))])), (none, .by fun _ _ => True)] [[], [], [0, 0]] ⟨fun _ _ _ _ h => h, trivial⟩ (fun e he => by simp only [List.mem_cons, List.not_mem_nil, or_false] at he; subst he; exact ⟨fun _ _ _ _ h => h, trivial⟩) ⟨fun x hx => (by cases hx), trivial⟩ (monQ_nil (fun e he => by simp only [List.mem_cons, List.not_mem_nil, or_false] at he; subst he; exact ⟨_, rfl⟩)) (fun e he => by simp only [List.mem_cons, List.not_mem_nil, or_false] at he; subst he; exact k48) ?_ ?_
        ·
         refine DStepsC.cons rfl (fun Wd hd hbs_ => ?_) ?_
         ·
          have k14 := k14.chgM hd (by simp only [List.map_cons, List.map_nil, List.mem_cons, List.not_mem_nil, or_false, not_or]; exact n66.symm)
          exact Dd (dx_loadN rfl ty_agg_25_4 rfl k14.range rfl) rfl
         refine DStepsC.cons rfl (fun Wd hd hbs_ => ?_) ?_
         ·
          have k15 := k15.chgM hd (by simp only [List.map_cons, List.map_nil, List.mem_cons, List.not_mem_nil, or_false, not_or]; exact n67.symm)
          exact Dd (dx_loadN rfl ty_agg_30_3 rfl k15.range rfl) rfl
         refine DStepsC.hit rfl (fun Wd hd hb_ => ?_) ?_
         ·
          have hj := hj.chgM hd (fun C hC => by simp only [List.map_cons, List.map_nil, List.mem_cons, List.not_mem_nil, or_false] at hC; subst hC; exact (.tail _ (.tail _ (.tail _ (.head _)))))
          exact (dx_storeW (vs := [t1n, t2n, .int .i64 (-1), .bool false]) rfl ty_size_25_4 rfl rfl rfl (oC hj.one1 (oC hj.one2 (oC rfl (oC rfl oc_nil)))) hb_ rfl rfl).mono (fun _ W' h => ⟨h.2, QBlk.is h.1, trivial⟩)
         exact trivial
        ·
         intro W83 hd hq_
         replace h1 := h1.chgM hd (fun C hC => by simp only [List.map_cons, List.map_nil, List.mem_cons, List.not_mem_nil, or_false] at hC; subst hC; exact (.tail _ (.tail _ (.tail _ (.head _)))))
         replace hj := hj.chgM hd (fun C hC => by simp only [List.map_cons, List.map_nil, List.mem_cons, List.not_mem_nil, or_false] at hC; subst hC; exact (.tail _ (.tail _ (.tail _ (.head _)))))
         replace k51 := k51.chgM hd (by simp only [List.map_cons, List.map_nil, List.mem_cons, List.not_mem_nil, or_false, not_or]; exact n44.symm)
         replace k14 := k14.chgM hd (by simp only [List.map_cons, List.map_nil, List.mem_cons, List.not_mem_nil, or_false, not_or]; exact n66.symm)
         replace k15 := k15.chgM hd (by simp only [List.map_cons, List.map_nil, List.mem_cons, List.not_mem_nil, or_false, not_or]; exact n67.symm)
         have k84 := hq_ _ (.head _)
         replace k84 := QBlk.blk k84
         replace hB := hd.toBelow hB (fun C hC => by simp only [List.map_cons, List.map_nil, List.mem_cons, List.not_mem_nil, or_false] at hC; subst hC; exact l33)
         replace hL := hL.chgM hd
         intro _ _
         refine WL.do (dx_store (cs' := [.int .i64 0, .int .i64 1, .int .i64 (1 + (cntP (cs.map Prod.fst) : Int))]) (vs := [.int .i64 0, .int .i64 1, .int .i64 (1 + (cntP (cs.map Prod.fst) : Int))]) rfl ty_size_30_3 rfl rfl rfl (oC rfl (oC rfl (oC rfl oc_nil))) k51 rfl (nB rfl) rfl) rfl ?_
         rintro _ W85 ⟨k87, o86⟩
         replace k84 := k84.other o86 n44
         clear k51
         replace h1 := h1.only o86 (.tail _ (.tail _ (.head _)))
         replace hj := hj.only o86 (.tail _ (.tail _ (.head _)))
         replace hB := o86.below hB l45
         replace hL := LL.only hL o86
         refine Ni (hK61 (Rg (Pu rfl (Va (dx_add (r := (j : Int) + 1) rfl rfl rfl (wrap64_id (by omega))) rfl rfl (Pu rfl (Ni ?_))))))
         replace hL := hL.less (fun x hx => (.tail _ (.tail _ hx)))
         replace h1 := h1.less (fun x hx => (.tail _ (.tail _ hx)))
         replace hj := hj.less (fun x hx => (.tail _ (.tail _ hx)))
         exact hK56 (j + 1) S t1n t2n cv cs ⟨(by omega), hO, hcs, hB, hL, h1, hj, k84, k87⟩ (by omega) (by repeat first | exact trivial | refine aR ?_ | refine aI (by omega) ?_)
      ·
       have hH := hj.toH
       refine WC.drawQ 15 ⟨13, 11, 14, fun u W => NewT W57.heap.size 25 4 u W, fun u W => ∃ t1_ t2_, NewP W57.heap.size 25 [t1_, t2_, .int .i64 (-1), .bool false] u W ∧ CmH w.heap.size W57.heap.size (W39.heap.size :: W28.heap.size :: L) S t1_ t2_ cs cv W, WrT W57.heap.size 25 4⟩ ⟨14, 12, 15, fun u W => NewT W57.heap.size 30 3 u W, fun u W => NewP W57.heap.size 30 [.int .i64 0, .int .i64 1, .int .i64 (1 + (cntP (cs.map Prod.fst) : Int))] u W, WrT W57.heap.size 30 3⟩ [(some 71, .is (.agg #[t1, t2, .int .i64 (-1), .bool false])), (some 72, .is (.agg #[.int .i64 0, .int .i64 1, .int .i64 (1 + (cntP (cs.map Prod.fst) : Int))])), (some 73, .is (rv)), (some 74, .is (.int .i64 (j : Int))), (some 75, .by fun u W => PtB W57.heap.size (W39.heap.size :: W28.heap.size :: L) W u [r63.2]), (some 76, .is (r63.2)), (some 77, .by fun u W => TupC w.heap.size W57.heap.size (W39.heap.size :: W28.heap.size :: L) S (1 + (cntP (cs.map Prod.fst) : Int)) 10 cs cv u W), (some 70, .by fun u W => TupC w.heap.size W57.heap.size (W39.heap.size :: W28.heap.size :: L) S (1 + (cntP (cs.map Prod.fst) : Int)) 10 cs cv u W), (some 78, .by fun u W => AggC w.heap.size W57.heap.size (W39.heap.size :: W28.heap.size :: L) S cs cv u W), (some 79, .is (.agg #[.int .i64 0, .int .i64 1, .int .i64 (1 + (cntP (cs.map Prod.fst) : Int))])), (some 80, .is (.int .i64 10)), (some 14, .by fun u W => NewT W57.heap.size 25 4 u W), (some 15, .by fun u W => NewT W57.heap.size 30 3 u W), (none, .by fun _ _ => True), (none, .by fun _ _ => True)] [[], [], [], [], [2, 3], [4], [0, 1, 5], [6], [7], [7], [7], [], [], [11, 8, 6, 0, 1, 2, 3, 4, 5, 6, 7, 8, 11, 12], [12, 9, 13, 0, 1, 2, 3, 4, 5, 6, 7, 8, 9, 11, 12, 13]] (by kernel_rfl) (by kernel_rfl) (by kernel_rfl) (by kernel_rfl) (by kernel_rfl) (by kernel_rfl) (by kernel_rfl) ⟨fun _ _ _ hb h => h.below hb, fun _ _ _ hb h => h.below hb, fun _ _ _ hb h => h.below hb, fun _ _ _ hb h => h.below hb, fun _ _ _ hb h => h.below hb, fun _ _ _ hb h => h.below hb, fun _ _ _ _ h => h, fun _ _ _ _ h => h, trivial⟩ ⟨rfl, rfl, rfl, (show (13 : Nat) ≠ 11 by decide), (show (13 : Nat) < 15 by decide), ⟨fun _ _ _ hw h => h.wr hw, fun _ _ _ hw h => h.wr hw (by decide), fun _ _ _ hw h => h.wr hw (by decide), fun _ _ _ hw h => h.wr hw (by decide), fun _ _ _ hw h => h.wr hw, fun _ _ _ hw h => h.wrO hw rfl, fun _ _ _ _ h => h, fun _ _ _ _ h => h, trivial⟩, fun _ _ _ hb h => by obtain ⟨t1_, t2_, h1_, h2_⟩ := h; exact ⟨t1_, t2_, h1_.below hb, h2_.below hb⟩, fun _ _ hb hw => hw.below hb⟩ ⟨rfl, rfl, rfl, (show (14 : Nat) ≠ 12 by decide), (show (14 : Nat) < 15 by decide), ⟨fun _ _ _ hw h => h.wr hw, fun _ _ _ hw h => h.wr hw (by decide), fun _ _ _ hw h => h.wr hw (by decide), fun _ _ _ hw h => h.wr hw (by decide), fun _ _ _ hw h => h.wrO hw rfl, fun _ _ _ hw h => h.wr hw, fun _ _ _ _ h => h, fun _ _ _ _ h => h, trivial⟩, fun _ _ _ hb h => h.below hb, fun _ _ hb hw => hw.below hb⟩ ⟨(show (13 : Nat) ≠ 14 by decide), (show (11 : Nat) ≠ 12 by decide), (show (13 : Nat) ≠ 12 by decide), (show (14 : Nat) ≠ 11 by decide)⟩ (fun _ _ _ hw h => by obtain ⟨t1_, t2_, h1_, h2_⟩ := h; exact ⟨t1_, t2_, h1_.wr hw rfl, h2_.wr hw (by decide)⟩) (fun _ _ _ hw h => h.wr hw rfl) ?_ ?_
       ·
        refine DStepsQ.cons ⟨(show (0 : Nat) ≠ 13 by decide), (show (0 : Nat) ≠ 14 by decide)⟩ (fun Wd hd => ?_) ?_
        ·
         have hk_ := k48.below hd
         exact Dd (dx_loadN rfl ty_agg_25_4 rfl hk_.range rfl) rfl
        refine DStepsQ.cons ⟨(show (1 : Nat) ≠ 13 by decide), (show (1 : Nat) ≠ 14 by decide)⟩ (fun Wd hd => ?_) ?_
        ·
         have hk_ := k51.below hd
         exact Dd (dx_loadN rfl ty_agg_30_3 rfl hk_.range rfl) rfl
        refine DStepsQ.cons ⟨(show (2 : Nat) ≠ 13 by decide), (show (2 : Nat) ≠ 14 by decide)⟩ (fun Wd hd => ?_) ?_
        ·
         exact Dd (dx_move rfl rfl) rfl
        refine DStepsQ.cons ⟨(show (3 : Nat) ≠ 13 by decide), (show (3 : Nat) ≠ 14 by decide)⟩ (fun Wd hd => ?_) ?_
        ·
         exact Dd (dx_move rfl rfl) rfl
        refine DStepsQ.cons ⟨(show (4 : Nat) ≠ 13 by decide), (show (4 : Nat) ≠ 14 by decide)⟩ (fun Wd hd => ?_) ?_
        ·
         exact (dx_idxB j rfl ty_slice_31 rfl rfl h1 hd (by omega) (at_map (enc := encR) e64)).mono (fun v W' h => ⟨by rw [← h.1]; exact Below.refl _ _, by rw [← h.1]; exact h.2⟩)
        refine DStepsQ.cons ⟨(show (5 : Nat) ≠ 13 by decide), (show (5 : Nat) ≠ 14 by decide)⟩ (fun Wd hd => ?_) ?_
        ·
         intro u17_4 p17_4
         exact Dd (dx_loadP rfl ty_one_40 rfl p17_4.ptr) rfl
        refine DStepsQ.cons ⟨(show (6 : Nat) ≠ 13 by decide), (show (6 : Nat) ≠ 14 by decide)⟩ (fun Wd hd => ?_) ?_
        ·
         exact DR.mono (dx_cv rfl Tryd.func18 rfl rfl rfl (append_c eA (LL.below hL hd) (hH.below hd) (fun L_ hl_ => RdF.moreL (hrs0 r63 hrm) (below_then hB hd) L_ (fun x_ hx_ => by rcases hl_ x_ hx_ with h_ | h_; (simp only [List.mem_cons] at h_; rcases h_ with rfl | rfl | h_; exact .inr l45; exact .inr l33; exact .inl h_); exact .inr h_)) hO.byt (hrg r63 hrm) (by omega) (by omega) (hT.below (below_then hB hd)))) (fun v W' h => ⟨h.2, h.1⟩)
        refine DStepsQ.cons ⟨(show (7 : Nat) ≠ 13 by decide), (show (7 : Nat) ≠ 14 by decide)⟩ (fun Wd hd => ?_) ?_
        ·
         intro u17_6 p17_6
         exact DV.dr (dx_move rfl rfl) ⟨Below.refl _ _, p17_6⟩
        refine DStepsQ.cons ⟨(show (8 : Nat) ≠ 13 by decide), (show (8 : Nat) ≠ 14 by decide)⟩ (fun Wd hd => ?_) ?_
        ·
         intro u17_7 p17_7
         obtain ⟨t1_, t2_, rfl, h_⟩ := p17_7
         exact DV.dr (dx_extract rfl rfl rfl) ⟨Below.refl _ _, ⟨t1_, t2_, rfl, h_⟩⟩
        refine DStepsQ.cons ⟨(show (9 : Nat) ≠ 13 by decide), (show (9 : Nat) ≠ 14 by decide)⟩ (fun Wd hd => ?_) ?_
        ·
         intro u17_7 p17_7
         obtain ⟨t1_, t2_, rfl, h_⟩ := p17_7
         exact Dd (dx_extract rfl rfl rfl) rfl
        refine DStepsQ.cons ⟨(show (10 : Nat) ≠ 13 by decide), (show (10 : Nat) ≠ 14 by decide)⟩ (fun Wd hd => ?_) ?_
        ·
         intro u17_7 p17_7
         obtain ⟨t1_, t2_, rfl, h_⟩ := p17_7
         exact Dd (dx_extract rfl rfl rfl) rfl
        refine DStepsQ.cons ⟨(show (11 : Nat) ≠ 13 by decide), (show (11 : Nat) ≠ 14 by decide)⟩ (fun Wd hd => ?_) ?_
        ·
         exact (dx_allocP (cs := [.slice none 0 0, .slice none 0 0, .int .i64 0, .bool false]) rfl ty_zero_25 rfl).mono (fun v W' h => ⟨h.1, (h.2 hd).newT rfl⟩)
        refine DStepsQ.cons ⟨(show (12 : Nat) ≠ 13 by decide), (show (12 : Nat) ≠ 14 by decide)⟩ (fun Wd hd => ?_) ?_
        ·
         exact (dx_allocP (cs := [.int .i64 0, .int .i64 0, .int .i64 0]) rfl ty_zero_30 rfl).mono (fun v W' h => ⟨h.1, (h.2 hd).newT rfl⟩)
        refine DStepsQ.hitA rfl (fun Wd hd ut hut => ?_) ?_
        ·
         intro u17_8 p17_8 u17_6 p17_6 u17_4 p17_4 u17_6 p17_6 u17_7 p17_7 u17_8 p17_8 u17_12 p17_12
         obtain ⟨t1_, t2_, rfl, h_⟩ := p17_8
         have one1 := h_.one1
         have one2 := h_.one2
         exact (dx_storeT (vs := [t1_, t2_, .int .i64 (-1), .bool false]) rfl ty_size_25_4 rfl hut rfl rfl (oC one1 (oC one2 (oC rfl (oC rfl oc_nil)))) rfl).mono (fun v W' h => ⟨h.1, t1_, t2_, h.2, h_.wr h.1 (by decide)⟩)
        refine DStepsQ.hitB ⟨(show (14 : Nat) ≠ 13 by decide), rfl⟩ (fun Wd hd ut hut => ?_) ?_
        ·
         intro u17_13 p17_13 u17_4 p17_4 u17_6 p17_6 u17_7 p17_7 u17_8 p17_8 u17_11 p17_11 u17_13 p17_13
         exact (dx_storeT (vs := [.int .i64 0, .int .i64 1, .int .i64 (1 + (cntP (cs.map Prod.fst) : Int))]) rfl ty_size_30_3 rfl hut rfl rfl (oC rfl (oC rfl (oC rfl oc_nil))) rfl).mono (fun v W' h => ⟨h.1, h.2⟩)
        exact trivial
       ·
        rintro W88 hd _ _ - ⟨t1n, t2n, ⟨B14, rfl, hb14, kt14⟩, hjn⟩ - ⟨B15, rfl, hb15, kt15⟩
        have k14 := kt14.blk
        have k15 := kt15.blk
        intro _ _ _ _ _ _ _ _ _ _ _ _
        have n89 : W28.heap.size ≠ B14 := Nat.ne_of_lt (Nat.lt_of_lt_of_le k48.lt hb14)
        have n90 : W28.heap.size ≠ B15 := Nat.ne_of_lt (Nat.lt_of_lt_of_le k48.lt hb15)
        have n93 : B14 ≠ B15 := kt14.ne kt15 rfl
        replace h1 := h1.more (Below.refl _ _) hb14
        replace h1 := h1.more hd hb15
        replace k48 := k48.below hd
        replace k51 := k51.below hd
        replace hj := hjn.end k14 k15 (show 4 < 128 by decide) (show 3 < 128 by decide) hb14 hb15
        have l94 := Nat.le_trans hB.size hb14
        have l95 := Nat.le_trans hB.size hb15
        replace hB := below_then hB hd
        replace hL := LL.cons (LL.cons (LL.below hL hd) k14.lt) k15.lt
        refine Pu rfl (Ni (hK62 (Sq fun K96 hK96 => (Rg (Pu rfl (Pu rfl ?_))))))
        refine Ge (dx_idxF j rfl ty_slice_31 rfl rfl h1 (by omega) (at_map (enc := encR) e64)) rfl rfl ?_
        rintro u97 _ ⟨rfl, p98⟩
        refine Va (dx_loadP rfl ty_one_40 rfl p98) rfl rfl (Va (dv_eJ (dx_lenB rfl ty_slice_40 rfl (hrs0 r63 (List.mem_of_getElem? e64))) (show _ = Value.int .i64 (r63.1.length : Int) by rw [List.length_map])) rfl rfl ?_)
        refine Ge (dx_cv rfl Tryd.func22 rfl rfl rfl (size_v (r63.1.length : Int) W88 [] (LL.nil _) (by omega))) rfl rfl ?_
        rintro _ W100 ⟨rfl, b99⟩
        replace h1 := h1.below b99
        replace hj := hj.below b99
        replace k48 := k48.below b99
        replace k51 := k51.below b99
        replace k14 := k14.below b99
        replace k15 := k15.below b99
        replace hB := below_then hB b99
        replace hL := LL.below hL b99
        refine Pu rfl (Ni (hK96 (Sq fun K101 hK101 => (WC.block (Sq fun K102 hK102 => (Rg (Pu rfl ?_)))))))
        refine Pu rfl ?_
        refine Ge (dx_idxF j rfl ty_slice_31 rfl rfl h1 (by omega) (at_map (enc := encR) e64)) rfl rfl ?_
        rintro u103 _ ⟨rfl, p104⟩
        refine Va (dx_loadP rfl ty_one_40 rfl p104) rfl rfl (Va (dv_eJ (dx_lenB rfl ty_slice_40 rfl (hrs0 r63 (List.mem_of_getElem? e64))) (show _ = Value.int .i64 (r63.1.length : Int) by rw [List.length_map])) rfl rfl (Va (dv_eJ (dx_gtr rfl rfl rfl) (congrArg Value.bool (decide_eq_false (by omega)))) rfl rfl (Pu rfl (Ni (hK102 (WC.condF rfl (Sq fun K105 hK105 => ?_)))))))
        refine Rg (Pu rfl (Pu rfl (Va (dx_add (r := (1 + (cntP (cs.map Prod.fst) : Int)) + (sizeD (r63.1.length : Int))) rfl rfl rfl (wrap64_id (by omega))) rfl rfl (Pu rfl (Va (dx_conv (r := sc) rfl Tryd.underlying5 Tryd.underlying3 rfl (wrap64_id (by omega))) rfl rfl (Va (dx_rem (r := sc % 100) rfl rfl rfl (by omega) (Int.tmod_eq_emod_of_nonneg (by omega))) rfl rfl (Va (dx_add (r := 8 + (sc % 100)) rfl rfl rfl (wrap64_id (by omega))) rfl rfl ?_)))))))
        refine Va (dx_quo (r := (8 + (sc % 100)) / 2) rfl rfl rfl (by omega) (by rw [Int.tdiv_eq_ediv_of_nonneg (by omega)]; exact (wrap64_id (by omega)))) rfl rfl (Va (dv_eJ (dx_gtr rfl rfl rfl) (congrArg Value.bool (decide_eq_true (by omega)))) rfl rfl (Pu rfl (Ni (hK105 (WC.condT rfl (Sq fun K106 hK106 => (Rg ?_)))))))
        refine Pu rfl (Va (dx_neq rfl rfl rfl) rfl rfl (Ni (hK106 (WC.condF rfl (WC.skip (hK101 ?_))))))
        refine WC.drawC 3 [(2, W28.heap.size, [t1, t2, .int .i64 (-1), .bool false], fun cs_ _ => cs_ = [t1n, t2n, .int .i64 (-1), .bool false])] [(some 120, .is (.agg #[t1n, t2n, .int .i64 (-1), .bool false])), (some 121, .is (.agg #[.int .i64 0, .int .i64 1, .int .i64 (1 + (cntP (cs.map Prod.fst) : Int))])), (none, .by fun _ _ => True)] [[], [], [0, 0]] ⟨fun _ _ _ _ h => h, trivial⟩ (fun e he => by simp only [List.mem_cons, List.not_mem_nil, or_false] at he; subst he; exact ⟨fun _ _ _ _ h => h, trivial⟩) ⟨fun x hx => (by cases hx), trivial⟩ (monQ_nil (fun e he => by simp only [List.mem_cons, List.not_mem_nil, or_false] at he; subst he; exact ⟨_, rfl⟩)) (fun e he => by simp only [List.mem_cons, List.not_mem_nil, or_false] at he; subst he; exact k48) ?_ ?_
        ·
         refine DStepsC.cons rfl (fun Wd hd hbs_ => ?_) ?_
         ·
          have k14 := k14.chgM hd (by simp only [List.map_cons, List.map_nil, List.mem_cons, List.not_mem_nil, or_false, not_or]; exact n89.symm)
          exact Dd (dx_loadN rfl ty_agg_25_4 rfl k14.range rfl) rfl
         refine DStepsC.cons rfl (fun Wd hd hbs_ => ?_) ?_
         ·
          have k15 := k15.chgM hd (by simp only [List.map_cons, List.map_nil, List.mem_cons, List.not_mem_nil, or_false, not_or]; exact n90.symm)
          exact Dd (dx_loadN rfl ty_agg_30_3 rfl k15.range rfl) rfl
         refine DStepsC.hit rfl (fun Wd hd hb_ => ?_) ?_
         ·
          have hj := hj.chgM hd (fun C hC => by simp only [List.map_cons, List.map_nil, List.mem_cons, List.not_mem_nil, or_false] at hC; subst hC; exact (.tail _ (.tail _ (.tail _ (.head _)))))
          exact (dx_storeW (vs := [t1n, t2n, .int .i64 (-1), .bool false]) rfl ty_size_25_4 rfl rfl rfl (oC hj.one1 (oC hj.one2 (oC rfl (oC rfl oc_nil)))) hb_ rfl rfl).mono (fun _ W' h => ⟨h.2, QBlk.is h.1, trivial⟩)
         exact trivial
        ·
         intro W107 hd hq_
         replace h1 := h1.chgM hd (fun C hC => by simp only [List.map_cons, List.map_nil, List.mem_cons, List.not_mem_nil, or_false] at hC; subst hC; exact (.tail _ (.tail _ (.tail _ (.head _)))))
         replace hj := hj.chgM hd (fun C hC => by simp only [List.map_cons, List.map_nil, List.mem_cons, List.not_mem_nil, or_false] at hC; subst hC; exact (.tail _ (.tail _ (.tail _ (.head _)))))
         replace k51 := k51.chgM hd (by simp only [List.map_cons, List.map_nil, List.mem_cons, List.not_mem_nil, or_false, not_or]; exact n44.symm)
         replace k14 := k14.chgM hd (by simp only [List.map_cons, List.map_nil, List.mem_cons, List.not_mem_nil, or_false, not_or]; exact n89.symm)
         replace k15 := k15.chgM hd (by simp only [List.map_cons, List.map_nil, List.mem_cons, List.not_mem_nil, or_false, not_or]; exact n90.symm)
         have k108 := hq_ _ (.head _)
         replace k108 := QBlk.blk k108
         replace hB := hd.toBelow hB (fun C hC => by simp only [List.map_cons, List.map_nil, List.mem_cons, List.not_mem_nil, or_false] at hC; subst hC; exact l33)
         replace hL := hL.chgM hd
         intro _ _
         refine WL.do (dx_store (cs' := [.int .i64 0, .int .i64 1, .int .i64 (1 + (cntP (cs.map Prod.fst) : Int))]) (vs := [.int .i64 0, .int .i64 1, .int .i64 (1 + (cntP (cs.map Prod.fst) : Int))]) rfl ty_size_30_3 rfl rfl rfl (oC rfl (oC rfl (oC rfl oc_nil))) k51 rfl (nB rfl) rfl) rfl ?_
         rintro _ W109 ⟨k111, o110⟩
         replace k108 := k108.other o110 n44
         clear k51
         replace h1 := h1.only o110 (.tail _ (.tail _ (.head _)))
         replace hj := hj.only o110 (.tail _ (.tail _ (.head _)))
         replace hB := o110.below hB l45
         replace hL := LL.only hL o110
         refine Ni (hK61 (Rg (Pu rfl (Va (dx_add (r := (j : Int) + 1) rfl rfl rfl (wrap64_id (by omega))) rfl rfl (Pu rfl (Ni ?_))))))
         replace hL := hL.less (fun x hx => (.tail _ (.tail _ hx)))
         replace h1 := h1.less (fun x hx => (.tail _ (.tail _ hx)))
         replace hj := hj.less (fun x hx => (.tail _ (.tail _ hx)))
         exact hK56 (j + 1) S t1n t2n cv cs ⟨(by omega), hO, hcs, hB, hL, h1, hj, k108, k111⟩ (by omega) (by repeat first | exact trivial | refine aR ?_ | refine aI (by omega) ?_)
      ·
       have eA : appendD S [] (-1) false 0 1 (1 + (cntP (cs.map Prod.fst) : Int)) r63.1 = (⟨SN, [], -1, false, 0⟩, 0, 1, 1 + (cntP ((cs ++ [(r63.1, r63.2)]).map Prod.fst) : Int)) := by rw [List.map_append]; exact eA0
       have hH := hj.toH
       refine WC.drawQ 15 ⟨13, 11, 14, fun u W => NewT W57.heap.size 25 4 u W, fun u W => ∃ t1_ t2_, NewP W57.heap.size 25 [t1_, t2_, .int .i64 (-1), .bool false] u W ∧ CmH w.heap.size W57.heap.size (W39.heap.size :: W28.heap.size :: L) SN t1_ t2_ cs cv W, WrT W57.heap.size 25 4⟩ ⟨14, 12, 15, fun u W => NewT W57.heap.size 30 3 u W, fun u W => NewP W57.heap.size 30 [.int .i64 0, .int .i64 1, .int .i64 (1 + (cntP ((cs ++ [(r63.1, r63.2)]).map Prod.fst) : Int))] u W, WrT W57.heap.size 30 3⟩ [(some 71, .is (.agg #[t1, t2, .int .i64 (-1), .bool false])), (some 72, .is (.agg #[.int .i64 0, .int .i64 1, .int .i64 (1 + (cntP (cs.map Prod.fst) : Int))])), (some 73, .is (rv)), (some 74, .is (.int .i64 (j : Int))), (some 75, .by fun u W => PtB W57.heap.size (W39.heap.size :: W28.heap.size :: L) W u [r63.2]), (some 76, .is (r63.2)), (some 77, .by fun u W => TupC w.heap.size W57.heap.size (W39.heap.size :: W28.heap.size :: L) SN (1 + (cntP ((cs ++ [(r63.1, r63.2)]).map Prod.fst) : Int)) 0 cs cv u W), (some 70, .by fun u W => TupC w.heap.size W57.heap.size (W39.heap.size :: W28.heap.size :: L) SN (1 + (cntP ((cs ++ [(r63.1, r63.2)]).map Prod.fst) : Int)) 0 cs cv u W), (some 78, .by fun u W => AggC w.heap.size W57.heap.size (W39.heap.size :: W28.heap.size :: L) SN cs cv u W), (some 79, .is (.agg #[.int .i64 0, .int .i64 1, .int .i64 (1 + (cntP ((cs ++ [(r63.1, r63.2)]).map Prod.fst) : Int))])), (some 80, .is (.int .i64 0)), (some 14, .by fun u W => NewT W57.heap.size 25 4 u W), (some 15, .by fun u W => NewT W57.heap.size 30 3 u W), (none, .by fun _ _ => True), (none, .by fun _ _ => True)] [[], [], [], [], [2, 3], [4], [0, 1, 5], [6], [7], [7], [7], [], [], [11, 8, 6, 0, 1, 2, 3, 4, 5, 6, 7, 8, 11, 12], [12, 9, 13, 0, 1, 2, 3, 4, 5, 6, 7, 8, 9, 11, 12, 13]] (by kernel_rfl) (by kernel_rfl) (by kernel_rfl) (by kernel_rfl) (by kernel_rfl) (by kernel_rfl) (by kernel_rfl) ⟨fun _ _ _ hb h => h.below hb, fun _ _ _ hb h => h.below hb, fun _ _ _ hb h => h.below hb, fun _ _ _ hb h => h.below hb, fun _ _ _ hb h => h.below hb, fun _ _ _ hb h => h.below hb, fun _ _ _ _ h => h, fun _ _ _ _ h => h, trivial⟩ ⟨rfl, rfl, rfl, (show (13 : Nat) ≠ 11 by decide), (show (13 : Nat) < 15 by decide), ⟨fun _ _ _ hw h => h.wr hw, fun _ _ _ hw h => h.wr hw (by decide), fun _ _ _ hw h => h.wr hw (by decide), fun _ _ _ hw h => h.wr hw (by decide), fun _ _ _ hw h => h.wr hw, fun _ _ _ hw h => h.wrO hw rfl, fun _ _ _ _ h => h, fun _ _ _ _ h => h, trivial⟩, fun _ _ _ hb h => by obtain ⟨t1_, t2_, h1_, h2_⟩ := h; exact ⟨t1_, t2_, h1_.below hb, h2_.below hb⟩, fun _ _ hb hw => hw.below hb⟩ ⟨rfl, rfl, rfl, (show (14 : Nat) ≠ 12 by decide), (show (14 : Nat) < 15 by decide), ⟨fun _ _ _ hw h => h.wr hw, fun _ _ _ hw h => h.wr hw (by decide), fun _ _ _ hw h => h.wr hw (by decide), fun _ _ _ hw h => h.wr hw (by decide), fun _ _ _ hw h => h.wrO hw rfl, fun _ _ _ hw h => h.wr hw, fun _ _ _ _ h => h, fun _ _ _ _ h => h, trivial⟩, fun _ _ _ hb h => h.below hb, fun _ _ hb hw => hw.below hb⟩ ⟨(show (13 : Nat) ≠ 14 by decide), (show (11 : Nat) ≠ 12 by decide), (show (13 : Nat) ≠ 12 by decide), (show (14 : Nat) ≠ 11 by decide)⟩ (fun _ _ _ hw h => by obtain ⟨t1_, t2_, h1_, h2_⟩ := h; exact ⟨t1_, t2_, h1_.wr hw rfl, h2_.wr hw (by decide)⟩) (fun _ _ _ hw h => h.wr hw rfl) ?_ ?_
       ·
        refine DStepsQ.cons ⟨(show (0 : Nat) ≠ 13 by decide), (show (0 : Nat) ≠ 14 by decide)⟩ (fun Wd hd => ?_) ?_
        ·
         have hk_ := k48.below hd
         exact Dd (dx_loadN rfl ty_agg_25_4 rfl hk_.range rfl) rfl
        refine DStepsQ.cons ⟨(show (1 : Nat) ≠ 13 by decide), (show (1 : Nat) ≠ 14 by decide)⟩ (fun Wd hd => ?_) ?_
        ·
         have hk_ := k51.below hd
         exact Dd (dx_loadN rfl ty_agg_30_3 rfl hk_.range rfl) rfl
        refine DStepsQ.cons ⟨(show (2 : Nat) ≠ 13 by decide), (show (2 : Nat) ≠ 14 by decide)⟩ (fun Wd hd => ?_) ?_
        ·
         exact Dd (dx_move rfl rfl) rfl
        refine DStepsQ.cons ⟨(show (3 : Nat) ≠ 13 by decide), (show (3 : Nat) ≠ 14 by decide)⟩ (fun Wd hd => ?_) ?_
        ·
         exact Dd (dx_move rfl rfl) rfl
        refine DStepsQ.cons ⟨(show (4 : Nat) ≠ 13 by decide), (show (4 : Nat) ≠ 14 by decide)⟩ (fun Wd hd => ?_) ?_
        ·
         exact (dx_idxB j rfl ty_slice_31 rfl rfl h1 hd (by omega) (at_map (enc := encR) e64)).mono (fun v W' h => ⟨by rw [← h.1]; exact Below.refl _ _, by rw [← h.1]; exact h.2⟩)
        refine DStepsQ.cons ⟨(show (5 : Nat) ≠ 13 by decide), (show (5 : Nat) ≠ 14 by decide)⟩ (fun Wd hd => ?_) ?_
        ·
         intro u17_4 p17_4
         exact Dd (dx_loadP rfl ty_one_40 rfl p17_4.ptr) rfl
        refine DStepsQ.cons ⟨(show (6 : Nat) ≠ 13 by decide), (show (6 : Nat) ≠ 14 by decide)⟩ (fun Wd hd => ?_) ?_
        ·
         exact DR.mono (dx_cv rfl Tryd.func18 rfl rfl rfl (append_c eA (LL.below hL hd) (hH.below hd) (fun L_ hl_ => RdF.moreL (hrs0 r63 hrm) (below_then hB hd) L_ (fun x_ hx_ => by rcases hl_ x_ hx_ with h_ | h_; (simp only [List.mem_cons] at h_; rcases h_ with rfl | rfl | h_; exact .inr l45; exact .inr l33; exact .inl h_); exact .inr h_)) hO.byt (hrg r63 hrm) (by omega) (by omega) (hT.below (below_then hB hd)))) (fun v W' h => ⟨h.2, h.1⟩)
        refine DStepsQ.cons ⟨(show (7 : Nat) ≠ 13 by decide), (show (7 : Nat) ≠ 14 by decide)⟩ (fun Wd hd => ?_) ?_
        ·
         intro u17_6 p17_6
         exact DV.dr (dx_move rfl rfl) ⟨Below.refl _ _, p17_6⟩
        refine DStepsQ.cons ⟨(show (8 : Nat) ≠ 13 by decide), (show (8 : Nat) ≠ 14 by decide)⟩ (fun Wd hd => ?_) ?_
        ·
         intro u17_7 p17_7
         obtain ⟨t1_, t2_, rfl, h_⟩ := p17_7
         exact DV.dr (dx_extract rfl rfl rfl) ⟨Below.refl _ _, ⟨t1_, t2_, rfl, h_⟩⟩
        refine DStepsQ.cons ⟨(show (9 : Nat) ≠ 13 by decide), (show (9 : Nat) ≠ 14 by decide)⟩ (fun Wd hd => ?_) ?_
        ·
         intro u17_7 p17_7
         obtain ⟨t1_, t2_, rfl, h_⟩ := p17_7
         exact Dd (dx_extract rfl rfl rfl) rfl
        refine DStepsQ.cons ⟨(show (10 : Nat) ≠ 13 by decide), (show (10 : Nat) ≠ 14 by decide)⟩ (fun Wd hd => ?_) ?_
        ·
         intro u17_7 p17_7
         obtain ⟨t1_, t2_, rfl, h_⟩ := p17_7
         exact Dd (dx_extract rfl rfl rfl) rfl
        refine DStepsQ.cons ⟨(show (11 : Nat) ≠ 13 by decide), (show (11 : Nat) ≠ 14 by decide)⟩ (fun Wd hd => ?_) ?_
        ·
         exact (dx_allocP (cs := [.slice none 0 0, .slice none 0 0, .int .i64 0, .bool false]) rfl ty_zero_25 rfl).mono (fun v W' h => ⟨h.1, (h.2 hd).newT rfl⟩)
        refine DStepsQ.cons ⟨(show (12 : Nat) ≠ 13 by decide), (show (12 : Nat) ≠ 14 by decide)⟩ (fun Wd hd => ?_) ?_
        ·
         exact (dx_allocP (cs := [.int .i64 0, .int .i64 0, .int .i64 0]) rfl ty_zero_30 rfl).mono (fun v W' h => ⟨h.1, (h.2 hd).newT rfl⟩)
        refine DStepsQ.hitA rfl (fun Wd hd ut hut => ?_) ?_
        ·
         intro u17_8 p17_8 u17_6 p17_6 u17_4 p17_4 u17_6 p17_6 u17_7 p17_7 u17_8 p17_8 u17_12 p17_12
         obtain ⟨t1_, t2_, rfl, h_⟩ := p17_8
         have one1 := h_.one1
         have one2 := h_.one2
         exact (dx_storeT (vs := [t1_, t2_, .int .i64 (-1), .bool false]) rfl ty_size_25_4 rfl hut rfl rfl (oC one1 (oC one2 (oC rfl (oC rfl oc_nil)))) rfl).mono (fun v W' h => ⟨h.1, t1_, t2_, h.2, h_.wr h.1 (by decide)⟩)
        refine DStepsQ.hitB ⟨(show (14 : Nat) ≠ 13 by decide), rfl⟩ (fun Wd hd ut hut => ?_) ?_
        ·
         intro u17_13 p17_13 u17_4 p17_4 u17_6 p17_6 u17_7 p17_7 u17_8 p17_8 u17_11 p17_11 u17_13 p17_13
         exact (dx_storeT (vs := [.int .i64 0, .int .i64 1, .int .i64 (1 + (cntP ((cs ++ [(r63.1, r63.2)]).map Prod.fst) : Int))]) rfl ty_size_30_3 rfl hut rfl rfl (oC rfl (oC rfl (oC rfl oc_nil))) rfl).mono (fun v W' h => ⟨h.1, h.2⟩)
        exact trivial
       ·
        rintro W112 hd _ _ - ⟨t1n, t2n, ⟨B14, rfl, hb14, kt14⟩, hjn⟩ - ⟨B15, rfl, hb15, kt15⟩
        have k14 := kt14.blk
        have k15 := kt15.blk
        intro _ _ _ _ _ _ _ _ _ _ _ _
        have n113 : W28.heap.size ≠ B14 := Nat.ne_of_lt (Nat.lt_of_lt_of_le k48.lt hb14)
        have n114 : W28.heap.size ≠ B15 := Nat.ne_of_lt (Nat.lt_of_lt_of_le k48.lt hb15)
        have n117 : B14 ≠ B15 := kt14.ne kt15 rfl
        replace h1 := h1.more (Below.refl _ _) hb14
        replace h1 := h1.more hd hb15
        replace k48 := k48.below hd
        replace k51 := k51.below hd
        replace hj := hjn.end k14 k15 (show 4 < 128 by decide) (show 3 < 128 by decide) hb14 hb15
        have l118 := Nat.le_trans hB.size hb14
        have l119 := Nat.le_trans hB.size hb15
        replace hB := below_then hB hd
        replace hL := LL.cons (LL.cons (LL.below hL hd) k14.lt) k15.lt
        refine Pu rfl (Ni (hK62 (Sq fun K120 hK120 => (Rg (Pu rfl (Pu rfl ?_))))))
        refine Ge (dx_idxF j rfl ty_slice_31 rfl rfl h1 (by omega) (at_map (enc := encR) e64)) rfl rfl ?_
        rintro u121 _ ⟨rfl, p122⟩
        refine Va (dx_loadP rfl ty_one_40 rfl p122) rfl rfl (Va (dv_eJ (dx_lenB rfl ty_slice_40 rfl (hrs0 r63 (List.mem_of_getElem? e64))) (show _ = Value.int .i64 (r63.1.length : Int) by rw [List.length_map])) rfl rfl ?_)
        refine Ge (dx_cv rfl Tryd.func22 rfl rfl rfl (size_v (r63.1.length : Int) W112 [] (LL.nil _) (by omega))) rfl rfl ?_
        rintro _ W124 ⟨rfl, b123⟩
        replace h1 := h1.below b123
        replace hj := hj.below b123
        replace k48 := k48.below b123
        replace k51 := k51.below b123
        replace k14 := k14.below b123
        replace k15 := k15.below b123
        replace hB := below_then hB b123
        replace hL := LL.below hL b123
        refine Pu rfl (Ni (hK120 (Sq fun K125 hK125 => (WC.block (Sq fun K126 hK126 => (Rg (Pu rfl ?_)))))))
        refine Pu rfl ?_
        refine Ge (dx_idxF j rfl ty_slice_31 rfl rfl h1 (by omega) (at_map (enc := encR) e64)) rfl rfl ?_
        rintro u127 _ ⟨rfl, p128⟩
        refine Va (dx_loadP rfl ty_one_40 rfl p128) rfl rfl (Va (dv_eJ (dx_lenB rfl ty_slice_40 rfl (hrs0 r63 (List.mem_of_getElem? e64))) (show _ = Value.int .i64 (r63.1.length : Int) by rw [List.length_map])) rfl rfl (Va (dv_eJ (dx_gtr rfl rfl rfl) (congrArg Value.bool (decide_eq_false (by omega)))) rfl rfl (Pu rfl (Ni (hK126 (WC.condF rfl (Sq fun K129 hK129 => ?_)))))))
        refine Rg (Pu rfl (Pu rfl (Va (dx_add (r := (1 + (cntP (cs.map Prod.fst) : Int)) + (sizeD (r63.1.length : Int))) rfl rfl rfl (wrap64_id (by omega))) rfl rfl (Pu rfl (Va (dx_conv (r := sc) rfl Tryd.underlying5 Tryd.underlying3 rfl (wrap64_id (by omega))) rfl rfl (Va (dx_rem (r := sc % 100) rfl rfl rfl (by omega) (Int.tmod_eq_emod_of_nonneg (by omega))) rfl rfl (Va (dx_add (r := 8 + (sc % 100)) rfl rfl rfl (wrap64_id (by omega))) rfl rfl ?_)))))))
        refine Va (dx_quo (r := (8 + (sc % 100)) / 2) rfl rfl rfl (by omega) (by rw [Int.tdiv_eq_ediv_of_nonneg (by omega)]; exact (wrap64_id (by omega)))) rfl rfl (Va (dv_eJ (dx_gtr rfl rfl rfl) (congrArg Value.bool (decide_eq_false (by omega)))) rfl rfl (Pu rfl (Ni (hK129 (WC.condF rfl (Sq fun K130 hK130 => (Sq fun K131 hK131 => ?_)))))))
        refine Rg (Pu rfl (Va (dx_neq rfl rfl rfl) rfl rfl (Ni (hK131 (WC.condF rfl (WC.skip (hK130 ?_)))))))
        refine Sq fun K132 hK132 => (Rg (Pu rfl (Pu rfl (Va (dx_add (r := 1 + (cntP ((cs ++ [(r63.1, r63.2)]).map Prod.fst) : Int)) rfl rfl rfl (by rw [wrap64_id (by omega), List.map_append]; show _ = 1 + ((cntP (cs.map Prod.fst ++ [r63.1]) : Nat) : Int); omega)) rfl rfl (Pu rfl (Ni (hK132 ?_)))))))
        refine Rg (Pu rfl (Pu rfl (Pu rfl ?_)))
        refine Ge (dx_idxF j rfl ty_slice_31 rfl rfl h1 (by omega) (at_map (enc := encR) e64)) rfl rfl ?_
        rintro u133 _ ⟨rfl, p134⟩
        refine Va (dx_loadP rfl ty_one_40 rfl p134) rfl rfl ?_
        refine Ge (dx_lit1 (r := [r63.2]) rfl ty_ap_31 (by decide) (by decide) rfl (oc_one (hrs0 r63 hrm).one) rfl) rfl rfl ?_
        rintro u139 W135 ⟨k136, b137, z138⟩
        replace h1 := h1.below b137
        replace hj := hj.below b137
        replace k48 := k48.below b137
        replace k51 := k51.below b137
        replace k14 := k14.below b137
        replace k15 := k15.below b137
        replace hB := below_then hB b137
        replace hL := LL.below hL b137
        refine Ge (dx_apC (base := w.heap.size) (z := r63.1) (Cs := [(W28.heap.size, [t1, t2, .int .i64 (-1), .bool false]), (W39.heap.size, [.int .i64 0, .int .i64 1, .int .i64 (1 + (cntP (cs.map Prod.fst) : Int))]), (B14, [t1n, t2n, .int .i64 (-1), .bool false]), (B15, [.int .i64 0, .int .i64 1, .int .i64 (1 + (cntP ((cs ++ [(r63.1, r63.2)]).map Prod.fst) : Int))])]) rfl ty_ap_31 rfl rfl hj (k136.rd (L := []) (by simp)) (hrs0 r63 hrm).one (by unfold maxLen; omega) (by omega) hB.size hL (fun c hc => by simp only [List.mem_cons, List.not_mem_nil, or_false] at hc; rcases hc with rfl | rfl | rfl | rfl; exact ⟨k48, (.tail _ (.tail _ (.tail _ (.head _))))⟩; exact ⟨k51, (.tail _ (.tail _ (.head _)))⟩; exact ⟨k14, (.tail _ (.head _))⟩; exact ⟨k15, (.head _)⟩)) rfl rfl ?_
        rintro u140 W141 ⟨hj2, b142, z143, hk144⟩
        replace k48 := hk144 _ (.head _)
        replace k51 := hk144 _ (.tail _ (.head _))
        replace k14 := hk144 _ (.tail _ (.tail _ (.head _)))
        replace k15 := hk144 _ (.tail _ (.tail _ (.tail _ (.head _))))
        replace hB := hB.trans b142
        replace hL : LL (B15 :: B14 :: W39.heap.size :: W28.heap.size :: L) W141 := fun x hx => Nat.lt_of_lt_of_le (hL x hx) z143
        replace hj := hj2
        replace h1 := RdF.moreL h10 hB (B15 :: B14 :: W39.heap.size :: W28.heap.size :: L) (fun x_ hx_ => by simp only [List.mem_cons] at hx_; rcases hx_ with rfl | rfl | rfl | rfl | hx_; exact .inr l119; exact .inr l118; exact .inr l45; exact .inr l33; exact .inl hx_)
        refine Pu rfl (Ni (hK125 ?_))
        refine WC.drawC 3 [(2, W28.heap.size, [t1, t2, .int .i64 (-1), .bool false], fun cs_ _ => cs_ = [t1n, t2n, .int .i64 (-1), .bool false])] [(some 120, .is (.agg #[t1n, t2n, .int .i64 (-1), .bool false])), (some 121, .is (.agg #[.int .i64 0, .int .i64 1, .int .i64 (1 + (cntP ((cs ++ [(r63.1, r63.2)]).map Prod.fst) : Int))])), (none, .by fun _ _ => True)] [[], [], [0, 0]] ⟨fun _ _ _ _ h => h, trivial⟩ (fun e he => by simp only [List.mem_cons, List.not_mem_nil, or_false] at he; subst he; exact ⟨fun _ _ _ _ h => h, trivial⟩) ⟨fun x hx => (by cases hx), trivial⟩ (monQ_nil (fun e he => by simp only [List.mem_cons, List.not_mem_nil, or_false] at he; subst he; exact ⟨_, rfl⟩)) (fun e he => by simp only [List.mem_cons, List.not_mem_nil, or_false] at he; subst he; exact k48) ?_ ?_
        ·
         refine DStepsC.cons rfl (fun Wd hd hbs_ => ?_) ?_
         ·
          have k14 := k14.chgM hd (by simp only [List.map_cons, List.map_nil, List.mem_cons, List.not_mem_nil, or_false, not_or]; exact n113.symm)
          exact Dd (dx_loadN rfl ty_agg_25_4 rfl k14.range rfl) rfl
         refine DStepsC.cons rfl (fun Wd hd hbs_ => ?_) ?_
         ·
          have k15 := k15.chgM hd (by simp only [List.map_cons, List.map_nil, List.mem_cons, List.not_mem_nil, or_false, not_or]; exact n114.symm)
          exact Dd (dx_loadN rfl ty_agg_30_3 rfl k15.range rfl) rfl
         refine DStepsC.hit rfl (fun Wd hd hb_ => ?_) ?_
         ·
          have hj := hj.chgM hd (fun C hC => by simp only [List.map_cons, List.map_nil, List.mem_cons, List.not_mem_nil, or_false] at hC; subst hC; exact (.tail _ (.tail _ (.tail _ (.head _)))))
          exact (dx_storeW (vs := [t1n, t2n, .int .i64 (-1), .bool false]) rfl ty_size_25_4 rfl rfl rfl (oC hj.one1 (oC hj.one2 (oC rfl (oC rfl oc_nil)))) hb_ rfl rfl).mono (fun _ W' h => ⟨h.2, QBlk.is h.1, trivial⟩)
         exact trivial
        ·
         intro W145 hd hq_
         replace h1 := h1.chgM hd (fun C hC => by simp only [List.map_cons, List.map_nil, List.mem_cons, List.not_mem_nil, or_false] at hC; subst hC; exact (.tail _ (.tail _ (.tail _ (.head _)))))
         replace hj := hj.chgM hd (fun C hC => by simp only [List.map_cons, List.map_nil, List.mem_cons, List.not_mem_nil, or_false] at hC; subst hC; exact (.tail _ (.tail _ (.tail _ (.head _)))))
         replace k51 := k51.chgM hd (by simp only [List.map_cons, List.map_nil, List.mem_cons, List.not_mem_nil, or_false, not_or]; exact n44.symm)
         replace k14 := k14.chgM hd (by simp only [List.map_cons, List.map_nil, List.mem_cons, List.not_mem_nil, or_false, not_or]; exact n113.symm)
         replace k15 := k15.chgM hd (by simp only [List.map_cons, List.map_nil, List.mem_cons, List.not_mem_nil, or_false, not_or]; exact n114.symm)
         have k146 := hq_ _ (.head _)
         replace k146 := QBlk.blk k146
         replace hB := hd.toBelow hB (fun C hC => by simp only [List.map_cons, List.map_nil, List.mem_cons, List.not_mem_nil, or_false] at hC; subst hC; exact l33)
         replace hL := hL.chgM hd
         intro _ _
         refine WL.do (dx_store (cs' := [.int .i64 0, .int .i64 1, .int .i64 (1 + (cntP ((cs ++ [(r63.1, r63.2)]).map Prod.fst) : Int))]) (vs := [.int .i64 0, .int .i64 1, .int .i64 (1 + (cntP ((cs ++ [(r63.1, r63.2)]).map Prod.fst) : Int))]) rfl ty_size_30_3 rfl rfl rfl (oC rfl (oC rfl (oC rfl oc_nil))) k51 rfl (nB rfl) rfl) rfl ?_
         rintro _ W147 ⟨k149, o148⟩
         replace k146 := k146.other o148 n44
         clear k51
         replace h1 := h1.only o148 (.tail _ (.tail _ (.head _)))
         replace hj := hj.only o148 (.tail _ (.tail _ (.head _)))
         replace hB := o148.below hB l45
         replace hL := LL.only hL o148
         refine Ni (hK61 (Rg (Pu rfl (Va (dx_add (r := (j : Int) + 1) rfl rfl rfl (wrap64_id (by omega))) rfl rfl (Pu rfl (Ni ?_))))))
         replace hL := hL.less (fun x hx => (.tail _ (.tail _ hx)))
         replace h1 := h1.less (fun x hx => (.tail _ (.tail _ hx)))
         replace hj := hj.less (fun x hx => (.tail _ (.tail _ hx)))
         exact hK56 (j + 1) SN t1n t2n u140 (cs ++ [(r63.1, r63.2)]) ⟨(by omega), (by rw [List.map_append]; exact oN), (fun r_ hr_ => by rcases List.mem_append.1 hr_ with h_ | h_; exact hcs r_ h_; rw [List.mem_singleton.1 h_]; exact hrm), hB, hL, h1, hj, k146, k149⟩ (by omega) (by repeat first | exact trivial | refine aR ?_ | refine aI (by omega) ?_)
     ·
      replace c60 := dF c60
      refine WC.exit ?_
      refine hK54 (Sq fun K150 hK150 => ?_)
      have hsm := hO.small
      refine Rg (Va (dx_loadN rfl ty_agg_25_4 rfl k48.range rfl) rfl rfl ?_)
      refine Ge (dx_cv rfl Tryd.func14 rfl rfl rfl (records_v S [] (-1) false _ _ 0 W57 [] (LL.nil _) (hj.rd1.less (fun x hx => by cases hx)) (hj.rd2.less (fun x hx => by cases hx)) hO.byt (hT.below hB))) rfl rfl ?_
      rintro _ W152 ⟨⟨rs2, lv2, g2, b2, rfl, h7, hs7, hy7, hu7⟩, b151⟩
      replace hj := hj.below b151
      replace k51 := k51.below b151
      replace hB := below_then hB b151
      obtain ⟨rfl, hrl2, rfl⟩ := hu7.of (hO.recs rfl)
      refine Pu rfl (Pu rfl (Pu rfl (Pu rfl (Pu rfl (Pu rfl (Pu rfl (Ni ?_)))))))
      refine hK150 (Sq fun K153 hK153 => ?_)
      have hlo := len_of hrl2 (rfl : cs.map Prod.fst = _)
      have hc2 := cnt_len hrl2
      refine Rg (Pu rfl (Va (dx_eql rfl rfl rfl) rfl rfl (Pu rfl (Pu rfl (Va (dx_eql rfl rfl rfl) rfl rfl (Pu rfl (Pu rfl ?_)))))))
      refine Pu rfl (Pu rfl (Pu rfl (Pu rfl (Va (dx_eql rfl rfl rfl) rfl rfl (Pu rfl (Pu rfl (Va (dx_fld (o1 := 2) rfl ty_fld_30_2_2 rfl rfl) rfl rfl ?_)))))))
      refine Va (dx_load rfl ty_one_3 rfl (k51.cell (k := 2) rfl)) rfl rfl (Pu rfl (Va (dv_T (dx_eql rfl rfl rfl) rfl) rfl rfl (Pu rfl (Pu rfl (Pu rfl (Pu rfl ?_))))))
      refine Ge (dx_cv rfl Tryd.func17 rfl rfl rfl (same_v rs2 cs _ _ W152 [] (LL.nil _) h7 hs7 hj.rdc (fun r_ hr_ => ((hrs0 r_ (hcs r_ hr_)).below hB).less (fun x hx => by cases hx)) hlo.1 hlo.2 (by omega))) rfl rfl ?_
      rintro _ W155 ⟨rfl, b154⟩
      replace hB := below_then hB b154
      refine Pu rfl (Pu rfl (Ni (hK153 ?_)))
      exact WC.ret fun a_ ha_ => hQ (cv_ret1 rfl (.tmp rfl) rfl hB ha_)
 ·
  replace g13 := dF g13
  refine Of rfl (Of rfl (Pu rfl (Ni (hK12 (WC.condF rfl ?_)))))
  refine WC.exit ?_
  refine hK7 (Sq fun K156 hK156 => (Sq fun K157 hK157 => (Rg (Pu rfl (Va (dx_gtr rfl rfl rfl) rfl rfl (Pu rfl ?_))))))
  refine WL.split 45 rfl (fun g158 => ?_) (fun g158 => ?_)
  ·
   replace g158 := dT g158
   refine Of rfl (Of rfl (Of rfl (Pu rfl (Ni (hK157 (WC.condT rfl (Sq fun K159 hK159 => ?_)))))))
   refine Rg (Pu rfl (Ni (hK159 ?_)))
   exact WC.ret fun a_ ha_ => hQ (cv_ret1 rfl (.tmp rfl) rfl hB ha_)
  ·
   replace g158 := dF g158
   refine Pu rfl (Va (dx_lenM rfl ty_slice_31 rfl h1) rfl rfl (Va (dx_gtr rfl rfl rfl) rfl rfl (Pu rfl (Ni (hK157 ?_)))))
   refine WC.cond rfl (fun c160 => ?_) (fun c160 => ?_)
   ·
    replace c160 := dT c160
    refine Sq fun K161 hK161 => (Rg (Pu rfl (Ni (hK161 ?_))))
    exact WC.ret fun a_ ha_ => hQ (cv_ret1 rfl (.tmp rfl) rfl hB ha_)
   ·
    replace c160 := dF c160
    refine WC.skip (hK156 (Sq fun K162 hK162 => ?_))
    have hie : i = rs.length := by omega
    have hlen : ∀ r ∈ rs, r.1.length ≤ 5000 := fun r_ hr_ => by have := hnl r_ (by rw [List.take_of_length_le (by omega)]; exact hr_); omega
    obtain ⟨nn, hnn⟩ : ∃ nn : Nat, 8 + sc % 100 = (nn : Int) := ⟨(8 + sc % 100).toNat, by omega⟩
    have hnn2 : 8 ≤ nn ∧ nn ≤ 107 := by omega
    refine Rg (Pu rfl (Va (dx_conv (r := sc) rfl Tryd.underlying5 Tryd.underlying3 rfl (wrap64_id (by omega))) rfl rfl (Va (dx_rem (r := sc % 100) rfl rfl rfl (by omega) (Int.tmod_eq_emod_of_nonneg (by omega))) rfl rfl (Va (dx_add (r := (nn : Int)) rfl rfl rfl (by rw [wrap64_id (by omega)]; exact hnn)) rfl rfl ?_))))
    refine Ge (dx_cv rfl Tryd.func27 rfl rfl rfl (new_e (n := nn) ⟨by omega, by omega⟩ hL)) rfl rfl ?_
    rintro _ W164 ⟨⟨n1, n2, rfl, q1, q2⟩, b163⟩
    replace h1 := h1.below b163
    replace hB := below_then hB b163
    replace hL := LL.below hL b163
    refine Pu rfl (Pu rfl (Pu rfl ?_))
    refine Ge (dx_alloc rfl ty_zero_25 rfl) rfl rfl ?_
    rintro _ W165 ⟨rfl, k166, b167, z168⟩
    have l169 := hB.size
    replace h1 := h1.more b167 (Nat.le_refl _)
    replace q1 := q1.more b167 (Nat.le_refl _)
    replace q2 := q2.more b167 (Nat.le_refl _)
    replace hB := below_then hB b167
    replace hL := LL.more hL z168
    refine WL.do (dx_store (cs' := [n1, n2, .int .i64 (-1), .bool false]) (vs := [n1, n2, .int .i64 (-1), .bool false]) rfl ty_size_25_4 rfl rfl rfl (oC q1.one (oC q2.one (oC rfl (oC rfl oc_nil)))) k166 rfl (nB rfl) rfl) rfl ?_
    rintro _ W170 ⟨k172, o171⟩
    clear k166
    replace h1 := h1.only o171 (.head _)
    replace q1 := q1.only o171 (.head _)
    replace q2 := q2.only o171 (.head _)
    replace hB := o171.below hB l169
    replace hL := LL.only hL o171
    refine Pu rfl (Ni (hK162 (Sq fun K173 hK173 => ?_)))
    obtain ⟨SF, eF, oF⟩ := format_new (n := nn) (by omega) (by omega) (f := -1) (by decide)
    refine Rg (Va (dx_loadN rfl ty_agg_25_4 rfl k172.range rfl) rfl rfl ?_)
    refine Ge (dx_cv rfl Tryd.func20 rfl rfl rfl (format_e eF hL q1 q2 (by decide) (new_byt nn) (hT.below hB))) rfl rfl ?_
    rintro _ W175 ⟨⟨f1, f2, rfl, fk1, fk2⟩, b174⟩
    replace h1 := h1.below b174
    replace k172 := k172.below b174
    replace hB := below_then hB b174
    replace hL := LL.below hL b174
    refine Pu rfl (Pu rfl (Pu rfl (Pu rfl ?_)))
    refine Ge (dx_alloc rfl ty_zero_30 rfl) rfl rfl ?_
    rintro _ W176 ⟨rfl, k177, b178, z179⟩
    have n180 : W164.heap.size ≠ W175.heap.size := Nat.ne_of_lt k172.lt
    have l181 := hB.size
    replace h1 := h1.more b178 (Nat.le_refl _)
    replace fk1 := fk1.more b178 (Nat.le_refl _)
    replace fk2 := fk2.more b178 (Nat.le_refl _)
    replace k172 := k172.below b178
    replace hB := below_then hB b178
    replace hL := LL.more hL z179
    refine WL.do (dx_store (cs' := [f1, f2, .int .i64 (-1), .bool false]) (vs := [f1, f2, .int .i64 (-1), .bool false]) rfl ty_size_25_4 rfl rfl rfl (oC fk1.one (oC fk2.one (oC rfl (oC rfl oc_nil)))) k172 rfl (nB rfl) rfl) rfl ?_
    rintro _ W182 ⟨k184, o183⟩
    replace k177 := k177.other o183 n180.symm
    clear k172
    replace h1 := h1.only o183 (.tail _ (.head _))
    replace fk1 := fk1.only o183 (.tail _ (.head _))
    replace fk2 := fk2.only o183 (.tail _ (.head _))
    replace hB := o183.below hB l169
    replace hL := LL.only hL o183
    refine WL.do (dx_store (cs' := [.int .i64 0, .int .i64 1, .int .i64 1]) (vs := [.int .i64 0, .int .i64 1, .int .i64 1]) rfl ty_size_30_3 rfl rfl rfl (oC rfl (oC rfl (oC rfl oc_nil))) k177 rfl (nB rfl) rfl) rfl ?_
    rintro _ W185 ⟨k187, o186⟩
    replace k184 := k184.other o186 n180
    clear k177
    replace h1 := h1.only o186 (.head _)
    replace fk1 := fk1.only o186 (.head _)
    replace fk2 := fk2.only o186 (.head _)
    replace hB := o186.below hB l181
    replace hL := LL.only hL o186
    refine Pu rfl (Ni (hK173 (Sq fun K188 hK188 => (Rg (Pu rfl (Ni (hK188 ?_)))))))
    refine Sq fun K189 hK189 => (Rg (Pu rfl (Ni (hK189 (Sq fun K190 hK190 => (Sq fun K191 hK191 => (Rg ?_)))))))
    refine Pu rfl (Ni (hK191 (WC.block ?_)))
    have hj : CmD w.heap.size (W175.heap.size :: W164.heap.size :: L) SF f1 f2 [] (.slice none 0 0) W185 := .inl ⟨⟨rfl, rfl⟩, fk1, fk2⟩
    refine WC.loop6 (fun (j : Nat) (S : List (List Int)) (t1 : Value) (t2 : Value) (cv : Value) (cs : List RcV) => [(0, rv), (1, .int .u8 sc), (7, .pointer (some ⟨W164.heap.size, 0, none⟩)), (8, .int .i64 0), (9, .pointer (some ⟨W175.heap.size, 0, none⟩)), (10, .int .i64 0), (13, .int .i64 (j : Int)), (12, cv), (11, .int .i64 (1 + (cntP (cs.map Prod.fst) : Int)))]) (fun (j : Nat) (S : List (List Int)) (t1 : Value) (t2 : Value) (cv : Value) (cs : List RcV) W => j ≤ rs.length ∧ Opn S nn 0 1 (cs.map Prod.fst) ∧ (∀ r ∈ cs, r ∈ rs) ∧ Below w.heap.size w W ∧ LL (W175.heap.size :: W164.heap.size :: L) W ∧ RdF 1 (W175.heap.size :: W164.heap.size :: L) W rv (rs.map encR) ∧ CmD w.heap.size (W175.heap.size :: W164.heap.size :: L) S t1 t2 cs cv W ∧ Blk W W164.heap.size [t1, t2, .int .i64 (-1), .bool false] ∧ Blk W W175.heap.size [.int .i64 0, .int .i64 1, .int .i64 (1 + (cntP (cs.map Prod.fst) : Int))]) (fun (j : Nat) (S : List (List Int)) (t1 : Value) (t2 : Value) (cv : Value) (cs : List RcV) => rs.length - j) 0 SF f1 f2 (.slice none 0 0) [] (by repeat first | exact trivial | refine aR ?_ | refine aI (by omega) ?_) ⟨Nat.zero_le _, oF, (fun r hr => by cases hr), hB, hL, h1, hj, k184, k187⟩ ?_
    clear h1 hj k184 k187 hB hL
    rintro K192 j S t1 t2 cv cs W193 ⟨hj_, hO, hcs, hB, hL, h1, hj, k184, k187⟩ hK192
    refine Sq fun K194 hK194 => (Sq fun K195 hK195 => (Rg (Pu rfl (Pu rfl (Va (dx_lenM rfl ty_slice_31 rfl h1) rfl rfl (Va (dx_lss rfl rfl rfl) rfl rfl (Ni ?_)))))))
    refine hK195 ?_
    refine WC.cond rfl (fun c196 => ?_) (fun c196 => ?_)
    ·
     replace c196 := dT c196
     refine WC.skip (hK194 (Sq fun K197 hK197 => (WC.block (Sq fun K198 hK198 => ?_))))
     obtain ⟨r199, e200⟩ : ∃ x, rs[j]? = some x := ⟨_, List.getElem?_eq_getElem (by omega)⟩
     have hrm := List.mem_of_getElem? e200
     have hrl := hlen r199 hrm
     have hsm := hO.small
     have hsd := sizeD_le (r199.1.length : Int)
     have hcl := cnt_len (rs := cs) rfl
     rcases hO.app3 (hrg r199 hrm) with ⟨c1, eA⟩ | ⟨c1, c2, eA⟩ | ⟨c1, c2, hcn, SN, eA0, oN⟩
     ·
      have hH := hj.toH
      refine WC.drawQ 15 ⟨13, 11, 14, fun u W => NewT W193.heap.size 25 4 u W, fun u W => ∃ t1_ t2_, NewP W193.heap.size 25 [t1_, t2_, .int .i64 (-1), .bool false] u W ∧ CmH w.heap.size W193.heap.size (W175.heap.size :: W164.heap.size :: L) S t1_ t2_ cs cv W, WrT W193.heap.size 25 4⟩ ⟨14, 12, 15, fun u W => NewT W193.heap.size 30 3 u W, fun u W => NewP W193.heap.size 30 [.int .i64 0, .int .i64 1, .int .i64 (1 + (cntP (cs.map Prod.fst) : Int))] u W, WrT W193.heap.size 30 3⟩ [(some 71, .is (.agg #[t1, t2, .int .i64 (-1), .bool false])), (some 72, .is (.agg #[.int .i64 0, .int .i64 1, .int .i64 (1 + (cntP (cs.map Prod.fst) : Int))])), (some 73, .is (rv)), (some 74, .is (.int .i64 (j : Int))), (some 75, .by fun u W => PtB W193.heap.size (W175.heap.size :: W164.heap.size :: L) W u [r199.2]), (some 76, .is (r199.2)), (some 77, .by fun u W => TupC w.heap.size W193.heap.size (W175.heap.size :: W164.heap.size :: L) S (1 + (cntP (cs.map Prod.fst) : Int)) 3 cs cv u W), (some 70, .by fun u W => TupC w.heap.size W193.heap.size (W175.heap.size :: W164.heap.size :: L) S (1 + (cntP (cs.map Prod.fst) : Int)) 3 cs cv u W), (some 78, .by fun u W => AggC w.heap.size W193.heap.size (W175.heap.size :: W164.heap.size :: L) S cs cv u W), (some 79, .is (.agg #[.int .i64 0, .int .i64 1, .int .i64 (1 + (cntP (cs.map Prod.fst) : Int))])), (some 80, .is (.int .i64 3)), (some 14, .by fun u W => NewT W193.heap.size 25 4 u W), (some 15, .by fun u W => NewT W193.heap.size 30 3 u W), (none, .by fun _ _ => True), (none, .by fun _ _ => True)] [[], [], [], [], [2, 3], [4], [0, 1, 5], [6], [7], [7], [7], [], [], [11, 8, 6, 0, 1, 2, 3, 4, 5, 6, 7, 8, 11, 12], [12, 9, 13, 0, 1, 2, 3, 4, 5, 6, 7, 8, 9, 11, 12, 13]] (by kernel_rfl) (by kernel_rfl) (by kernel_rfl) (by kernel_rfl) (by kernel_rfl) (by kernel_rfl) (by kernel_rfl) ⟨fun _ _ _ hb h => h.below hb, fun _ _ _ hb h => h.below hb, fun _ _ _ hb h => h.below hb, fun _ _ _ hb h => h.below hb, fun _ _ _ hb h => h.below hb, fun _ _ _ hb h => h.below hb, fun _ _ _ _ h => h, fun _ _ _ _ h => h, trivial⟩ ⟨rfl, rfl, rfl, (show (13 : Nat) ≠ 11 by decide), (show (13 : Nat) < 15 by decide), ⟨fun _ _ _ hw h => h.wr hw, fun _ _ _ hw h => h.wr hw (by decide), fun _ _ _ hw h => h.wr hw (by decide), fun _ _ _ hw h => h.wr hw (by decide), fun _ _ _ hw h => h.wr hw, fun _ _ _ hw h => h.wrO hw rfl, fun _ _ _ _ h => h, fun _ _ _ _ h => h, trivial⟩, fun _ _ _ hb h => by obtain ⟨t1_, t2_, h1_, h2_⟩ := h; exact ⟨t1_, t2_, h1_.below hb, h2_.below hb⟩, fun _ _ hb hw => hw.below hb⟩ ⟨rfl, rfl, rfl, (show (14 : Nat) ≠ 12 by decide), (show (14 : Nat) < 15 by decide), ⟨fun _ _ _ hw h => h.wr hw, fun _ _ _ hw h => h.wr hw (by decide), fun _ _ _ hw h => h.wr hw (by decide), fun _ _ _ hw h => h.wr hw (by decide), fun _ _ _ hw h => h.wrO hw rfl, fun _ _ _ hw h => h.wr hw, fun _ _ _ _ h => h, fun _ _ _ _ h => h, trivial⟩, fun _ _ _ hb h => h.below hb, fun _ _ hb hw => hw.below hb⟩ ⟨(show (13 : Nat) ≠ 14 by decide), (show (11 : Nat) ≠ 12 by decide), (show (13 : Nat) ≠ 12 by decide), (show (14 : Nat) ≠ 11 by decide)⟩ (fun _ _ _ hw h => by obtain ⟨t1_, t2_, h1_, h2_⟩ := h; exact ⟨t1_, t2_, h1_.wr hw rfl, h2_.wr hw (by decide)⟩) (fun _ _ _ hw h => h.wr hw rfl) ?_ ?_
      ·
       refine DStepsQ.cons ⟨(show (0 : Nat) ≠ 13 by decide), (show (0 : Nat) ≠ 14 by decide)⟩ (fun Wd hd => ?_) ?_
       ·
        have hk_ := k184.below hd
        exact Dd (dx_loadN rfl ty_agg_25_4 rfl hk_.range rfl) rfl
       refine DStepsQ.cons ⟨(show (1 : Nat) ≠ 13 by decide), (show (1 : Nat) ≠ 14 by decide)⟩ (fun Wd hd => ?_) ?_
       ·
        have hk_ := k187.below hd
        exact Dd (dx_loadN rfl ty_agg_30_3 rfl hk_.range rfl) rfl
       refine DStepsQ.cons ⟨(show (2 : Nat) ≠ 13 by decide), (show (2 : Nat) ≠ 14 by decide)⟩ (fun Wd hd => ?_) ?_
       ·
        exact Dd (dx_move rfl rfl) rfl
       refine DStepsQ.cons ⟨(show (3 : Nat) ≠ 13 by decide), (show (3 : Nat) ≠ 14 by decide)⟩ (fun Wd hd => ?_) ?_
       ·
        exact Dd (dx_move rfl rfl) rfl
       refine DStepsQ.cons ⟨(show (4 : Nat) ≠ 13 by decide), (show (4 : Nat) ≠ 14 by decide)⟩ (fun Wd hd => ?_) ?_
       ·
        exact (dx_idxB j rfl ty_slice_31 rfl rfl h1 hd (by omega) (at_map (enc := encR) e200)).mono (fun v W' h => ⟨by rw [← h.1]; exact Below.refl _ _, by rw [← h.1]; exact h.2⟩)
       refine DStepsQ.cons ⟨(show (5 : Nat) ≠ 13 by decide), (show (5 : Nat) ≠ 14 by decide)⟩ (fun Wd hd => ?_) ?_
       ·
        intro u17_4 p17_4
        exact Dd (dx_loadP rfl ty_one_40 rfl p17_4.ptr) rfl
       refine DStepsQ.cons ⟨(show (6 : Nat) ≠ 13 by decide), (show (6 : Nat) ≠ 14 by decide)⟩ (fun Wd hd => ?_) ?_
       ·
        exact DR.mono (dx_cv rfl Tryd.func18 rfl rfl rfl (append_c eA (LL.below hL hd) (hH.below hd) (fun L_ hl_ => RdF.moreL (hrs0 r199 hrm) (below_then hB hd) L_ (fun x_ hx_ => by rcases hl_ x_ hx_ with h_ | h_; (simp only [List.mem_cons] at h_; rcases h_ with rfl | rfl | h_; exact .inr l181; exact .inr l169; exact .inl h_); exact .inr h_)) hO.byt (hrg r199 hrm) (by omega) (by omega) (hT.below (below_then hB hd)))) (fun v W' h => ⟨h.2, h.1⟩)
       refine DStepsQ.cons ⟨(show (7 : Nat) ≠ 13 by decide), (show (7 : Nat) ≠ 14 by decide)⟩ (fun Wd hd => ?_) ?_
       ·
        intro u17_6 p17_6
        exact DV.dr (dx_move rfl rfl) ⟨Below.refl _ _, p17_6⟩
       refine DStepsQ.cons ⟨(show (8 : Nat) ≠ 13 by decide), (show (8 : Nat) ≠ 14 by decide)⟩ (fun Wd hd => ?_) ?_
       ·
        intro u17_7 p17_7
        obtain ⟨t1_, t2_, rfl, h_⟩ := p17_7
        exact DV.dr (dx_extract rfl rfl rfl) ⟨Below.refl _ _, ⟨t1_, t2_, rfl, h_⟩⟩
       refine DStepsQ.cons ⟨(show (9 : Nat) ≠ 13 by decide), (show (9 : Nat) ≠ 14 by decide)⟩ (fun Wd hd => ?_) ?_
       ·
        intro u17_7 p17_7
        obtain ⟨t1_, t2_, rfl, h_⟩ := p17_7
        exact Dd (dx_extract rfl rfl rfl) rfl
       refine DStepsQ.cons ⟨(show (10 : Nat) ≠ 13 by decide), (show (10 : Nat) ≠ 14 by decide)⟩ (fun Wd hd => ?_) ?_
       ·
        intro u17_7 p17_7
        obtain ⟨t1_, t2_, rfl, h_⟩ := p17_7
        exact Dd (dx_extract rfl rfl rfl) rfl
       refine DStepsQ.cons ⟨(show (11 : Nat) ≠ 13 by decide), (show (11 : Nat) ≠ 14 by decide)⟩ (fun Wd hd => ?_) ?_
       ·
        exact (dx_allocP (cs := [.slice none 0 0, .slice none 0 0, .int .i64 0, .bool false]) rfl ty_zero_25 rfl).mono (fun v W' h => ⟨h.1, (h.2 hd).newT rfl⟩)
       refine DStepsQ.cons ⟨(show (12 : Nat) ≠ 13 by decide), (show (12 : Nat) ≠ 14 by decide)⟩ (fun Wd hd => ?_) ?_
       ·
        exact (dx_allocP (cs := [.int .i64 0, .int .i64 0, .int .i64 0]) rfl ty_zero_30 rfl).mono (fun v W' h => ⟨h.1, (h.2 hd).newT rfl⟩)
       refine DStepsQ.hitA rfl (fun Wd hd ut hut => ?_) ?_
       ·
        intro u17_8 p17_8 u17_6 p17_6 u17_4 p17_4 u17_6 p17_6 u17_7 p17_7 u17_8 p17_8 u17_12 p17_12
        obtain ⟨t1_, t2_, rfl, h_⟩ := p17_8
        have one1 := h_.one1
        have one2 := h_.one2
        exact (dx_storeT (vs := [t1_, t2_, .int .i64 (-1), .bool false]) rfl ty_size_25_4 rfl hut rfl rfl (oC one1 (oC one2 (oC rfl (oC rfl oc_nil)))) rfl).mono (fun v W' h => ⟨h.1, t1_, t2_, h.2, h_.wr h.1 (by decide)⟩)
       refine DStepsQ.hitB ⟨(show (14 : Nat) ≠ 13 by decide), rfl⟩ (fun Wd hd ut hut => ?_) ?_
       ·
        intro u17_13 p17_13 u17_4 p17_4 u17_6 p17_6 u17_7 p17_7 u17_8 p17_8 u17_11 p17_11 u17_13 p17_13
        exact (dx_storeT (vs := [.int .i64 0, .int .i64 1, .int .i64 (1 + (cntP (cs.map Prod.fst) : Int))]) rfl ty_size_30_3 rfl hut rfl rfl (oC rfl (oC rfl (oC rfl oc_nil))) rfl).mono (fun v W' h => ⟨h.1, h.2⟩)
       exact trivial
      ·
       rintro W201 hd _ _ - ⟨t1n, t2n, ⟨B14, rfl, hb14, kt14⟩, hjn⟩ - ⟨B15, rfl, hb15, kt15⟩
       have k14 := kt14.blk
       have k15 := kt15.blk
       intro _ _ _ _ _ _ _ _ _ _ _ _
       have n202 : W164.heap.size ≠ B14 := Nat.ne_of_lt (Nat.lt_of_lt_of_le k184.lt hb14)
       have n203 : W164.heap.size ≠ B15 := Nat.ne_of_lt (Nat.lt_of_lt_of_le k184.lt hb15)
       have n206 : B14 ≠ B15 := kt14.ne kt15 rfl
       replace h1 := h1.more (Below.refl _ _) hb14
       replace h1 := h1.more hd hb15
       replace k184 := k184.below hd
       replace k187 := k187.below hd
       replace hj := hjn.end k14 k15 (show 4 < 128 by decide) (show 3 < 128 by decide) hb14 hb15
       have l207 := Nat.le_trans hB.size hb14
       have l208 := Nat.le_trans hB.size hb15
       replace hB := below_then hB hd
       replace hL := LL.cons (LL.cons (LL.below hL hd) k14.lt) k15.lt
       refine Pu rfl (Ni (hK198 (Sq fun K209 hK209 => (Rg (Pu rfl (Pu rfl ?_))))))
       refine Ge (dx_idxF j rfl ty_slice_31 rfl rfl h1 (by omega) (at_map (enc := encR) e200)) rfl rfl ?_
       rintro u210 _ ⟨rfl, p211⟩
       refine Va (dx_loadP rfl ty_one_40 rfl p211) rfl rfl (Va (dv_eJ (dx_lenB rfl ty_slice_40 rfl (hrs0 r199 (List.mem_of_getElem? e200))) (show _ = Value.int .i64 (r199.1.length : Int) by rw [List.length_map])) rfl rfl ?_)
       refine Ge (dx_cv rfl Tryd.func22 rfl rfl rfl (size_v (r199.1.length : Int) W201 [] (LL.nil _) (by omega))) rfl rfl ?_
       rintro _ W213 ⟨rfl, b212⟩
       replace h1 := h1.below b212
       replace hj := hj.below b212
       replace k184 := k184.below b212
       replace k187 := k187.below b212
       replace k14 := k14.below b212
       replace k15 := k15.below b212
       replace hB := below_then hB b212
       replace hL := LL.below hL b212
       refine Pu rfl (Ni (hK209 (Sq fun K214 hK214 => (WC.block (Sq fun K215 hK215 => (Rg (Pu rfl ?_)))))))
       refine Pu rfl ?_
       refine Ge (dx_idxF j rfl ty_slice_31 rfl rfl h1 (by omega) (at_map (enc := encR) e200)) rfl rfl ?_
       rintro u216 _ ⟨rfl, p217⟩
       refine Va (dx_loadP rfl ty_one_40 rfl p217) rfl rfl (Va (dv_eJ (dx_lenB rfl ty_slice_40 rfl (hrs0 r199 (List.mem_of_getElem? e200))) (show _ = Value.int .i64 (r199.1.length : Int) by rw [List.length_map])) rfl rfl (Va (dv_eJ (dx_gtr rfl rfl rfl) (congrArg Value.bool (decide_eq_true (by omega)))) rfl rfl (Pu rfl (Ni (hK215 (WC.condT rfl (Sq fun K218 hK218 => ?_)))))))
       refine Rg (Pu rfl (Va (dx_neq rfl rfl rfl) rfl rfl (Ni (hK218 (WC.condF rfl (WC.skip (hK214 ?_)))))))
       refine WC.drawC 3 [(2, W164.heap.size, [t1, t2, .int .i64 (-1), .bool false], fun cs_ _ => cs_ = [t1n, t2n, .int .i64 (-1), .bool false])] [(some 120, .is (.agg #[t1n, t2n, .int .i64 (-1), .bool false])), (some 121, .is (.agg #[.int .i64 0, .int .i64 1, .int .i64 (1 + (cntP (cs.map Prod.fst) : Int))])), (none, .by fun _ _ => True)] [[], [], [0, 0]] ⟨fun _ _ _ _ h => h, trivial⟩ (fun e he => by simp only [List.mem_cons, List.not_mem_nil, or_false] at he; subst he; exact ⟨fun _ _ _ _ h => h, trivial⟩) ⟨fun x hx => (by cases hx), trivial⟩ (monQ_nil (fun e he => by simp only [List.mem_cons, List.not_mem_nil, or_false] at he; subst he; exact ⟨_, rfl⟩)) (fun e he => by simp only [List.mem_cons, List.not_mem_nil, or_false] at he; subst he; exact k184) ?_ ?_
       ·
        refine DStepsC.cons rfl (fun Wd hd hbs_ => ?_) ?_
        ·
         have k14 := k14.chgM hd (by simp only [List.map_cons, List.map_nil, List.mem_cons, List.not_mem_nil, or_false, not_or]; exact n202.symm)
         exact Dd (dx_loadN rfl ty_agg_25_4 rfl k14.range rfl) rfl
        refine DStepsC.cons rfl (fun Wd hd hbs_ => ?_) ?_
        ·
         have k15 := k15.chgM hd (by simp only [List.map_cons, List.map_nil, List.mem_cons, List.not_mem_nil, or_false, not_or]; exact n203.symm)
         exact Dd (dx_loadN rfl ty_agg_30_3 rfl k15.range rfl) rfl
        refine DStepsC.hit rfl (fun Wd hd hb_ => ?_) ?_
        ·
         have hj := hj.chgM hd (fun C hC => by simp only [List.map_cons, List.map_nil, List.mem_cons, List.not_mem_nil, or_false] at hC; subst hC; exact (.tail _ (.tail _ (.tail _ (.head _)))))
         exact (dx_storeW (vs := [t1n, t2n, .int .i64 (-1), .bool false]) rfl ty_size_25_4 rfl rfl rfl (oC hj.one1 (oC hj.one2 (oC rfl (oC rfl oc_nil)))) hb_ rfl rfl).mono (fun _ W' h => ⟨h.2, QBlk.is h.1, trivial⟩)
        exact trivial
       ·
        intro W219 hd hq_
        replace h1 := h1.chgM hd (fun C hC => by simp only [List.map_cons, List.map_nil, List.mem_cons, List.not_mem_nil, or_false] at hC; subst hC; exact (.tail _ (.tail _ (.tail _ (.head _)))))
        replace hj := hj.chgM hd (fun C hC => by simp only [List.map_cons, List.map_nil, List.mem_cons, List.not_mem_nil, or_false] at hC; subst hC; exact (.tail _ (.tail _ (.tail _ (.head _)))))
        replace k187 := k187.chgM hd (by simp only [List.map_cons, List.map_nil, List.mem_cons, List.not_mem_nil, or_false, not_or]; exact n180.symm)
        replace k14 := k14.chgM hd (by simp only [List.map_cons, List.map_nil, List.mem_cons, List.not_mem_nil, or_false, not_or]; exact n202.symm)
        replace k15 := k15.chgM hd (by simp only [List.map_cons, List.map_nil, List.mem_cons, List.not_mem_nil, or_false, not_or]; exact n203.symm)
        have k220 := hq_ _ (.head _)
        replace k220 := QBlk.blk k220
        replace hB := hd.toBelow hB (fun C hC => by simp only [List.map_cons, List.map_nil, List.mem_cons, List.not_mem_nil, or_false] at hC; subst hC; exact l169)
        replace hL := hL.chgM hd
        intro _ _
        refine WL.do (dx_store (cs' := [.int .i64 0, .int .i64 1, .int .i64 (1 + (cntP (cs.map Prod.fst) : Int))]) (vs := [.int .i64 0, .int .i64 1, .int .i64 (1 + (cntP (cs.map Prod.fst) : Int))]) rfl ty_size_30_3 rfl rfl rfl (oC rfl (oC rfl (oC rfl oc_nil))) k187 rfl (nB rfl) rfl) rfl ?_
        rintro _ W221 ⟨k223, o222⟩
        replace k220 := k220.other o222 n180
        clear k187
        replace h1 := h1.only o222 (.tail _ (.tail _ (.head _)))
        replace hj := hj.only o222 (.tail _ (.tail _ (.head _)))
        replace hB := o222.below hB l181
        replace hL := LL.only hL o222
        refine Ni (hK197 (Rg (Pu rfl (Va (dx_add (r := (j : Int) + 1) rfl rfl rfl (wrap64_id (by omega))) rfl rfl (Pu rfl (Ni ?_))))))
        replace hL := hL.less (fun x hx => (.tail _ (.tail _ hx)))
        replace h1 := h1.less (fun x hx => (.tail _ (.tail _ hx)))
        replace hj := hj.less (fun x hx => (.tail _ (.tail _ hx)))
        exact hK192 (j + 1) S t1n t2n cv cs ⟨(by omega), hO, hcs, hB, hL, h1, hj, k220, k223⟩ (by omega) (by repeat first | exact trivial | refine aR ?_ | refine aI (by omega) ?_)
     ·
      have hH := hj.toH
      refine WC.drawQ 15 ⟨13, 11, 14, fun u W => NewT W193.heap.size 25 4 u W, fun u W => ∃ t1_ t2_, NewP W193.heap.size 25 [t1_, t2_, .int .i64 (-1), .bool false] u W ∧ CmH w.heap.size W193.heap.size (W175.heap.size :: W164.heap.size :: L) S t1_ t2_ cs cv W, WrT W193.heap.size 25 4⟩ ⟨14, 12, 15, fun u W => NewT W193.heap.size 30 3 u W, fun u W => NewP W193.heap.size 30 [.int .i64 0, .int .i64 1, .int .i64 (1 + (cntP (cs.map Prod.fst) : Int))] u W, WrT W193.heap.size 30 3⟩ [(some 71, .is (.agg #[t1, t2, .int .i64 (-1), .bool false])), (some 72, .is (.agg #[.int .i64 0, .int .i64 1, .int .i64 (1 + (cntP (cs.map Prod.fst) : Int))])), (some 73, .is (rv)), (some 74, .is (.int .i64 (j : Int))), (some 75, .by fun u W => PtB W193.heap.size (W175.heap.size :: W164.heap.size :: L) W u [r199.2]), (some 76, .is (r199.2)), (some 77, .by fun u W => TupC w.heap.size W193.heap.size (W175.heap.size :: W164.heap.size :: L) S (1 + (cntP (cs.map Prod.fst) : Int)) 10 cs cv u W), (some 70, .by fun u W => TupC w.heap.size W193.heap.size (W175.heap.size :: W164.heap.size :: L) S (1 + (cntP (cs.map Prod.fst) : Int)) 10 cs cv u W), (some 78, .by fun u W => AggC w.heap.size W193.heap.size (W175.heap.size :: W164.heap.size :: L) S cs cv u W), (some 79, .is (.agg #[.int .i64 0, .int .i64 1, .int .i64 (1 + (cntP (cs.map Prod.fst) : Int))])), (some 80, .is (.int .i64 10)), (some 14, .by fun u W => NewT W193.heap.size 25 4 u W), (some 15, .by fun u W => NewT W193.heap.size 30 3 u W), (none, .by fun _ _ => True), (none, .by fun _ _ => True)] [[], [], [], [], [2, 3], [4], [0, 1, 5], [6], [7], [7], [7], [], [], [11, 8, 6, 0, 1, 2, 3, 4, 5, 6, 7, 8, 11, 12], [12, 9, 13, 0, 1, 2, 3, 4, 5, 6, 7, 8, 9, 11, 12, 13]] (by kernel_rfl) (by kernel_rfl) (by kernel_rfl) (by kernel_rfl) (by kernel_rfl) (by kernel_rfl) (by kernel_rfl) ⟨fun _ _ _ hb h => h.below hb, fun _ _ _ hb h => h.below hb, fun _ _ _ hb h => h.below hb, fun _ _ _ hb h => h.below hb, fun _ _ _ hb h => h.below hb, fun _ _ _ hb h => h.below hb, fun _ _ _ _ h => h, fun _ _ _ _ h => h, trivial⟩ ⟨rfl, rfl, rfl, (show (13 : Nat) ≠ 11 by decide), (show (13 : Nat) < 15 by decide), ⟨fun _ _ _ hw h => h.wr hw, fun _ _ _ hw h => h.wr hw (by decide), fun _ _ _ hw h => h.wr hw (by decide), fun _ _ _ hw h => h.wr hw (by decide), fun _ _ _ hw h => h.wr hw, fun _ _ _ hw h => h.wrO hw rfl, fun _ _ _ _ h => h, fun _ _ _ _ h => h, trivial⟩, fun _ _ _ hb h => by obtain ⟨t1_, t2_, h1_, h2_⟩ := h; exact ⟨t1_, t2_, h1_.below hb, h2_.below hb⟩, fun _ _ hb hw => hw.below hb⟩ ⟨rfl, rfl, rfl, (show (14 : Nat) ≠ 12 by decide), (show (14 : Nat) < 15 by decide), ⟨fun _ _ _ hw h => h.wr hw, fun _ _ _ hw h => h.wr hw (by decide), fun _ _ _ hw h => h.wr hw (by decide), fun _ _ _ hw h => h.wr hw (by decide), fun _ _ _ hw h => h.wrO hw rfl, fun _ _ _ hw h => h.wr hw, fun _ _ _ _ h => h, fun _ _ _ _ h => h, trivial⟩, fun _ _ _ hb h => h.below hb, fun _ _ hb hw => hw.below hb⟩ ⟨(show (13 : Nat) ≠ 14 by decide), (show (11 : Nat) ≠ 12 by decide), (show (13 : Nat) ≠ 12 by decide), (show (14 : Nat) ≠ 11 by decide)⟩ (fun _ _ _ hw h => by obtain ⟨t1_, t2_, h1_, h2_⟩ := h; exact ⟨t1_, t2_, h1_.wr hw rfl, h2_.wr hw (by decide)⟩) (fun _ _ _ hw h => h.wr hw rfl) ?_ ?_
      ·
       refine DStepsQ.cons ⟨(show (0 : Nat) ≠ 13 by decide), (show (0 : Nat) ≠ 14 by decide)⟩ (fun Wd hd => ?_) ?_
       ·
        have hk_ := k184.below hd
        exact Dd (dx_loadN rfl ty_agg_25_4 rfl hk_.range rfl) rfl
       refine DStepsQ.cons ⟨(show (1 : Nat) ≠ 13 by decide), (show (1 : Nat) ≠ 14 by decide)⟩ (fun Wd hd => ?_) ?_
       ·
        have hk_ := k187.below hd
        exact Dd (dx_loadN rfl ty_agg_30_3 rfl hk_.range rfl) rfl
       refine DStepsQ.cons ⟨(show (2 : Nat) ≠ 13 by decide), (show (2 : Nat) ≠ 14 by decide)⟩ (fun Wd hd => ?_) ?_
       ·
        exact Dd (dx_move rfl rfl) rfl
       refine DStepsQ.cons ⟨(show (3 : Nat) ≠ 13 by decide), (show (3 : Nat) ≠ 14 by decide)⟩ (fun Wd hd => ?_) ?_
       ·
        exact Dd (dx_move rfl rfl) rfl
       refine DStepsQ.cons ⟨(show (4 : Nat) ≠ 13 by decide), (show (4 : Nat) ≠ 14 by decide)⟩ (fun Wd hd => ?_) ?_
       ·
        exact (dx_idxB j rfl ty_slice_31 rfl rfl h1 hd (by omega) (at_map (enc := encR) e200)).mono (fun v W' h => ⟨by rw [← h.1]; exact Below.refl _ _, by rw [← h.1]; exact h.2⟩)
       refine DStepsQ.cons ⟨(show (5 : Nat) ≠ 13 by decide), (show (5 : Nat) ≠ 14 by decide)⟩ (fun Wd hd => ?_) ?_
       ·
        intro u17_4 p17_4
        exact Dd (dx_loadP rfl ty_one_40 rfl p17_4.ptr) rfl
       refine DStepsQ.cons ⟨(show (6 : Nat) ≠ 13 by decide), (show (6 : Nat) ≠ 14 by decide)⟩ (fun Wd hd => ?_) ?_
       ·
        exact DR.mono (dx_cv rfl Tryd.func18 rfl rfl rfl (append_c eA (LL.below hL hd) (hH.below hd) (fun L_ hl_ => RdF.moreL (hrs0 r199 hrm) (below_then hB hd) L_ (fun x_ hx_ => by rcases hl_ x_ hx_ with h_ | h_; (simp only [List.mem_cons] at h_; rcases h_ with rfl | rfl | h_; exact .inr l181; exact .inr l169; exact .inl h_); exact .inr h_)) hO.byt (hrg r199 hrm) (by omega) (by omega) (hT.below (below_then hB hd)))) (fun v W' h => ⟨h.2, h.1⟩)
       refine DStepsQ.cons ⟨(show (7 : Nat) ≠ 13 by decide), (show (7 : Nat) ≠ 14 by decide)⟩ (fun Wd hd => ?_) ?_
       ·
        intro u17_6 p17_6
        exact DV.dr (dx_move rfl rfl) ⟨Below.refl _ _, p17_6⟩
       refine DStepsQ.cons ⟨(show (8 : Nat) ≠ 13 by decide), (show (8 : Nat) ≠ 14 by decide)⟩ (fun Wd hd => ?_) ?_
       ·
        intro u17_7 p17_7
        obtain ⟨t1_, t2_, rfl, h_⟩ := p17_7
        exact DV.dr (dx_extract rfl rfl rfl) ⟨Below.refl _ _, ⟨t1_, t2_, rfl, h_⟩⟩
       refine DStepsQ.cons ⟨(show (9 : Nat) ≠ 13 by decide), (show (9 : Nat) ≠ 14 by decide)⟩ (fun Wd hd => ?_) ?_
       ·
        intro u17_7 p17_7
        obtain ⟨t1_, t2_, rfl, h_⟩ := p17_7
        exact Dd (dx_extract rfl rfl rfl) rfl
       refine DStepsQ.cons ⟨(show (10 : Nat) ≠ 13 by decide), (show (10 : Nat) ≠ 14 by decide)⟩ (fun Wd hd => ?_) ?_
       ·
        intro u17_7 p17_7
        obtain ⟨t1_, t2_, rfl, h_⟩ := p17_7
        exact Dd (dx_extract rfl rfl rfl) rfl
       refine DStepsQ.cons ⟨(show (11 : Nat) ≠ 13 by decide), (show (11 : Nat) ≠ 14 by decide)⟩ (fun Wd hd => ?_) ?_
       ·
        exact (dx_allocP (cs := [.slice none 0 0, .slice none 0 0, .int .i64 0, .bool false]) rfl ty_zero_25 rfl).mono (fun v W' h => ⟨h.1, (h.2 hd).newT rfl⟩)
       refine DStepsQ.cons ⟨(show (12 : Nat) ≠ 13 by decide), (show (12 : Nat) ≠ 14 by decide)⟩ (fun Wd hd => ?_) ?_
       ·
        exact (dx_allocP (cs := [.int .i64 0, .int .i64 0, .int .i64 0]) rfl ty_zero_30 rfl).mono (fun v W' h => ⟨h.1, (h.2 hd).newT rfl⟩)
       refine DStepsQ.hitA rfl (fun Wd hd ut hut => ?_) ?_
       ·
        intro u17_8 p17_8 u17_6 p17_6 u17_4 p17_4 u17_6 p17_6 u17_7 p17_7 u17_8 p17_8 u17_12 p17_12
        obtain ⟨t1_, t2_, rfl, h_⟩ := p17_8
        have one1 := h_.one1
        have one2 := h_.one2
        exact (dx_storeT (vs := [t1_, t2_, .int .i64 (-1), .bool false]) rfl ty_size_25_4 rfl hut rfl rfl (oC one1 (oC one2 (oC rfl (oC rfl oc_nil)))) rfl).mono (fun v W' h => ⟨h.1, t1_, t2_, h.2, h_.wr h.1 (by decide)⟩)
       refine DStepsQ.hitB ⟨(show (14 : Nat) ≠ 13 by decide), rfl⟩ (fun Wd hd ut hut => ?_) ?_
       ·
        intro u17_13 p17_13 u17_4 p17_4 u17_6 p17_6 u17_7 p17_7 u17_8 p17_8 u17_11 p17_11 u17_13 p17_13
        exact (dx_storeT (vs := [.int .i64 0, .int .i64 1, .int .i64 (1 + (cntP (cs.map Prod.fst) : Int))]) rfl ty_size_30_3 rfl hut rfl rfl (oC rfl (oC rfl (oC rfl oc_nil))) rfl).mono (fun v W' h => ⟨h.1, h.2⟩)
       exact trivial
      ·
       rintro W224 hd _ _ - ⟨t1n, t2n, ⟨B14, rfl, hb14, kt14⟩, hjn⟩ - ⟨B15, rfl, hb15, kt15⟩
       have k14 := kt14.blk
       have k15 := kt15.blk
       intro _ _ _ _ _ _ _ _ _ _ _ _
       have n225 : W164.heap.size ≠ B14 := Nat.ne_of_lt (Nat.lt_of_lt_of_le k184.lt hb14)
       have n226 : W164.heap.size ≠ B15 := Nat.ne_of_lt (Nat.lt_of_lt_of_le k184.lt hb15)
       have n229 : B14 ≠ B15 := kt14.ne kt15 rfl
       replace h1 := h1.more (Below.refl _ _) hb14
       replace h1 := h1.more hd hb15
       replace k184 := k184.below hd
       replace k187 := k187.below hd
       replace hj := hjn.end k14 k15 (show 4 < 128 by decide) (show 3 < 128 by decide) hb14 hb15
       have l230 := Nat.le_trans hB.size hb14
       have l231 := Nat.le_trans hB.size hb15
       replace hB := below_then hB hd
       replace hL := LL.cons (LL.cons (LL.below hL hd) k14.lt) k15.lt
       refine Pu rfl (Ni (hK198 (Sq fun K232 hK232 => (Rg (Pu rfl (Pu rfl ?_))))))
       refine Ge (dx_idxF j rfl ty_slice_31 rfl rfl h1 (by omega) (at_map (enc := encR) e200)) rfl rfl ?_
       rintro u233 _ ⟨rfl, p234⟩
       refine Va (dx_loadP rfl ty_one_40 rfl p234) rfl rfl (Va (dv_eJ (dx_lenB rfl ty_slice_40 rfl (hrs0 r199 (List.mem_of_getElem? e200))) (show _ = Value.int .i64 (r199.1.length : Int) by rw [List.length_map])) rfl rfl ?_)
       refine Ge (dx_cv rfl Tryd.func22 rfl rfl rfl (size_v (r199.1.length : Int) W224 [] (LL.nil _) (by omega))) rfl rfl ?_
       rintro _ W236 ⟨rfl, b235⟩
       replace h1 := h1.below b235
       replace hj := hj.below b235
       replace k184 := k184.below b235
       replace k187 := k187.below b235
       replace k14 := k14.below b235
       replace k15 := k15.below b235
       replace hB := below_then hB b235
       replace hL := LL.below hL b235
       refine Pu rfl (Ni (hK232 (Sq fun K237 hK237 => (WC.block (Sq fun K238 hK238 => (Rg (Pu rfl ?_)))))))
       refine Pu rfl ?_
       refine Ge (dx_idxF j rfl ty_slice_31 rfl rfl h1 (by omega) (at_map (enc := encR) e200)) rfl rfl ?_
       rintro u239 _ ⟨rfl, p240⟩
       refine Va (dx_loadP rfl ty_one_40 rfl p240) rfl rfl (Va (dv_eJ (dx_lenB rfl ty_slice_40 rfl (hrs0 r199 (List.mem_of_getElem? e200))) (show _ = Value.int .i64 (r199.1.length : Int) by rw [List.length_map])) rfl rfl (Va (dv_eJ (dx_gtr rfl rfl rfl) (congrArg Value.bool (decide_eq_false (by omega)))) rfl rfl (Pu rfl (Ni (hK238 (WC.condF rfl (Sq fun K241 hK241 => ?_)))))))
       refine Rg (Pu rfl (Pu rfl (Va (dx_add (r := (1 + (cntP (cs.map Prod.fst) : Int)) + (sizeD (r199.1.length : Int))) rfl rfl rfl (wrap64_id (by omega))) rfl rfl (Pu rfl (Va (dx_conv (r := sc) rfl Tryd.underlying5 Tryd.underlying3 rfl (wrap64_id (by omega))) rfl rfl (Va (dx_rem (r := sc % 100) rfl rfl rfl (by omega) (Int.tmod_eq_emod_of_nonneg (by omega))) rfl rfl (Va (dx_add (r := 8 + (sc % 100)) rfl rfl rfl (wrap64_id (by omega))) rfl rfl ?_)))))))
       refine Va (dx_quo (r := (8 + (sc % 100)) / 2) rfl rfl rfl (by omega) (by rw [Int.tdiv_eq_ediv_of_nonneg (by omega)]; exact (wrap64_id (by omega)))) rfl rfl (Va (dv_eJ (dx_gtr rfl rfl rfl) (congrArg Value.bool (decide_eq_true (by omega)))) rfl rfl (Pu rfl (Ni (hK241 (WC.condT rfl (Sq fun K242 hK242 => (Rg ?_)))))))
       refine Pu rfl (Va (dx_neq rfl rfl rfl) rfl rfl (Ni (hK242 (WC.condF rfl (WC.skip (hK237 ?_))))))
       refine WC.drawC 3 [(2, W164.heap.size, [t1, t2, .int .i64 (-1), .bool false], fun cs_ _ => cs_ = [t1n, t2n, .int .i64 (-1), .bool false])] [(some 120, .is (.agg #[t1n, t2n, .int .i64 (-1), .bool false])), (some 121, .is (.agg #[.int .i64 0, .int .i64 1, .int .i64 (1 + (cntP (cs.map Prod.fst) : Int))])), (none, .by fun _ _ => True)] [[], [], [0, 0]] ⟨fun _ _ _ _ h => h, trivial⟩ (fun e he => by simp only [List.mem_cons, List.not_mem_nil, or_false] at he; subst he; exact ⟨fun _ _ _ _ h => h, trivial⟩) ⟨fun x hx => (by cases hx), trivial⟩ (monQ_nil (fun e he => by simp only [List.mem_cons, List.not_mem_nil, or_false] at he; subst he; exact ⟨_, rfl⟩)) (fun e he => by simp only [List.mem_cons, List.not_mem_nil, or_false] at he; subst he; exact k184) ?_ ?_
       ·
        refine DStepsC.cons rfl (fun Wd hd hbs_ => ?_) ?_
        ·
         have k14 := k14.chgM hd (by simp only [List.map_cons, List.map_nil, List.mem_cons, List.not_mem_nil, or_false, not_or]; exact n225.symm)
         exact Dd (dx_loadN rfl ty_agg_25_4 rfl k14.range rfl) rfl
        refine DStepsC.cons rfl (fun Wd hd hbs_ => ?_) ?_
        ·
         have k15 := k15.chgM hd (by simp only [List.map_cons, List.map_nil, List.mem_cons, List.not_mem_nil, or_false, not_or]; exact n226.symm)
         exact Dd (dx_loadN rfl ty_agg_30_3 rfl k15.range rfl) rfl
        refine DStepsC.hit rfl (fun Wd hd hb_ => ?_) ?_
        ·
         have hj := hj.chgM hd (fun C hC => by simp only [List.map_cons, List.map_nil, List.mem_cons, List.not_mem_nil, or_false] at hC; subst hC; exact (.tail _ (.tail _ (.tail _ (.head _)))))
         exact (dx_storeW (vs := [t1n, t2n, .int .i64 (-1), .bool false]) rfl ty_size_25_4 rfl rfl rfl (oC hj.one1 (oC hj.one2 (oC rfl (oC rfl oc_nil)))) hb_ rfl rfl).mono (fun _ W' h => ⟨h.2, QBlk.is h.1, trivial⟩)
        exact trivial
       ·
        intro W243 hd hq_
        replace h1 := h1.chgM hd (fun C hC => by simp only [List.map_cons, List.map_nil, List.mem_cons, List.not_mem_nil, or_false] at hC; subst hC; exact (.tail _ (.tail _ (.tail _ (.head _)))))
        replace hj := hj.chgM hd (fun C hC => by simp only [List.map_cons, List.map_nil, List.mem_cons, List.not_mem_nil, or_false] at hC; subst hC; exact (.tail _ (.tail _ (.tail _ (.head _)))))
        replace k187 := k187.chgM hd (by simp only [List.map_cons, List.map_nil, List.mem_cons, List.not_mem_nil, or_false, not_or]; exact n180.symm)
        replace k14 := k14.chgM hd (by simp only [List.map_cons, List.map_nil, List.mem_cons, List.not_mem_nil, or_false, not_or]; exact n225.symm)
        replace k15 := k15.chgM hd (by simp only [List.map_cons, List.map_nil, List.mem_cons, List.not_mem_nil, or_false, not_or]; exact n226.symm)
        have k244 := hq_ _ (.head _)
        replace k244 := QBlk.blk k244
        replace hB := hd.toBelow hB (fun C hC => by simp only [List.map_cons, List.map_nil, List.mem_cons, List.not_mem_nil, or_false] at hC; subst hC; exact l169)
        replace hL := hL.chgM hd
        intro _ _
        refine WL.do (dx_store (cs' := [.int .i64 0, .int .i64 1, .int .i64 (1 + (cntP (cs.map Prod.fst) : Int))]) (vs := [.int .i64 0, .int .i64 1, .int .i64 (1 + (cntP (cs.map Prod.fst) : Int))]) rfl ty_size_30_3 rfl rfl rfl (oC rfl (oC rfl (oC rfl oc_nil))) k187 rfl (nB rfl) rfl) rfl ?_
        rintro _ W245 ⟨k247, o246⟩
        replace k244 := k244.other o246 n180
        clear k187
        replace h1 := h1.only o246 (.tail _ (.tail _ (.head _)))
        replace hj := hj.only o246 (.tail _ (.tail _ (.head _)))
        replace hB := o246.below hB l181
        replace hL := LL.only hL o246
        refine Ni (hK197 (Rg (Pu rfl (Va (dx_add (r := (j : Int) + 1) rfl rfl rfl (wrap64_id (by omega))) rfl rfl (Pu rfl (Ni ?_))))))
        replace hL := hL.less (fun x hx => (.tail _ (.tail _ hx)))
        replace h1 := h1.less (fun x hx => (.tail _ (.tail _ hx)))
        replace hj := hj.less (fun x hx => (.tail _ (.tail _ hx)))
        exact hK192 (j + 1) S t1n t2n cv cs ⟨(by omega), hO, hcs, hB, hL, h1, hj, k244, k247⟩ (by omega) (by repeat first | exact trivial | refine aR ?_ | refine aI (by omega) ?_)
     ·
      have eA : appendD S [] (-1) false 0 1 (1 + (cntP (cs.map Prod.fst) : Int)) r199.1 = (⟨SN, [], -1, false, 0⟩, 0, 1, 1 + (cntP ((cs ++ [(r199.1, r199.2)]).map Prod.fst) : Int)) := by rw [List.map_append]; exact eA0
      have hH := hj.toH
      refine WC.drawQ 15 ⟨13, 11, 14, fun u W => NewT W193.heap.size 25 4 u W, fun u W => ∃ t1_ t2_, NewP W193.heap.size 25 [t1_, t2_, .int .i64 (-1), .bool false] u W ∧ CmH w.heap.size W193.heap.size (W175.heap.size :: W164.heap.size :: L) SN t1_ t2_ cs cv W, WrT W193.heap.size 25 4⟩ ⟨14, 12, 15, fun u W => NewT W193.heap.size 30 3 u W, fun u W => NewP W193.heap.size 30 [.int .i64 0, .int .i64 1, .int .i64 (1 + (cntP ((cs ++ [(r199.1, r199.2)]).map Prod.fst) : Int))] u W, WrT W193.heap.size 30 3⟩ [(some 71, .is (.agg #[t1, t2, .int .i64 (-1), .bool false])), (some 72, .is (.agg #[.int .i64 0, .int .i64 1, .int .i64 (1 + (cntP (cs.map Prod.fst) : Int))])), (some 73, .is (rv)), (some 74, .is (.int .i64 (j : Int))), (some 75, .by fun u W => PtB W193.heap.size (W175.heap.size :: W164.heap.size :: L) W u [r199.2]), (some 76, .is (r199.2)), (some 77, .by fun u W => TupC w.heap.size W193.heap.size (W175.heap.size :: W164.heap.size :: L) SN (1 + (cntP ((cs ++ [(r199.1, r199.2)]).map Prod.fst) : Int)) 0 cs cv u W), (some 70, .by fun u W => TupC w.heap.size W193.heap.size (W175.heap.size :: W164.heap.size :: L) SN (1 + (cntP ((cs ++ [(r199.1, r199.2)]).map Prod.fst) : Int)) 0 cs cv u W), (some 78, .by fun u W => AggC w.heap.size W193.heap.size (W175.heap.size :: W164.heap.size :: L) SN cs cv u W), (some 79, .is (.agg #[.int .i64 0, .int .i64 1, .int .i64 (1 + (cntP ((cs ++ [(r199.1, r199.2)]).map Prod.fst) : Int))])), (some 80, .is (.int .i64 0)), (some 14, .by fun u W => NewT W193.heap.size 25 4 u W), (some 15, .by fun u W => NewT W193.heap.size 30 3 u W), (none, .by fun _ _ => True), (none, .by fun _ _ => True)] [[], [], [], [], [2, 3], [4], [0, 1, 5], [6], [7], [7], [7], [], [], [11, 8, 6, 0, 1, 2, 3, 4, 5, 6, 7, 8, 11, 12], [12, 9, 13, 0, 1, 2, 3, 4, 5, 6, 7, 8, 9, 11, 12, 13]] (by kernel_rfl) (by kernel_rfl) (by kernel_rfl) (by kernel_rfl) (by kernel_rfl) (by kernel_rfl) (by kernel_rfl) ⟨fun _ _ _ hb h => h.below hb, fun _ _ _ hb h => h.below hb, fun _ _ _ hb h => h.below hb, fun _ _ _ hb h => h.below hb, fun _ _ _ hb h => h.below hb, fun _ _ _ hb h => h.below hb, fun _ _ _ _ h => h, fun _ _ _ _ h => h, trivial⟩ ⟨rfl, rfl, rfl, (show (13 : Nat) ≠ 11 by decide), (show (13 : Nat) < 15 by decide), ⟨fun _ _ _ hw h => h.wr hw, fun _ _ _ hw h => h.wr hw (by decide), fun _ _ _ hw h => h.wr hw (by decide), fun _ _ _ hw h => h.wr hw (by decide), fun _ _ _ hw h => h.wr hw, fun _ _ _ hw h => h.wrO hw rfl, fun _ _ _ _ h => h, fun _ _ _ _ h => h, trivial⟩, fun _ _ _ hb h => by obtain ⟨t1_, t2_, h1_, h2_⟩ := h; exact ⟨t1_, t2_, h1_.below hb, h2_.below hb⟩, fun _ _ hb hw => hw.below hb⟩ ⟨rfl, rfl, rfl, (show (14 : Nat) ≠ 12 by decide), (show (14 : Nat) < 15 by decide), ⟨fun _ _ _ hw h => h.wr hw, fun _ _ _ hw h => h.wr hw (by decide), fun _ _ _ hw h => h.wr hw (by decide), fun _ _ _ hw h => h.wr hw (by decide), fun _ _ _ hw h => h.wrO hw rfl, fun _ _ _ hw h => h.wr hw, fun _ _ _ _ h => h, fun _ _ _ _ h => h, trivial⟩, fun _ _ _ hb h => h.below hb, fun _ _ hb hw => hw.below hb⟩ ⟨(show (13 : Nat) ≠ 14 by decide), (show (11 : Nat) ≠ 12 by decide), (show (13 : Nat) ≠ 12 by decide), (show (14 : Nat) ≠ 11 by decide)⟩ (fun _ _ _ hw h => by obtain ⟨t1_, t2_, h1_, h2_⟩ := h; exact ⟨t1_, t2_, h1_.wr hw rfl, h2_.wr hw (by decide)⟩) (fun _ _ _ hw h => h.wr hw rfl) ?_ ?_
      ·
       refine DStepsQ.cons ⟨(show (0 : Nat) ≠ 13 by decide), (show (0 : Nat) ≠ 14 by decide)⟩ (fun Wd hd => ?_) ?_
       ·
        have hk_ := k184.below hd
        exact Dd (dx_loadN rfl ty_agg_25_4 rfl hk_.range rfl) rfl
       refine DStepsQ.cons ⟨(show (1 : Nat) ≠ 13 by decide), (show (1 : Nat) ≠ 14 by decide)⟩ (fun Wd hd => ?_) ?_
       ·
        have hk_ := k187.below hd
        exact Dd (dx_loadN rfl ty_agg_30_3 rfl hk_.range rfl) rfl
       refine DStepsQ.cons ⟨(show (2 : Nat) ≠ 13 by decide), (show (2 : Nat) ≠ 14 by decide)⟩ (fun Wd hd => ?_) ?_
       ·
        exact Dd (dx_move rfl rfl) rfl
       refine DStepsQ.cons ⟨(show (3 : Nat) ≠ 13 by decide), (show (3 : Nat) ≠ 14 by decide)⟩ (fun Wd hd => ?_) ?_
       ·
        exact Dd (dx_move rfl rfl) rfl
       refine DStepsQ.cons ⟨(show (4 : Nat) ≠ 13 by decide), (show (4 : Nat) ≠ 14 by decide)⟩ (fun Wd hd => ?_) ?_
       ·
        exact (dx_idxB j rfl ty_slice_31 rfl rfl h1 hd (by omega) (at_map (enc := encR) e200)).mono (fun v W' h => ⟨by rw [← h.1]; exact Below.refl _ _, by rw [← h.1]; exact h.2⟩)
       refine DStepsQ.cons ⟨(show (5 : Nat) ≠ 13 by decide), (show (5 : Nat) ≠ 14 by decide)⟩ (fun Wd hd => ?_) ?_
       ·
        intro u17_4 p17_4
        exact Dd (dx_loadP rfl ty_one_40 rfl p17_4.ptr) rfl
       refine DStepsQ.cons ⟨(show (6 : Nat) ≠ 13 by decide), (show (6 : Nat) ≠ 14 by decide)⟩ (fun Wd hd => ?_) ?_
       ·
        exact DR.mono (dx_cv rfl Tryd.func18 rfl rfl rfl (append_c eA (LL.below hL hd) (hH.below hd) (fun L_ hl_ => RdF.moreL (hrs0 r199 hrm) (below_then hB hd) L_ (fun x_ hx_ => by rcases hl_ x_ hx_ with h_ | h_; (simp only [List.mem_cons] at h_; rcases h_ with rfl | rfl | h_; exact .inr l181; exact .inr l169; exact .inl h_); exact .inr h_)) hO.byt (hrg r199 hrm) (by omega) (by omega) (hT.below (below_then hB hd)))) (fun v W' h => ⟨h.2, h.1⟩)
       refine DStepsQ.cons ⟨(show (7 : Nat) ≠ 13 by decide), (show (7 : Nat) ≠ 14 by decide)⟩ (fun Wd hd => ?_) ?_
       ·
        intro u17_6 p17_6
        exact DV.dr (dx_move rfl rfl) ⟨Below.refl _ _, p17_6⟩
       refine DStepsQ.cons ⟨(show (8 : Nat) ≠ 13 by decide), (show (8 : Nat) ≠ 14 by decide)⟩ (fun Wd hd => ?_) ?_
       ·
        intro u17_7 p17_7
        obtain ⟨t1_, t2_, rfl, h_⟩ := p17_7
        exact DV.dr (dx_extract rfl rfl rfl) ⟨Below.refl _ _, ⟨t1_, t2_, rfl, h_⟩⟩
       refine DStepsQ.cons ⟨(show (9 : Nat) ≠ 13 by decide), (show (9 : Nat) ≠ 14 by decide)⟩ (fun Wd hd => ?_) ?_
       ·
        intro u17_7 p17_7
        obtain ⟨t1_, t2_, rfl, h_⟩ := p17_7
        exact Dd (dx_extract rfl rfl rfl) rfl
       refine DStepsQ.cons ⟨(show (10 : Nat) ≠ 13 by decide), (show (10 : Nat) ≠ 14 by decide)⟩ (fun Wd hd => ?_) ?_
       ·
        intro u17_7 p17_7
        obtain ⟨t1_, t2_, rfl, h_⟩ := p17_7
        exact Dd (dx_extract rfl rfl rfl) rfl
       refine DStepsQ.cons ⟨(show (11 : Nat) ≠ 13 by decide), (show (11 : Nat) ≠ 14 by decide)⟩ (fun Wd hd => ?_) ?_
       ·
        exact (dx_allocP (cs := [.slice none 0 0, .slice none 0 0, .int .i64 0, .bool false]) rfl ty_zero_25 rfl).mono (fun v W' h => ⟨h.1, (h.2 hd).newT rfl⟩)
       refine DStepsQ.cons ⟨(show (12 : Nat) ≠ 13 by decide), (show (12 : Nat) ≠ 14 by decide)⟩ (fun Wd hd => ?_) ?_
       ·
        exact (dx_allocP (cs := [.int .i64 0, .int .i64 0, .int .i64 0]) rfl ty_zero_30 rfl).mono (fun v W' h => ⟨h.1, (h.2 hd).newT rfl⟩)
       refine DStepsQ.hitA rfl (fun Wd hd ut hut => ?_) ?_
       ·
        intro u17_8 p17_8 u17_6 p17_6 u17_4 p17_4 u17_6 p17_6 u17_7 p17_7 u17_8 p17_8 u17_12 p17_12
        obtain ⟨t1_, t2_, rfl, h_⟩ := p17_8
        have one1 := h_.one1
        have one2 := h_.one2
        exact (dx_storeT (vs := [t1_, t2_, .int .i64 (-1), .bool false]) rfl ty_size_25_4 rfl hut rfl rfl (oC one1 (oC one2 (oC rfl (oC rfl oc_nil)))) rfl).mono (fun v W' h => ⟨h.1, t1_, t2_, h.2, h_.wr h.1 (by decide)⟩)
       refine DStepsQ.hitB ⟨(show (14 : Nat) ≠ 13 by decide), rfl⟩ (fun Wd hd ut hut => ?_) ?_
       ·
        intro u17_13 p17_13 u17_4 p17_4 u17_6 p17_6 u17_7 p17_7 u17_8 p17_8 u17_11 p17_11 u17_13 p17_13
        exact (dx_storeT (vs := [.int .i64 0, .int .i64 1, .int .i64 (1 + (cntP ((cs ++ [(r199.1, r199.2)]).map Prod.fst) : Int))]) rfl ty_size_30_3 rfl hut rfl rfl (oC rfl (oC rfl (oC rfl oc_nil))) rfl).mono (fun v W' h => ⟨h.1, h.2⟩)
       exact trivial
      ·
       rintro W248 hd _ _ - ⟨t1n, t2n, ⟨B14, rfl, hb14, kt14⟩, hjn⟩ - ⟨B15, rfl, hb15, kt15⟩
       have k14 := kt14.blk
       have k15 := kt15.blk
       intro _ _ _ _ _ _ _ _ _ _ _ _
       have n249 : W164.heap.size ≠ B14 := Nat.ne_of_lt (Nat.lt_of_lt_of_le k184.lt hb14)
       have n250 : W164.heap.size ≠ B15 := Nat.ne_of_lt (Nat.lt_of_lt_of_le k184.lt hb15)
       have n253 : B14 ≠ B15 := kt14.ne kt15 rfl
       replace h1 := h1.more (Below.refl _ _) hb14
       replace h1 := h1.more hd hb15
       replace k184 := k184.below hd
       replace k187 := k187.below hd
       replace hj := hjn.end k14 k15 (show 4 < 128 by decide) (show 3 < 128 by decide) hb14 hb15
       have l254 := Nat.le_trans hB.size hb14
       have l255 := Nat.le_trans hB.size hb15
       replace hB := below_then hB hd
       replace hL := LL.cons (LL.cons (LL.below hL hd) k14.lt) k15.lt
       refine Pu rfl (Ni (hK198 (Sq fun K256 hK256 => (Rg (Pu rfl (Pu rfl ?_))))))
       refine Ge (dx_idxF j rfl ty_slice_31 rfl rfl h1 (by omega) (at_map (enc := encR) e200)) rfl rfl ?_
       rintro u257 _ ⟨rfl, p258⟩
       refine Va (dx_loadP rfl ty_one_40 rfl p258) rfl rfl (Va (dv_eJ (dx_lenB rfl ty_slice_40 rfl (hrs0 r199 (List.mem_of_getElem? e200))) (show _ = Value.int .i64 (r199.1.length : Int) by rw [List.length_map])) rfl rfl ?_)
       refine Ge (dx_cv rfl Tryd.func22 rfl rfl rfl (size_v (r199.1.length : Int) W248 [] (LL.nil _) (by omega))) rfl rfl ?_
       rintro _ W260 ⟨rfl, b259⟩
       replace h1 := h1.below b259
       replace hj := hj.below b259
       replace k184 := k184.below b259
       replace k187 := k187.below b259
       replace k14 := k14.below b259
       replace k15 := k15.below b259
       replace hB := below_then hB b259
       replace hL := LL.below hL b259
       refine Pu rfl (Ni (hK256 (Sq fun K261 hK261 => (WC.block (Sq fun K262 hK262 => (Rg (Pu rfl ?_)))))))
       refine Pu rfl ?_
       refine Ge (dx_idxF j rfl ty_slice_31 rfl rfl h1 (by omega) (at_map (enc := encR) e200)) rfl rfl ?_
       rintro u263 _ ⟨rfl, p264⟩
       refine Va (dx_loadP rfl ty_one_40 rfl p264) rfl rfl (Va (dv_eJ (dx_lenB rfl ty_slice_40 rfl (hrs0 r199 (List.mem_of_getElem? e200))) (show _ = Value.int .i64 (r199.1.length : Int) by rw [List.length_map])) rfl rfl (Va (dv_eJ (dx_gtr rfl rfl rfl) (congrArg Value.bool (decide_eq_false (by omega)))) rfl rfl (Pu rfl (Ni (hK262 (WC.condF rfl (Sq fun K265 hK265 => ?_)))))))
       refine Rg (Pu rfl (Pu rfl (Va (dx_add (r := (1 + (cntP (cs.map Prod.fst) : Int)) + (sizeD (r199.1.length : Int))) rfl rfl rfl (wrap64_id (by omega))) rfl rfl (Pu rfl (Va (dx_conv (r := sc) rfl Tryd.underlying5 Tryd.underlying3 rfl (wrap64_id (by omega))) rfl rfl (Va (dx_rem (r := sc % 100) rfl rfl rfl (by omega) (Int.tmod_eq_emod_of_nonneg (by omega))) rfl rfl (Va (dx_add (r := 8 + (sc % 100)) rfl rfl rfl (wrap64_id (by omega))) rfl rfl ?_)))))))
       refine Va (dx_quo (r := (8 + (sc % 100)) / 2) rfl rfl rfl (by omega) (by rw [Int.tdiv_eq_ediv_of_nonneg (by omega)]; exact (wrap64_id (by omega)))) rfl rfl (Va (dv_eJ (dx_gtr rfl rfl rfl) (congrArg Value.bool (decide_eq_false (by omega)))) rfl rfl (Pu rfl (Ni (hK265 (WC.condF rfl (Sq fun K266 hK266 => (Sq fun K267 hK267 => ?_)))))))
       refine Rg (Pu rfl (Va (dx_neq rfl rfl rfl) rfl rfl (Ni (hK267 (WC.condF rfl (WC.skip (hK266 ?_)))))))
       refine Sq fun K268 hK268 => (Rg (Pu rfl (Pu rfl (Va (dx_add (r := 1 + (cntP ((cs ++ [(r199.1, r199.2)]).map Prod.fst) : Int)) rfl rfl rfl (by rw [wrap64_id (by omega), List.map_append]; show _ = 1 + ((cntP (cs.map Prod.fst ++ [r199.1]) : Nat) : Int); omega)) rfl rfl (Pu rfl (Ni (hK268 ?_)))))))
       refine Rg (Pu rfl (Pu rfl (Pu rfl ?_)))
       refine Ge (dx_idxF j rfl ty_slice_31 rfl rfl h1 (by omega) (at_map (enc := encR) e200)) rfl rfl ?_
       rintro u269 _ ⟨rfl, p270⟩
       refine Va (dx_loadP rfl ty_one_40 rfl p270) rfl rfl ?_
       refine Ge (dx_lit1 (r := [r199.2]) rfl ty_ap_31 (by decide) (by decide) rfl (oc_one (hrs0 r199 hrm).one) rfl) rfl rfl ?_
       rintro u275 W271 ⟨k272, b273, z274⟩
       replace h1 := h1.below b273
       replace hj := hj.below b273
       replace k184 := k184.below b273
       replace k187 := k187.below b273
       replace k14 := k14.below b273
       replace k15 := k15.below b273
       replace hB := below_then hB b273
       replace hL := LL.below hL b273
       refine Ge (dx_apC (base := w.heap.size) (z := r199.1) (Cs := [(W164.heap.size, [t1, t2, .int .i64 (-1), .bool false]), (W175.heap.size, [.int .i64 0, .int .i64 1, .int .i64 (1 + (cntP (cs.map Prod.fst) : Int))]), (B14, [t1n, t2n, .int .i64 (-1), .bool false]), (B15, [.int .i64 0, .int .i64 1, .int .i64 (1 + (cntP ((cs ++ [(r199.1, r199.2)]).map Prod.fst) : Int))])]) rfl ty_ap_31 rfl rfl hj (k272.rd (L := []) (by simp)) (hrs0 r199 hrm).one (by unfold maxLen; omega) (by omega) hB.size hL (fun c hc => by simp only [List.mem_cons, List.not_mem_nil, or_false] at hc; rcases hc with rfl | rfl | rfl | rfl; exact ⟨k184, (.tail _ (.tail _ (.tail _ (.head _))))⟩; exact ⟨k187, (.tail _ (.tail _ (.head _)))⟩; exact ⟨k14, (.tail _ (.head _))⟩; exact ⟨k15, (.head _)⟩)) rfl rfl ?_
       rintro u276 W277 ⟨hj2, b278, z279, hk280⟩
       replace k184 := hk280 _ (.head _)
       replace k187 := hk280 _ (.tail _ (.head _))
       replace k14 := hk280 _ (.tail _ (.tail _ (.head _)))
       replace k15 := hk280 _ (.tail _ (.tail _ (.tail _ (.head _))))
       replace hB := hB.trans b278
       replace hL : LL (B15 :: B14 :: W175.heap.size :: W164.heap.size :: L) W277 := fun x hx => Nat.lt_of_lt_of_le (hL x hx) z279
       replace hj := hj2
       replace h1 := RdF.moreL h10 hB (B15 :: B14 :: W175.heap.size :: W164.heap.size :: L) (fun x_ hx_ => by simp only [List.mem_cons] at hx_; rcases hx_ with rfl | rfl | rfl | rfl | hx_; exact .inr l255; exact .inr l254; exact .inr l181; exact .inr l169; exact .inl hx_)
       refine Pu rfl (Ni (hK261 ?_))
       refine WC.drawC 3 [(2, W164.heap.size, [t1, t2, .int .i64 (-1), .bool false], fun cs_ _ => cs_ = [t1n, t2n, .int .i64 (-1), .bool false])] [(some 120, .is (.agg #[t1n, t2n, .int .i64 (-1), .bool false])), (some 121, .is (.agg #[.int .i64 0, .int .i64 1, .int .i64 (1 + (cntP ((cs ++ [(r199.1, r199.2)]).map Prod.fst) : Int))])), (none, .by fun _ _ => True)] [[], [], [0, 0]] ⟨fun _ _ _ _ h => h, trivial⟩ (fun e he => by simp only [List.mem_cons, List.not_mem_nil, or_false] at he; subst he; exact ⟨fun _ _ _ _ h => h, trivial⟩) ⟨fun x hx => (by cases hx), trivial⟩ (monQ_nil (fun e he => by simp only [List.mem_cons, List.not_mem_nil, or_false] at he; subst he; exact ⟨_, rfl⟩)) (fun e he => by simp only [List.mem_cons, List.not_mem_nil, or_false] at he; subst he; exact k184) ?_ ?_
       ·
        refine DStepsC.cons rfl (fun Wd hd hbs_ => ?_) ?_
        ·
         have k14 := k14.chgM hd (by simp only [List.map_cons, List.map_nil, List.mem_cons, List.not_mem_nil, or_false, not_or]; exact n249.symm)
         exact Dd (dx_loadN rfl ty_agg_25_4 rfl k14.range rfl) rfl
        refine DStepsC.cons rfl (fun Wd hd hbs_ => ?_) ?_
        ·
         have k15 := k15.chgM hd (by simp only [List.map_cons, List.map_nil, List.mem_cons, List.not_mem_nil, or_false, not_or]; exact n250.symm)
         exact Dd (dx_loadN rfl ty_agg_30_3 rfl k15.range rfl) rfl
        refine DStepsC.hit rfl (fun Wd hd hb_ => ?_) ?_
        ·
         have hj := hj.chgM hd (fun C hC => by simp only [List.map_cons, List.map_nil, List.mem_cons, List.not_mem_nil, or_false] at hC; subst hC; exact (.tail _ (.tail _ (.tail _ (.head _)))))
         exact (dx_storeW (vs := [t1n, t2n, .int .i64 (-1), .bool false]) rfl ty_size_25_4 rfl rfl rfl (oC hj.one1 (oC hj.one2 (oC rfl (oC rfl oc_nil)))) hb_ rfl rfl).mono (fun _ W' h => ⟨h.2, QBlk.is h.1, trivial⟩)
        exact trivial
       ·
        intro W281 hd hq_
        replace h1 := h1.chgM hd (fun C hC => by simp only [List.map_cons, List.map_nil, List.mem_cons, List.not_mem_nil, or_false] at hC; subst hC; exact (.tail _ (.tail _ (.tail _ (.head _)))))
        replace hj := hj.chgM hd (fun C hC => by simp only [List.map_cons, List.map_nil, List.mem_cons, List.not_mem_nil, or_false] at hC; subst hC; exact (.tail _ (.tail _ (.tail _ (.head _)))))
        replace k187 := k187.chgM hd (by simp only [List.map_cons, List.map_nil, List.mem_cons, List.not_mem_nil, or_false, not_or]; exact n180.symm)
        replace k14 := k14.chgM hd (by simp only [List.map_cons, List.map_nil, List.mem_cons, List.not_mem_nil, or_false, not_or]; exact n249.symm)
        replace k15 := k15.chgM hd (by simp only [List.map_cons, List.map_nil, List.mem_cons, List.not_mem_nil, or_false, not_or]; exact n250.symm)
        have k282 := hq_ _ (.head _)
        replace k282 := QBlk.blk k282
        replace hB := hd.toBelow hB (fun C hC => by simp only [List.map_cons, List.map_nil, List.mem_cons, List.not_mem_nil, or_false] at hC; subst hC; exact l169)
        replace hL := hL.chgM hd
        intro _ _
        refine WL.do (dx_store (cs' := [.int .i64 0, .int .i64 1, .int .i64 (1 + (cntP ((cs ++ [(r199.1, r199.2)]).map Prod.fst) : Int))]) (vs := [.int .i64 0, .int .i64 1, .int .i64 (1 + (cntP ((cs ++ [(r199.1, r199.2)]).map Prod.fst) : Int))]) rfl ty_size_30_3 rfl rfl rfl (oC rfl (oC rfl (oC rfl oc_nil))) k187 rfl (nB rfl) rfl) rfl ?_
        rintro _ W283 ⟨k285, o284⟩
        replace k282 := k282.other o284 n180
        clear k187
        replace h1 := h1.only o284 (.tail _ (.tail _ (.head _)))
        replace hj := hj.only o284 (.tail _ (.tail _ (.head _)))
        replace hB := o284.below hB l181
        replace hL := LL.only hL o284
        refine Ni (hK197 (Rg (Pu rfl (Va (dx_add (r := (j : Int) + 1) rfl rfl rfl (wrap64_id (by omega))) rfl rfl (Pu rfl (Ni ?_))))))
        replace hL := hL.less (fun x hx => (.tail _ (.tail _ hx)))
        replace h1 := h1.less (fun x hx => (.tail _ (.tail _ hx)))
        replace hj := hj.less (fun x hx => (.tail _ (.tail _ hx)))
        exact hK192 (j + 1) SN t1n t2n u276 (cs ++ [(r199.1, r199.2)]) ⟨(by omega), (by rw [List.map_append]; exact oN), (fun r_ hr_ => by rcases List.mem_append.1 hr_ with h_ | h_; exact hcs r_ h_; rw [List.mem_singleton.1 h_]; exact hrm), hB, hL, h1, hj, k282, k285⟩ (by omega) (by repeat first | exact trivial | refine aR ?_ | refine aI (by omega) ?_)
    ·
     replace c196 := dF c196
     refine WC.exit ?_
     refine hK190 (Sq fun K286 hK286 => ?_)
     have hsm := hO.small
     refine Rg (Va (dx_loadN rfl ty_agg_25_4 rfl k184.range rfl) rfl rfl ?_)
     refine Ge (dx_cv rfl Tryd.func14 rfl rfl rfl (records_v S [] (-1) false _ _ 0 W193 [] (LL.nil _) (hj.rd1.less (fun x hx => by cases hx)) (hj.rd2.less (fun x hx => by cases hx)) hO.byt (hT.below hB))) rfl rfl ?_
     rintro _ W288 ⟨⟨rs2, lv2, g2, b2, rfl, h7, hs7, hy7, hu7⟩, b287⟩
     replace hj := hj.below b287
     replace k187 := k187.below b287
     replace hB := below_then hB b287
     obtain ⟨rfl, hrl2, rfl⟩ := hu7.of (hO.recs rfl)
     refine Pu rfl (Pu rfl (Pu rfl (Pu rfl (Pu rfl (Pu rfl (Pu rfl (Ni ?_)))))))
     refine hK286 (Sq fun K289 hK289 => ?_)
     have hlo := len_of hrl2 (rfl : cs.map Prod.fst = _)
     have hc2 := cnt_len hrl2
     refine Rg (Pu rfl (Va (dx_eql rfl rfl rfl) rfl rfl (Pu rfl (Pu rfl (Va (dx_eql rfl rfl rfl) rfl rfl (Pu rfl (Pu rfl ?_)))))))
     refine Pu rfl (Pu rfl (Pu rfl (Pu rfl (Va (dx_eql rfl rfl rfl) rfl rfl (Pu rfl (Pu rfl (Va (dx_fld (o1 := 2) rfl ty_fld_30_2_2 rfl rfl) rfl rfl ?_)))))))
     refine Va (dx_load rfl ty_one_3 rfl (k187.cell (k := 2) rfl)) rfl rfl (Pu rfl (Va (dv_T (dx_eql rfl rfl rfl) rfl) rfl rfl (Pu rfl (Pu rfl (Pu rfl (Pu rfl ?_))))))
     refine Ge (dx_cv rfl Tryd.func17 rfl rfl rfl (same_v rs2 cs _ _ W288 [] (LL.nil _) h7 hs7 hj.rdc (fun r_ hr_ => ((hrs0 r_ (hcs r_ hr_)).below hB).less (fun x hx => by cases hx)) hlo.1 hlo.2 (by omega))) rfl rfl ?_
     rintro _ W291 ⟨rfl, b290⟩
     replace hB := below_then hB b290
     refine Pu rfl (Pu rfl (Ni (hK289 ?_)))
     exact WC.ret fun a_ ha_ => hQ (cv_ret1 rfl (.tmp rfl) rfl hB ha_)

end Go.Proofs.YtfachlmgdlnpoaaDoor
