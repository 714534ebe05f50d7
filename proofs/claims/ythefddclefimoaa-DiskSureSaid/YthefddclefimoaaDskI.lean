/- What DiskSure reckons with. -/
import Derived.Test.YthefddclefimoaaDskG
import Derived.Test.YthefddclefimoaaDrR
namespace Go.Proofs.Ythefddclefimoaa
open Go.RowKit
set_option linter.unusedVariables false
set_option linter.unusedSimpArgs false
set_option maxRecDepth 8000

/-- A sector that is all the same. -/
def fillS (x : Int) : List Int := List.replicate 128 x
theorem fillS_len (x : Int) : (fillS x).length = 128 := by simp [fillS]
def lastS (sure : List Int) (ws : List (Int × Int)) : List Int := ws.foldl (fun l p => l.set p.1.toNat p.2) sure
def sinceS (ws : List (Int × Int)) : List Int := ws.foldl (fun l p => l.set p.1.toNat ((l[p.1.toNat]?.getD 0) + 1)) (List.replicate 8 0)
def wrS (p : Int × Int) : Int × List Int := (p.1, fillS p.2)
def cntS (a : Nat) (ws : List (Int × Int)) : Nat := (ws.filter fun p => p.1.toNat == a).length
theorem lastS_app (sure : List Int) (ws : List (Int × Int)) (p : Int × Int) : lastS sure (ws ++ [p]) = (lastS sure ws).set p.1.toNat p.2 := by simp [lastS]
theorem sinceS_app (ws : List (Int × Int)) (p : Int × Int) : sinceS (ws ++ [p]) = (sinceS ws).set p.1.toNat (((sinceS ws)[p.1.toNat]?.getD 0) + 1) := by simp [sinceS]
theorem cntS_app (a : Nat) (ws : List (Int × Int)) (p : Int × Int) : cntS a (ws ++ [p]) = cntS a ws + (if p.1.toNat = a then 1 else 0) := by
  unfold cntS
  rw [List.filter_append, List.length_append]
  by_cases h : p.1.toNat = a <;> simp [h]
theorem cntS_cons (a : Nat) (ws : List (Int × Int)) (p : Int × Int) : cntS a (p :: ws) = (if p.1.toNat = a then 1 else 0) + cntS a ws := by
  unfold cntS
  by_cases h : p.1.toNat = a
  · simp [h]; omega
  · simp [h]
theorem lastS_len (sure : List Int) (ws : List (Int × Int)) : (lastS sure ws).length = sure.length := by
  induction ws generalizing sure with
  | nil => rfl
  | cons p ws ih =>
    show (lastS (sure.set p.1.toNat p.2) ws).length = _
    rw [ih, List.length_set]
theorem list_snoc {α : Type} {P : List α → Prop} (h0 : P []) (h1 : ∀ l x, P l → P (l ++ [x])) (l : List α) : P l := by
  have key : ∀ l : List α, P l.reverse := by
    intro l
    induction l with
    | nil => exact h0
    | cons x l ih => rw [List.reverse_cons]; exact h1 _ _ ih
  have := key l.reverse
  rwa [List.reverse_reverse] at this
theorem sinceS_len (ws : List (Int × Int)) : (sinceS ws).length = 8 := by
  refine list_snoc (P := fun ws => (sinceS ws).length = 8) (by simp [sinceS]) (fun l x ih => ?_) ws
  rw [sinceS_app, List.length_set]
  exact ih
theorem since_cnt {a : Nat} (ha : a < 8) (ws : List (Int × Int)) : (sinceS ws)[a]?.getD 0 = (cntS a ws : Int) := by
  refine list_snoc (P := fun ws => (sinceS ws)[a]?.getD 0 = (cntS a ws : Int)) ?_ (fun l x ih => ?_) ws
  · have : ∀ a, a < 8 → (List.replicate 8 (0 : Int))[a]?.getD 0 = 0 := fun a h => by rw [List.getElem?_replicate, if_pos h]; rfl
    simpa [sinceS, cntS] using this a ha
  · rw [sinceS_app, cntS_app]
    by_cases h : x.1.toNat = a
    · subst h
      rw [List.getElem?_set_self (by rw [sinceS_len]; exact ha), if_pos rfl]
      simp only [Option.getD_some]
      rw [ih]
      omega
    · rw [List.getElem?_set_ne h, if_neg h, ih]
      simp
theorem last0 {a : Nat} : ∀ (ws : List (Int × Int)) (sure : List Int), cntS a ws = 0 → (lastS sure ws)[a]? = sure[a]?
  | [], sure, _ => rfl
  | p :: ws, sure, h => by
    rw [cntS_cons] at h
    have hne : p.1.toNat ≠ a := fun e => by rw [if_pos e] at h; omega
    show (lastS (sure.set p.1.toNat p.2) ws)[a]? = _
    rw [last0 ws _ (by omega), List.getElem?_set_ne hne]
theorem setl0 {tk : Nat → List Int → List Int → List Int} {a : Nat} : ∀ (ws : List (Int × Int)) (cur : List (List Int)) (i : Nat), cntS a ws = 0 → (settleS tk (ws.map wrS) cur i)[a]? = cur[a]?
  | [], cur, i, _ => rfl
  | p :: ws, cur, i, h => by
    rw [cntS_cons] at h
    have hne : p.1.toNat ≠ a := fun e => by rw [if_pos e] at h; omega
    show (settleS tk (ws.map wrS) (cur.set (wrS p).1.toNat _) (i + 1))[a]? = _
    rw [setl0 ws _ _ (by omega), List.getElem?_set_ne (show (wrS p).1.toNat ≠ a from hne)]
theorem setl1 {tk : Nat → List Int → List Int → List Int} {a : Nat} : ∀ (ws : List (Int × Int)) (cur : List (List Int)) (i : Nat), a < cur.length → cntS a ws = 1 → ∃ j v, (settleS tk (ws.map wrS) cur i)[a]? = some (tk j (cur[a]?.getD []) (fillS v)) ∧ ∀ sure : List Int, a < sure.length → (lastS sure ws)[a]? = some v
  | [], cur, i, _, h => by simp [cntS] at h
  | p :: ws, cur, i, hl, h => by
    rw [cntS_cons] at h
    by_cases e : p.1.toNat = a
    · rw [if_pos e] at h
      refine ⟨i, p.2, ?_, fun sure hs => ?_⟩
      · show (settleS tk (ws.map wrS) (cur.set (wrS p).1.toNat (tk i (cur[(wrS p).1.toNat]?.getD []) (wrS p).2)) (i + 1))[a]? = _
        rw [setl0 ws _ _ (by omega)]
        show (cur.set p.1.toNat (tk i (cur[p.1.toNat]?.getD []) (fillS p.2)))[a]? = _
        rw [e, List.getElem?_set_self hl]
      · show (lastS (sure.set p.1.toNat p.2) ws)[a]? = _
        rw [last0 ws _ (by omega), e, List.getElem?_set_self hs]
    · rw [if_neg e] at h
      obtain ⟨j, v, h1, h2⟩ := setl1 (tk := tk) ws (cur.set (wrS p).1.toNat (tk i (cur[(wrS p).1.toNat]?.getD []) (wrS p).2)) (i + 1) (by rw [List.length_set]; exact hl) (by omega)
      refine ⟨j, v, ?_, fun sure hs => ?_⟩
      · show (settleS tk (ws.map wrS) (cur.set (wrS p).1.toNat _) (i + 1))[a]? = _
        rw [h1, List.getElem?_set_ne (show (wrS p).1.toNat ≠ a from e)]
      · show (lastS (sure.set p.1.toNat p.2) ws)[a]? = _
        exact h2 _ (by rw [List.length_set]; exact hs)
theorem torn_0 (old z : List Int) : tornS old z 0 = old := by simp [tornS]
theorem torn_all {old z : List Int} (h1 : old.length = 128) (h2 : z.length = 128) : tornS old z 128 = z := by
  unfold tornS
  rw [List.take_of_length_le (by omega), List.drop_eq_nil_of_le (by omega), List.append_nil]
theorem fate_torn (fs : List (Int × Int)) (j : Nat) {old z : List Int} (h1 : old.length = 128) (h2 : z.length = 128) : ∃ k, k ≤ 128 ∧ fateS fs j old z = tornS old z k := by
  unfold fateS
  split
  · exact ⟨0, by omega, (torn_0 old z).symm⟩
  · split
    · exact ⟨0, by omega, (torn_0 old z).symm⟩
    · split
      · exact ⟨128, by omega, (torn_all h1 h2).symm⟩
      · split
        · exact ⟨_, by omega, rfl⟩
        · exact ⟨0, by omega, (torn_0 old z).symm⟩
/-- The sectors behind the fall. -/
def finS (fs : List (Int × Int)) (sure : List Int) (ws : List (Int × Int)) : List (List Int) := settleS (fateS fs) (ws.map wrS) (sure.map fillS) 0
theorem settle_len {tk : Nat → List Int → List Int → List Int} : ∀ (l : List (Int × List Int)) (cur : List (List Int)) (i : Nat), (settleS tk l cur i).length = cur.length
  | [], cur, i => rfl
  | p :: l, cur, i => by rw [settleS, settle_len l, List.length_set]
theorem sure_at {sure : List Int} {a : Nat} (h : a < sure.length) : (sure.map fillS)[a]?.getD [] = fillS (sure[a]?.getD 0) := by
  rw [List.getElem?_map, List.getElem?_eq_getElem h]; rfl
theorem end0 {fs : List (Int × Int)} {sure : List Int} {ws : List (Int × Int)} {a : Nat} {r : List Int} (hs : sure.length = 8) (ha : a < 8) (h : (sinceS ws)[a]?.getD 0 = 0) (hr : (finS fs sure ws)[a]? = some r) : r = fillS (sure[a]?.getD 0) := by
  rw [since_cnt ha] at h
  unfold finS at hr
  rw [setl0 ws _ _ (by omega), List.getElem?_map, List.getElem?_eq_getElem (by omega)] at hr
  simp at hr
  rw [List.getElem?_eq_getElem (by omega)]
  exact hr.symm
theorem end1 {fs : List (Int × Int)} {sure : List Int} {ws : List (Int × Int)} {a : Nat} {r : List Int} (hs : sure.length = 8) (ha : a < 8) (h : (sinceS ws)[a]?.getD 0 = 1) (hr : (finS fs sure ws)[a]? = some r) : ∃ k, k ≤ 128 ∧ r = tornS (fillS (sure[a]?.getD 0)) (fillS ((lastS sure ws)[a]?.getD 0)) k := by
  rw [since_cnt ha] at h
  unfold finS at hr
  obtain ⟨j, v, h1, h2⟩ := setl1 (tk := fateS fs) (a := a) ws (sure.map fillS) 0 (by rw [List.length_map]; omega) (by omega)
  rw [h1, sure_at (by omega)] at hr
  rw [h2 sure (by omega)]
  simp only [Option.some.injEq] at hr
  obtain ⟨k, hk, he⟩ := fate_torn fs j (old := fillS (sure[a]?.getD 0)) (z := fillS v) (fillS_len _) (fillS_len _)
  exact ⟨k, hk, by rw [← hr, he]; rfl⟩
theorem torn_lo {x y : Int} {k i : Nat} (hk : k ≤ 128) (hi : i < k) : (tornS (fillS x) (fillS y) k)[i]?.getD 0 = y := by
  unfold tornS fillS
  rw [List.getElem?_append_left (by simp; omega), List.getElem?_take, if_pos hi, List.getElem?_replicate, if_pos (by omega)]
  rfl
theorem torn_hi {x y : Int} {k i : Nat} (hk : k ≤ 128) (hi : k ≤ i) (h2 : i < 128) : (tornS (fillS x) (fillS y) k)[i]?.getD 0 = x := by
  unfold tornS fillS
  rw [List.getElem?_append_right (by simp; omega), List.getElem?_drop, List.getElem?_replicate, if_pos (by simp; omega)]
  rfl
theorem exit_first {b : Bool} {i k : Nat} {r : List Int} {x y : Int} (hb : b = decide ((i : Int) < 128)) (h : (b && decide (r[i]?.getD 0 = y)) = false) (hr : r = tornS (fillS x) (fillS y) k) (hk : k ≤ 128) : k ≤ i := by
  rcases Nat.lt_or_ge i k with hlt | hge
  · rw [hr, torn_lo hk hlt, hb] at h
    simp at h
    omega
  · exact hge
theorem exit_second {b : Bool} {i k : Nat} {r : List Int} {x y : Int} (hb : b = decide ((i : Int) < 128)) (h : (b && decide (r[i]?.getD 0 = x)) = false) (hr : r = tornS (fillS x) (fillS y) k) (hk : k ≤ 128) (hi : k ≤ i) : ¬ (i : Int) < 128 := fun hlt => by
  rw [hr, torn_hi hk hi (by omega), hb] at h
  simp at h
  omega
theorem settle_fill : ∀ (ws : List (Int × Int)) (sure : List Int) (i : Nat), settleS (fun _ _ z => z) (ws.map wrS) (sure.map fillS) i = (lastS sure ws).map fillS
  | [], sure, i => rfl
  | p :: ws, sure, i => by
    show settleS _ (ws.map wrS) ((sure.map fillS).set p.1.toNat (fillS p.2)) (i + 1) = (lastS (sure.set p.1.toNat p.2) ws).map fillS
    rw [← List.map_set, settle_fill ws]
theorem right_state {sure : List Int} {ws : List (Int × Int)} (hs : sure.length = 8) (hw : ws.length ≤ 100) (ha : ∀ p ∈ ws, 0 ≤ p.1 ∧ p.1 < 8) : rightD (sure.map fillS) (ws.map wrS) = true := by
  unfold rightD
  have e : ((ws.map wrS).any fun p => !hasB (sure.map fillS) p.1) = false := by
    rw [List.any_eq_false]
    intro p hp
    obtain ⟨q, hq, rfl⟩ := List.mem_map.1 hp
    have := ha q hq
    have hb : hasB (sure.map fillS) (wrS q).1 = true := has_yes (by show ¬ q.1 < 0; omega) (by rw [List.length_map, hs]; show ¬ ((8 : Nat) : Int) ≤ q.1; omega)
    simp [hb]
  rw [e, List.length_map, List.length_map, hs]
  simp
  omega
/-- What the disk's functions give, for this state. -/
theorem sync_9 {secs : List (List Int)} {loose : List (Int × List Int)} {fuse : Int} {down : Bool} (h : rightD secs loose = true) (hd : down = false) (hf : fuse = 0) : syncS secs loose fuse down = ⟨secs, loose, 0, true, 9⟩ := by
  subst hd hf
  unfold syncS
  simp [h, burnS]
theorem sync_0 {secs : List (List Int)} {loose : List (Int × List Int)} {fuse : Int} {down : Bool} (h : rightD secs loose = true) (hd : down = false) (hf : 0 < fuse) : syncS secs loose fuse down = ⟨settleS (fun _ _ z => z) loose secs 0, [], fuse - 1, false, 0⟩ := by
  subst hd
  have : fuse ≠ 0 := by omega
  unfold syncS
  simp [h, burnS, this, hf]
theorem writ_9 {secs : List (List Int)} {loose : List (Int × List Int)} {fuse : Int} {down : Bool} {a : Int} {z : List Int} (h : rightD secs loose = true) (ha : hasB secs a = true) (hl : loose.length ≤ 100) (hd : down = false) (hf : fuse = 0) : writeS secs loose fuse down a z = ⟨secs, loose, 0, true, 9⟩ := by
  subst hd hf
  have : ¬ (loose.length : Int) = 4096 := by omega
  unfold writeS
  simp only [h, ha, this, burnS]
  simp
theorem writ_0 {secs : List (List Int)} {loose : List (Int × List Int)} {fuse : Int} {down : Bool} {a : Int} {z : List Int} (h : rightD secs loose = true) (ha : hasB secs a = true) (hl : loose.length ≤ 100) (hd : down = false) (hf : 0 < fuse) : writeS secs loose fuse down a z = ⟨secs, loose ++ [(a, z)], fuse - 1, false, 0⟩ := by
  subst hd
  have h1 : ¬ (loose.length : Int) = 4096 := by omega
  have h2 : fuse ≠ 0 := by omega
  unfold writeS
  simp only [h, ha, h1, burnS, h2, hf]
  simp
section
variable {w : World} {L : List Nat} {sure : List Int} {ws : List (Int × Int)} {fuse : Int} {down : Bool} {s1 s2 : Value}
variable (hL : LL L w) (h1 : RdF 128 L w s1 ((sure.map fillS).map encS)) (h2 : RdF 129 L w s2 ((ws.map wrS).map encW)) (hs : sure.length = 8) (hw : ws.length ≤ 100) (ha : ∀ p ∈ ws, 0 ≤ p.1 ∧ p.1 < 8) (hf : 0 ≤ fuse ∧ fuse ≤ 255)
include hL h1 h2 hs hw ha hf
omit hf in
theorem sync_c9 (hd : down = false) (hz : fuse = 0) : CV Try.prog 20 [.agg #[s1, s2, .int .i64 fuse, .bool down]] w fun v W => ∃ s1' s2', v = .tuple #[.agg #[s1', s2', .int .i64 0, .bool true], .int .i64 9] ∧ RdF 128 L W s1' ((sure.map fillS).map encS) ∧ RdF 129 L W s2' ((ws.map wrS).map encW) := by
  have := sync_v (sure.map fillS) (ws.map wrS) fuse down s1 s2 w L hL h1 h2 hL ⟨by omega, by omega⟩
  rwa [sync_9 (right_state hs hw ha) hd hz] at this
theorem sync_c0 (hd : down = false) (hz : 0 < fuse) : CV Try.prog 20 [.agg #[s1, s2, .int .i64 fuse, .bool down]] w fun v W => ∃ s1' s2', v = .tuple #[.agg #[s1', s2', .int .i64 (fuse - 1), .bool false], .int .i64 0] ∧ RdF 128 L W s1' (((lastS sure ws).map fillS).map encS) ∧ RdF 129 L W s2' ((([] : List (Int × Int)).map wrS).map encW) := by
  have := sync_v (sure.map fillS) (ws.map wrS) fuse down s1 s2 w L hL h1 h2 hL ⟨by omega, by omega⟩
  rwa [sync_0 (right_state hs hw ha) hd hz, settle_fill] at this
omit hf in
theorem writ_c9 (hd : down = false) (hz : fuse = 0) (a x : Int) (ha2 : 0 ≤ a ∧ a < 8) : CV Try.prog 11 [.agg #[s1, s2, .int .i64 fuse, .bool down], .int .i64 a, .agg (encS (fillS x)).toArray] w fun v W => ∃ s1' s2', v = .tuple #[.agg #[s1', s2', .int .i64 0, .bool true], .int .i64 9] ∧ RdF 128 L W s1' ((sure.map fillS).map encS) ∧ RdF 129 L W s2' ((ws.map wrS).map encW) := by
  have := write_v (sure.map fillS) (ws.map wrS) fuse down s1 s2 a (fillS x) w L hL h1 h2 hL ⟨by omega, by omega⟩ (fillS_len x)
  rwa [writ_9 (right_state hs hw ha) (has_yes (by omega) (by rw [List.length_map, hs]; omega)) (by rw [List.length_map]; exact hw) hd hz] at this
theorem writ_c0 (hd : down = false) (hz : 0 < fuse) (a x : Int) (ha2 : 0 ≤ a ∧ a < 8) : CV Try.prog 11 [.agg #[s1, s2, .int .i64 fuse, .bool down], .int .i64 a, .agg (encS (fillS x)).toArray] w fun v W => ∃ s1' s2', v = .tuple #[.agg #[s1', s2', .int .i64 (fuse - 1), .bool false], .int .i64 0] ∧ RdF 128 L W s1' ((sure.map fillS).map encS) ∧ RdF 129 L W s2' (((ws ++ [(a, x)]).map wrS).map encW) := by
  have := write_v (sure.map fillS) (ws.map wrS) fuse down s1 s2 a (fillS x) w L hL h1 h2 hL ⟨by omega, by omega⟩ (fillS_len x)
  rw [writ_0 (right_state hs hw ha) (has_yes (by omega) (by rw [List.length_map, hs]; omega)) (by rw [List.length_map]; exact hw) hd hz] at this
  have e : (ws ++ [(a, x)]).map wrS = ws.map wrS ++ [(a, fillS x)] := by simp [wrS]
  rw [e]
  exact this
theorem fall_c {fv : Value} {fs : List (Int × Int)} (h3 : RdF 2 L w fv (fs.map encF)) (hfs : ∀ f ∈ fs, 0 ≤ f.1 ∧ f.1 ≤ 255 ∧ 0 ≤ f.2 ∧ f.2 ≤ 255) : CV Try.prog 18 [.agg #[s1, s2, .int .i64 fuse, .bool down], fv, .int .i64 (-1)] w fun v W => ∃ s1' s2', v = .tuple #[.agg #[s1', s2', .int .i64 (-1), .bool false], .int .i64 0] ∧ RdF 128 L W s1' ((finS fs sure ws).map encS) ∧ RdF 129 L W s2' (([] : List (Int × List Int)).map encW) := by
  have := fall_v (sure.map fillS) (ws.map wrS) fuse down s1 s2 fv fs (-1) w L hL h1 h2 h3 hL ⟨by omega, by omega⟩ hfs
  rwa [show fallS (sure.map fillS) (ws.map wrS) fuse down fs (-1) = ⟨finS fs sure ws, [], -1, false, 0⟩ from by unfold fallS; rw [if_neg (by simp [right_state hs hw ha])]; rfl] at this
end
theorem new_c (w : World) (L : List Nat) (hL : LL L w) : CV Try.prog 24 [.int .i64 8] w fun v W => ∃ s1' s2', v = .tuple #[.agg #[s1', s2', .int .i64 (-1), .bool false], .int .i64 0] ∧ RdF 128 L W s1' (((List.replicate 8 (0 : Int)).map fillS).map encS) ∧ RdF 129 L W s2' ((([] : List (Int × Int)).map wrS).map encW) := new_v 8 w L hL hL
theorem read_c {w : World} {L : List Nat} {secs : List (List Int)} {s1 s2 : Value} (hL : LL L w) (h1 : RdF 128 L w s1 (secs.map encS)) (h2 : RdF 129 L w s2 (([] : List (Int × List Int)).map encW)) (hs : secs.length = 8) (fuse : Int) {a : Nat} (ha : a < 8) : CV Try.prog 13 [.agg #[s1, s2, .int .i64 fuse, .bool false], .int .i64 (a : Int)] w fun v W => ∃ r, secs[a]? = some r ∧ r.length = 128 ∧ v = .tuple #[.agg (encS r).toArray, .int .i64 0] := by
  obtain ⟨r, hr⟩ : ∃ r, secs[a]? = some r := ⟨_, List.getElem?_eq_getElem (by omega)⟩
  have e : readS secs [] false (a : Int) = (r, 0) := by
    have hR : rightD secs [] = true := by unfold rightD; simp [hs]
    unfold readS
    rw [hR, has_yes (by omega) (by omega)]
    simp [lookN, hr]
  have := read_v secs [] fuse false s1 s2 (a : Int) w L hL h1 h2
  rw [e] at this
  exact this.mono fun v W _ hv => ⟨r, hr, rdf_S h1 hr, hv⟩
def encI (z : List Int) : List Value := z.map (Value.int .i64)
theorem encI_len (z : List Int) : (encI z).length = z.length := by simp [encI]
theorem oc_I (z : List Int) : ∀ u ∈ encI z, u.oneCell' = true := fun u hu => by
  obtain ⟨n, _, rfl⟩ := List.mem_map.1 hu
  rfl
theorem cellS {z : List Int} {i : Nat} (h : i < z.length) : (encS z)[i]? = some (.int .u8 (z[i]?.getD 0)) := by simp [encS, h]
theorem cellI {z : List Int} {i : Nat} (h : i < z.length) : (encI z)[i]? = some (.int .i64 (z[i]?.getD 0)) := by simp [encI, h]
theorem setS {z : List Int} {k : Nat} {y : Int} (h : k < z.length) : (encS z).take k ++ ([.int .u8 y] ++ (encS z).drop (k + 1)) = encS (z.set k y) := by
  unfold encS
  rw [← List.map_take, ← List.map_drop, List.set_eq_take_append_cons_drop, if_pos h]
  simp
theorem setI {z : List Int} {k : Nat} {y : Int} (h : k < z.length) : (encI z).take k ++ ([.int .i64 y] ++ (encI z).drop (k + 1)) = encI (z.set k y) := by
  unfold encI
  rw [← List.map_take, ← List.map_drop, List.set_eq_take_append_cons_drop, if_pos h]
  simp
theorem since_le {ws : List (Int × Int)} {a : Nat} (ha : a < 8) : 0 ≤ (sinceS ws)[a]?.getD 0 ∧ (sinceS ws)[a]?.getD 0 ≤ ws.length := by
  rw [since_cnt ha]
  have : cntS a ws ≤ ws.length := List.length_filter_le _ _
  omega
theorem fill_at {x : Int} {i : Nat} (h : i < 128) : (fillS x)[i]? = some x := by
  unfold fillS
  rw [List.getElem?_replicate, if_pos h]
theorem fill_all (x : Int) : tornS z0 (fillS x) 128 = fillS x := torn_all z0_len (fillS_len x)
/-- A disk in this state; it and an error. -/
def OutD (L : List Nat) (W : World) (sure : List Int) (ws : List (Int × Int)) (fuse : Int) (down : Bool) (u : Value) : Prop := ∃ s1 s2, u = .agg #[s1, s2, .int .i64 fuse, .bool down] ∧ RdF 128 L W s1 ((sure.map fillS).map encS) ∧ RdF 129 L W s2 ((ws.map wrS).map encW)
def WrD (L : List Nat) (W : World) (sure : List Int) (ws : List (Int × Int)) (fuse : Int) (down : Bool) (err : Int) (u : Value) : Prop := ∃ d, u = .tuple #[d, .int .i64 err] ∧ OutD L W sure ws fuse down d
theorem OutD.below {L : List Nat} {W W' : World} {sure : List Int} {ws : List (Int × Int)} {fuse : Int} {down : Bool} {u : Value} (h : OutD L W sure ws fuse down u) (hb : Below W.heap.size W W') : OutD L W' sure ws fuse down u := by
  obtain ⟨s1, s2, h1, h2, h3⟩ := h
  exact ⟨s1, s2, h1, h2.below hb, h3.below hb⟩
theorem WrD.below {L : List Nat} {W W' : World} {sure : List Int} {ws : List (Int × Int)} {fuse : Int} {down : Bool} {err : Int} {u : Value} (h : WrD L W sure ws fuse down err u) (hb : Below W.heap.size W W') : WrD L W' sure ws fuse down err u := by
  obtain ⟨d, h1, h2⟩ := h
  exact ⟨d, h1, h2.below hb⟩
theorem OutD.wr {base t : Nat} {L : List Nat} {W W' : World} {sure : List Int} {ws : List (Int × Int)} {fuse : Int} {down : Bool} {u : Value} (h : OutD L W sure ws fuse down u) (hw : WrT base t 4 W W') : OutD L W' sure ws fuse down u := by
  obtain ⟨s1, s2, h1, h2, h3⟩ := h
  exact ⟨s1, s2, h1, h2.wr hw (by omega), h3.wr hw (by omega)⟩
theorem WrD.wr {base t : Nat} {L : List Nat} {W W' : World} {sure : List Int} {ws : List (Int × Int)} {fuse : Int} {down : Bool} {err : Int} {u : Value} (h : WrD L W sure ws fuse down err u) (hw : WrT base t 4 W W') : WrD L W' sure ws fuse down err u := by
  obtain ⟨d, h1, h2⟩ := h
  exact ⟨d, h1, h2.wr hw⟩
/-- A new disk in this state. -/
def NewD (L : List Nat) (base t : Nat) (sure : List Int) (ws : List (Int × Int)) (fuse : Int) (down : Bool) (u : Value) (W : World) : Prop := ∃ s1 s2, NewP base t [s1, s2, .int .i64 fuse, .bool down] u W ∧ RdF 128 L W s1 ((sure.map fillS).map encS) ∧ RdF 129 L W s2 ((ws.map wrS).map encW)
theorem NewD.below {L : List Nat} {base t : Nat} {W W' : World} {sure : List Int} {ws : List (Int × Int)} {fuse : Int} {down : Bool} {u : Value} (h : NewD L base t sure ws fuse down u W) (hb : Below W.heap.size W W') : NewD L base t sure ws fuse down u W' := by
  obtain ⟨s1, s2, h1, h2, h3⟩ := h
  exact ⟨s1, s2, h1.below hb, h2.below hb, h3.below hb⟩
structure DsSt where
  i : Nat
  sure : List Int
  ws : List (Int × Int)
  fuse : Int
  down : Bool
  s1 : Value
  s2 : Value
def encO (p : Bool × Int × Int) : List Value := [.bool p.1, .int .u8 p.2.1, .int .u8 p.2.2]
theorem arm_c {w : World} {L : List Nat} {secs : List (List Int)} {loose : List (Int × List Int)} {fuse : Int} {down : Bool} {s1 s2 : Value} (hL : LL L w) (h1 : RdF 128 L w s1 (secs.map encS)) (h2 : RdF 129 L w s2 (loose.map encW)) {n : Int} (hn : 0 ≤ n) : CV Try.prog 22 [.agg #[s1, s2, .int .i64 fuse, .bool down], .int .i64 n] w fun v W => v = .agg #[s1, s2, .int .i64 n, .bool down] := by
  have := arm_v secs loose fuse down s1 s2 n w L hL h1 h2
  rwa [if_neg (by omega)] at this
theorem builtI8 : Try.prog.built 47 [] = some (encI (sinceS [])).toArray := by kernel_rfl
theorem app_all {ws : List (Int × Int)} {a x : Int} (h : ∀ p ∈ ws, 0 ≤ p.1 ∧ p.1 < 8) (ha : 0 ≤ a ∧ a < 8) : ∀ p ∈ ws ++ [(a, x)], 0 ≤ p.1 ∧ p.1 < 8 := fun p hp => by
  rcases List.mem_append.1 hp with hp | hp
  · exact h p hp
  · rw [List.mem_singleton.1 hp]
    exact ha

set_option maxHeartbeats 1000000 in
theorem filled_v (x : Int) (w : World) (L : List Nat) (hL : LL L w)  : CV Try.prog 26 [.int .u8 x] w fun v W => v = .agg (encS (fillS x)).toArray := by
  refine cv_enter (N := 13) (f := [(0, .int .u8 x)]) Try.func26 rfl rfl rfl rfl fun Q hQ hE => ?_
  have hB := Below.refl w.heap.size w
  refine WC.seq fun K1 hK1 => ?_
  refine WC.region ?_
  refine WL.get (dx_alloc (cs := encS z0) rfl ty_zero_27 cells_z0) rfl rfl ?_
  rintro _ W2 ⟨rfl, k3, b4, z5⟩
  have l6 := hB.size
  replace hB := below_then hB b4
  replace hL := LL.more hL z5
  refine WL.nil ?_
  refine hK1 ?_
  refine WC.seq fun K7 hK7 => ?_
  refine WC.region ?_
  refine WL.get (dx_alloc (cs := encS z0) rfl ty_zero_27 cells_z0) rfl rfl ?_
  rintro _ W8 ⟨rfl, k9, b10, z11⟩
  have n12 : w.heap.size ≠ W2.heap.size := Nat.ne_of_lt k3.lt
  have l13 := hB.size
  replace k3 := k3.below b10
  replace hB := below_then hB b10
  replace hL := LL.more hL z11
  refine WL.nil ?_
  refine hK7 ?_
  refine WC.seq fun K14 hK14 => ?_
  refine WC.seq fun K15 hK15 => ?_
  refine WC.region ?_
  refine WL.val (dx_assign rfl rfl) rfl rfl ?_
  refine WL.nil ?_
  refine hK15 ?_
  refine WC.block ?_
  refine WC.loop (fun (i : Nat) => [(0, .int .u8 x), (2, .pointer (some ⟨w.heap.size, 0, none⟩)), (3, .pointer (some ⟨W2.heap.size, 0, none⟩)), (4, .int .i64 (i : Int))]) (fun (i : Nat) W => i ≤ 128 ∧ Below w.heap.size w W ∧ LL (W2.heap.size :: w.heap.size :: L) W ∧ Blk W w.heap.size (encS z0) ∧ Blk W W2.heap.size (encS (tornS z0 (fillS x) i))) (fun (i : Nat) => 128 - i) 0 (by repeat first | exact trivial | exact And.intro rfl trivial | refine And.intro rfl ?_ | refine And.intro (congrArg (fun z : Int => some (Value.int .i64 z)) (by omega)) ?_) ⟨Nat.zero_le _, hB, hL, k3, k9⟩ ?_
  clear k3 k9 hB hL
  rintro K16 i W17 ⟨hi, hB, hL, k3, k9⟩ hK16
  refine WC.seq fun K18 hK18 => ?_
  refine WC.seq fun K19 hK19 => ?_
  refine WC.region ?_
  refine WL.val (dx_move rfl rfl) rfl rfl ?_
  refine WL.val (dx_lss rfl rfl rfl) rfl rfl ?_
  refine WL.nil ?_
  refine hK19 ?_
  refine WC.cond rfl (fun c20 => ?_) (fun c20 => ?_)
  ·
    replace c20 := of_decide_eq_true c20
    refine WC.skip ?_
    refine hK18 ?_
    refine WC.seq fun K21 hK21 => ?_
    refine WC.block ?_
    refine WC.region ?_
    refine WL.val (dx_move rfl rfl) rfl rfl ?_
    refine WL.val (dx_move rfl rfl) rfl rfl ?_
    refine WL.val (dx_idxA (o1 := i) rfl Try.underlying27 ty_size_5_1 rfl rfl (by omega) (by simp)) rfl rfl ?_
    refine WL.do (dx_store (cs' := encS (tornS z0 (fillS x) (i + 1))) (vs := [.int .u8 x]) rfl ty_size_5_1 rfl rfl rfl (oc_cons rfl oc_nil) k9 rfl (by rw [encS_len, tornS_len z0_len (fillS_len x) (by omega)]; omega) (torn_step z0_len (fillS_len x) (fill_at (by omega)) (by omega))) rfl ?_
    rintro _ W22 ⟨k24, o23⟩
    replace k3 := k3.other o23 n12
    clear k9
    replace hB := o23.below hB l13
    replace hL := LL.only hL o23
    refine WL.nil ?_
    refine hK21 ?_
    refine WC.region ?_
    refine WL.val (dx_move rfl rfl) rfl rfl ?_
    refine WL.val (dx_add (r := (i : Int) + 1) rfl rfl rfl (wrap64_id (by omega))) rfl rfl ?_
    refine WL.val (dx_assign rfl rfl) rfl rfl ?_
    refine WL.nil ?_
    exact hK16 (i + 1) ⟨(by omega), hB, hL, k3, k24⟩ (by omega) (by repeat first | exact trivial | exact And.intro rfl trivial | refine And.intro rfl ?_ | refine And.intro (congrArg (fun z : Int => some (Value.int .i64 z)) (by omega)) ?_)
  ·
    replace c20 := of_decide_eq_false c20
    refine WC.exit ?_
    refine hK14 ?_
    refine WC.seq fun K25 hK25 => ?_
    refine WC.region ?_
    refine WL.val (dx_loadN rfl ty_agg_27_128 rfl k9.range (by rw [encS_len]; exact (tornS_len z0_len (fillS_len x) (by omega)))) rfl rfl ?_
    refine WL.do (dx_storeW (vs := (encS (tornS z0 (fillS x) i))) rfl ty_size_27_128 rfl rfl rfl (oc_S (tornS z0 (fillS x) i)) k3 (by rw [encS_len]; exact (tornS_len z0_len (fillS_len x) (by omega))) (by rw [encS_len]; exact z0_len)) rfl ?_
    rintro _ W26 ⟨k28, o27⟩
    replace k9 := k9.other o27 n12.symm
    clear k3
    replace hB := o27.below hB l6
    replace hL := LL.only hL o27
    refine WL.nil ?_
    refine hK25 ?_
    refine WC.ret fun a_ ha_ => ?_
    exact hQ (cv_ret1 rfl (.agg rfl ty_agg_27_128 k28.range (by rw [encS_len]; exact (tornS_len z0_len (fillS_len x) (by omega)))) (by rw [show i = 128 by omega, fill_all]) hB ha_)

end Go.Proofs.Ythefddclefimoaa
