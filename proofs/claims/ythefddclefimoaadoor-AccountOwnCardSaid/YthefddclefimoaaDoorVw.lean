/- Views of a slice of one's own: parts of it, appends and clears in place. No program stands here. -/
import Derived.Test.YthefddclefimoaaDoorDrR
namespace Go.Proofs.YthefddclefimoaaDoor
open Go.RowKit
set_option linter.unusedVariables false
set_option linter.unusedSimpArgs false
/-- A block of one's own as rows, all that there is room for. -/
def RwB (s : Nat) (w : World) (B : Nat) (R : List (List Value)) : Prop := 0 < s ∧ (∀ r ∈ R, r.length = s) ∧ R.length ≤ maxLen ∧ Blk w B R.flatten
theorem RwB.lt {s : Nat} {w : World} {B : Nat} {R : List (List Value)} (h : RwB s w B R) : B < w.heap.size := h.2.2.2.lt
theorem RwB.below {s : Nat} {w w' : World} {B : Nat} {R : List (List Value)} (h : RwB s w B R) (hb : Below w.heap.size w w') : RwB s w' B R := ⟨h.1, h.2.1, h.2.2.1, h.2.2.2.below hb⟩
theorem RwB.other {s : Nat} {w w' : World} {B C : Nat} {R : List (List Value)} (h : RwB s w B R) (ho : Only C w w') (hn : B ≠ C) : RwB s w' B R := ⟨h.1, h.2.1, h.2.2.1, h.2.2.2.other ho hn⟩
theorem rows_of {s : Nat} : ∀ (n : Nat) (l : List Value), l.length = n * s → ∃ rows : List (List Value), rows.length = n ∧ (∀ r ∈ rows, r.length = s) ∧ rows.flatten = l
  | 0, l, h => ⟨[], rfl, fun r hr => (by cases hr), (by rw [Nat.zero_mul] at h; rw [List.length_eq_zero_iff.1 h]; rfl)⟩
  | n + 1, l, h => by
    rw [Nat.succ_mul] at h
    obtain ⟨rows, h1, h2, h3⟩ := rows_of (s := s) n (l.drop s) (by rw [List.length_drop]; omega)
    refine ⟨l.take s :: rows, by simp [h1], fun r hr => ?_, by rw [List.flatten_cons, h3, List.take_append_drop]⟩
    rcases List.mem_cons.1 hr with rfl | hr
    · rw [List.length_take]; omega
    · exact h2 r hr
theorem OwS.open {s : Nat} {w : World} {v : Value} {rs : List (List Value)} {B : Nat} (h : OwS s w v rs B) : ∃ sp, v = .slice (some ⟨B, 0, none⟩) rs.length (rs ++ sp).length ∧ RwB s w B (rs ++ sp) := by
  obtain ⟨h0, hr, cap, sp, rfl, h2, h3, h4, h5⟩ := h
  obtain ⟨rows, k1, k2, rfl⟩ := rows_of (cap - rs.length) sp h4
  have e : (rs ++ rows).length = cap := by rw [List.length_append, k1]; omega
  refine ⟨rows, by rw [e], h0, fun r hr' => ?_, by rw [e]; exact h3, by rw [List.flatten_append]; exact h5⟩
  rcases List.mem_append.1 hr' with h | h
  · exact hr r h
  · exact k2 r h
theorem RwB.own {s : Nat} {w : World} {B : Nat} {rs sp : List (List Value)} (h : RwB s w B (rs ++ sp)) : OwS s w (.slice (some ⟨B, 0, none⟩) rs.length (rs ++ sp).length) rs B := by
  obtain ⟨h0, hr, hm, hb⟩ := h
  have hsp : ∀ r ∈ sp, r.length = s := fun r hr' => hr r (List.mem_append.2 (.inr hr'))
  refine ⟨h0, fun r hr' => hr r (List.mem_append.2 (.inl hr')), _, sp.flatten, rfl, by simp, hm, ?_, by rw [← List.flatten_append]; exact hb⟩
  rw [flat_len hsp, List.length_append, Nat.add_sub_cancel_left]
/-- Where a part begins: a part with no room begins where the whole does. -/
def offV (c l o0 s : Nat) : Nat := if c = l then o0 else o0 + l * s
theorem offV_eq {c l s B o0 : Nat} : (if c = l then some (⟨B, o0, none⟩ : Addr) else some (if l * s = 0 then ⟨B, o0, none⟩ else ⟨B, o0 + l * s, none⟩)) = some ⟨B, offV c l o0 s, none⟩ := by
  unfold offV
  split
  · rfl
  · split
    · rename_i h; rw [h]; rfl
    · rfl
theorem offV_in {c l o0 s n : Nat} (hn : n ≠ 0) (h : l + n ≤ c) : offV c l o0 s = o0 + l * s := by
  unfold offV
  rw [if_neg (by omega)]
/-- What a part of it reads. -/
theorem RwB.part {s : Nat} {w : World} {B : Nat} {R : List (List Value)} (h : RwB s w B R) {L : List Nat} (hB : B ∉ L) {lo n c o1 : Nat} (ho : n ≠ 0 → o1 = lo * s) (hn : n ≤ c) (hc : lo + c ≤ R.length) : RdF s L w (.slice (some ⟨B, o1, none⟩) n c) ((R.drop lo).take n) := by
  obtain ⟨h0, hr, hm, hb⟩ := h
  have hl : ((R.drop lo).take n).length = n := by rw [List.length_take, List.length_drop]; omega
  refine ⟨h0, fun r hr' => hr r (List.mem_of_mem_drop (List.mem_of_mem_take hr')), _, c, by rw [hl], by rw [hl]; exact hn, by omega, fun h => (by cases h), fun hne => ⟨B, o1, rfl, hB, ?_⟩⟩
  rw [ho (fun e => hne (by rw [e, List.take_zero]))]
  have := range_part hb.range (lo * s) (n * s)
  rw [flat_drop lo hr, flat_take n (fun r hr' => hr r (List.mem_of_mem_drop hr')), Nat.zero_add] at this
  exact this
section
variable {P : Program} {ops : Array Oper} {o : Oper} {N : Nat} {f : Fl} {w : World}
/-- x[l:], x[:h], x[l:h], x[l:h:m] of a slice that isn't nil. -/
theorem dx_slL {t s B o0 n c : Nat} {x y : Operand} {K : IntKind} (l : Nat) {i : Int} (ho : o.op = .slice t x (some y) none none) (ht : sliceB P t s = true) (hx : ev f x = some (.slice (some ⟨B, o0, none⟩) n c)) (hy : ev f y = some (.int K i)) (hi : i = (l : Int)) (hl : l ≤ n) (hn : n ≤ c) (hw : wantF ops o f = some true := by rfl) :
    DV P ops o N f w (.slice (some ⟨B, offV c l o0 s, none⟩) (n - l) (c - l)) := fun a ha => by
  subst hi
  obtain ⟨e, hu, hs⟩ := of_sliceB ht
  have hx := ha.ev hx
  have hy := ha.ev hy
  cases hi : P.info? e with
  | none => rw [hi] at hs; cases hs
  | some q =>
    have hq : q.size = s := by simpa [hi] using hs
    refine Does.pure (wantF_of ha hw) _ ?_ ⟨rfl, rfl⟩
    have h1 : ((l : Int) ≤ (n : Int)) := by omega
    have h2 : ((n : Int) ≤ (c : Int)) := by omega
    have h3 : (0 : Int) ≤ (l : Int) := by omega
    unfold execOp
    simp only [ho, Option.map_none, Option.map_some, hx, hy, Instr.sliceAt, Sem.run_bind, run_underlying hu, Result.andThen_ok, Instr.slice, Instr.sliceBounds, Instr.sliceBound, asIntOf, Sem.run_pure, sizeOf, typeInfo, run_program, hi]
    simp [h1, h2, h3, hq, addr_at, Addr.add, hl]
    exact offV_eq
theorem dx_slH {t s B o0 n c : Nat} {x y : Operand} {K : IntKind} (h : Nat) {i : Int} (ho : o.op = .slice t x none (some y) none) (ht : sliceB P t s = true) (hx : ev f x = some (.slice (some ⟨B, o0, none⟩) n c)) (hy : ev f y = some (.int K i)) (hi : i = (h : Int)) (hl : h ≤ c) (hw : wantF ops o f = some true := by rfl) :
    DV P ops o N f w (.slice (some ⟨B, o0, none⟩) h c) := fun a ha => by
  subst hi
  obtain ⟨e, hu, hs⟩ := of_sliceB ht
  have hx := ha.ev hx
  have hy := ha.ev hy
  cases hi : P.info? e with
  | none => rw [hi] at hs; cases hs
  | some q =>
    have hq : q.size = s := by simpa [hi] using hs
    refine Does.pure (wantF_of ha hw) _ ?_ ⟨rfl, rfl⟩
    have h1 : ((h : Int) ≤ (c : Int)) := by omega
    have h3 : (0 : Int) ≤ (h : Int) := by omega
    unfold execOp
    simp only [ho, Option.map_none, Option.map_some, hx, hy, Instr.sliceAt, Sem.run_bind, run_underlying hu, Result.andThen_ok, Instr.slice, Instr.sliceBounds, Instr.sliceBound, asIntOf, Sem.run_pure, sizeOf, typeInfo, run_program, hi]
    simp [h1, h3, hq, addr_at, Addr.add]
theorem dx_slLH {t s B o0 n c : Nat} {x y z : Operand} {K K' : IntKind} (l h : Nat) {i j : Int} (ho : o.op = .slice t x (some y) (some z) none) (ht : sliceB P t s = true) (hx : ev f x = some (.slice (some ⟨B, o0, none⟩) n c)) (hy : ev f y = some (.int K i)) (hz : ev f z = some (.int K' j)) (hi : i = (l : Int)) (hj : j = (h : Int)) (hl : l ≤ h) (hc : h ≤ c) (hw : wantF ops o f = some true := by rfl) :
    DV P ops o N f w (.slice (some ⟨B, offV c l o0 s, none⟩) (h - l) (c - l)) := fun a ha => by
  subst hi hj
  obtain ⟨e, hu, hs⟩ := of_sliceB ht
  have hx := ha.ev hx
  have hy := ha.ev hy
  have hz := ha.ev hz
  cases hi : P.info? e with
  | none => rw [hi] at hs; cases hs
  | some q =>
    have hq : q.size = s := by simpa [hi] using hs
    refine Does.pure (wantF_of ha hw) _ ?_ ⟨rfl, rfl⟩
    have h1 : ((l : Int) ≤ (h : Int)) := by omega
    have h2 : ((h : Int) ≤ (c : Int)) := by omega
    have h3 : (0 : Int) ≤ (l : Int) := by omega
    have h4 : (0 : Int) ≤ (h : Int) := by omega
    unfold execOp
    simp only [ho, Option.map_none, Option.map_some, hx, hy, hz, Instr.sliceAt, Sem.run_bind, run_underlying hu, Result.andThen_ok, Instr.slice, Instr.sliceBounds, Instr.sliceBound, asIntOf, Sem.run_pure, sizeOf, typeInfo, run_program, hi]
    simp [h1, h2, h3, h4, hq, addr_at, Addr.add, hl, hc]
    exact offV_eq
theorem dx_slLHM {t s B o0 n c : Nat} {x y z u : Operand} {K K' K2 : IntKind} (l h m : Nat) {i j k : Int} (ho : o.op = .slice t x (some y) (some z) (some u)) (ht : sliceB P t s = true) (hx : ev f x = some (.slice (some ⟨B, o0, none⟩) n c)) (hy : ev f y = some (.int K i)) (hz : ev f z = some (.int K' j)) (hu' : ev f u = some (.int K2 k)) (hi : i = (l : Int)) (hj : j = (h : Int)) (hk : k = (m : Int)) (hl : l ≤ h) (hm : h ≤ m) (hc : m ≤ c) (hw : wantF ops o f = some true := by rfl) :
    DV P ops o N f w (.slice (some ⟨B, offV m l o0 s, none⟩) (h - l) (m - l)) := fun a ha => by
  subst hi hj hk
  obtain ⟨e, hu, hs⟩ := of_sliceB ht
  have hx := ha.ev hx
  have hy := ha.ev hy
  have hz := ha.ev hz
  have hu' := ha.ev hu'
  cases hi : P.info? e with
  | none => rw [hi] at hs; cases hs
  | some q =>
    have hq : q.size = s := by simpa [hi] using hs
    refine Does.pure (wantF_of ha hw) _ ?_ ⟨rfl, rfl⟩
    have h1 : ((l : Int) ≤ (h : Int)) := by omega
    have h2 : ((h : Int) ≤ (m : Int)) := by omega
    have h3 : (0 : Int) ≤ (l : Int) := by omega
    have h4 : (0 : Int) ≤ (h : Int) := by omega
    have h5 : ((m : Int) ≤ (c : Int)) := by omega
    have h6 : (0 : Int) ≤ (m : Int) := by omega
    unfold execOp
    simp only [ho, Option.map_none, Option.map_some, hx, hy, hz, hu', Instr.sliceAt, Sem.run_bind, run_underlying hu, Result.andThen_ok, Instr.slice, Instr.sliceBounds, Instr.sliceBound, asIntOf, Sem.run_pure, sizeOf, typeInfo, run_program, hi]
    simp [h1, h2, h3, h4, h5, h6, hq, addr_at, Addr.add, hl, hm, hc]
    exact offV_eq
/-- An append where there is room. -/
theorem dx_apV {t s bytes B i : Nat} {x y : Operand} {v2 : Value} {R news : List (List Value)} {L : List Nat} (ho : o.op = .call { callee := .builtin .append, args := #[x, y], argTypes := #[t, t] }) (ht : apB P t s bytes = true) (hx : ev f x = some (.slice (some ⟨B, 0, none⟩) i R.length)) (hy : ev f y = some v2)
    (hR : RwB s w B R) (h2 : RdF s L w v2 news) (h1 : ∀ r ∈ news, ∀ u ∈ r, u.oneCell' = true) {m : Nat} (hm' : news.length = m) (hroom : i + m ≤ R.length) (hw : wantF ops o f = some true := by rfl) :
    DR P ops o N f w fun u W => u = .slice (some ⟨B, 0, none⟩) (i + m) R.length ∧ RwB s W B (R.take i ++ (news ++ R.drop (i + m))) ∧ Only B w W := fun a ha => by
  subst hm'
  obtain ⟨e, q, Z, hu, hi, hz, rfl, rfl, hzs⟩ := of_apB ht
  have hx := ha.ev hx
  have hy := ha.ev hy
  obtain ⟨h0, hr, hm, tt, hb⟩ := hR
  obtain ⟨_, hl2, a2, cap2, rfl, hd1, hd2, hd3, hd4⟩ := h2
  refine Does.of_wp (wantF_of ha hw) fun K hK => ?_
  by_cases hn : news = []
  · subst hn
    have hr0 : (Builtin.append_ #[t, t] o.type #[.slice (some ⟨B, 0, none⟩) i R.length, .slice a2 0 cap2]).run P w = .ok (.slice (some ⟨B, 0, none⟩) i R.length) w := by
      have hle : i ≤ R.length := by simpa using hroom
      cases a2 with
      | none => simp [Builtin.append_, run_underlying hu, sizeOf, typeInfo, hi, Builtin.lenOf, hle, Builtin.firstCells, storeCells]
      | some a2 => simp [Builtin.append_, run_underlying hu, sizeOf, typeInfo, hi, Builtin.lenOf, hle, Builtin.firstCells, loadCells, loadCellsFrom, storeCells]
    unfold Oper.wp execOp
    simp only [List.length_nil] at hy
    simp only [ho, resolve, invoke, builtin, Sem.run_bind, Sem.run_pure, Result.andThen_ok, List.map_toArray, List.map_cons, List.map_nil, hx, hy, hr0]
    refine hK _ _ ⟨rfl, ⟨h0, by simpa using hr, by simpa using hm, tt, by simpa using hb⟩, ⟨rfl, rfl, rfl, rfl, fun _ _ => rfl⟩⟩
  · obtain ⟨X, o0, rfl, hX, hc⟩ := hd4 hn
    have hnews : ∀ j u, news.flatten[j]? = some u → w.cell? ((⟨X, o0, none⟩ : Addr).add j) = some u := fun j u hj => by rw [addr_at]; exact hc j u hj
    have hflat : news.flatten.length = news.length * q.size := flat_len hl2
    have h1' : ∀ u ∈ news.flatten, u.oneCell' = true := fun u hu => by
      obtain ⟨r, hr, hur⟩ := List.mem_flatten.1 hu
      exact h1 r hr u hur
    have hfit : i * q.size + news.flatten.length ≤ R.flatten.toArray.size := by
      rw [List.size_toArray, flat_len hr, hflat, ← Nat.add_mul]
      exact Nat.mul_le_mul_right _ hroom
    have hrun := run_ap_room (P := P) (w := w) (t := t) (ty := o.type) hu hi B i R.length _ hb ⟨X, o0, none⟩ news.length cap2 news.flatten hflat hnews h1' hroom hfit
    have hcs : R.flatten.toArray.toList.take (i * q.size) ++ news.flatten ++ R.flatten.toArray.toList.drop (i * q.size + news.flatten.length) = (R.take i ++ (news ++ R.drop (i + news.length))).flatten := by
      rw [hflat, ← Nat.add_mul, flat_take i hr, flat_drop (i + news.length) hr]
      simp
    rw [hcs] at hrun
    unfold Oper.wp execOp
    simp only [ho, resolve, invoke, builtin, Sem.run_bind, Sem.run_pure, Result.andThen_ok, List.map_toArray, List.map_cons, List.map_nil, hx, hy, hrun]
    refine hK _ _ ⟨rfl, ⟨h0, fun r hr' => ?_, ?_, tt, setRow_heap w B _ _ tt _ hb⟩, only_setRow w B _⟩
    · rcases List.mem_append.1 hr' with h | h
      · exact hr r (List.mem_of_mem_take h)
      · rcases List.mem_append.1 h with h | h
        · exact hl2 r h
        · exact hr r (List.mem_of_mem_drop h)
    · rw [List.length_append, List.length_append, List.length_take, List.length_drop]
      omega
/-- A type whose zero value has cells of one cell each. -/
def clB (P : Program) (t s : Nat) : Bool := match P.underlying t with
  | some (.slice e) => match P.info? e with
    | some i => i.size == s && (match i.zero with | some z => z.cells.size == s && z.cells.toList.all (·.oneCell') | none => false)
    | none => false
  | _ => false
theorem of_clB {t s : Nat} (h : clB P t s = true) : ∃ e i Z, P.underlying t = some (.slice e) ∧ P.info? e = some i ∧ i.zero = some Z ∧ i.size = s ∧ Z.cells.size = s ∧ ∀ u ∈ Z.cells.toList, u.oneCell' = true := by
  unfold clB at h
  split at h
  · rename_i e hu
    split at h
    · rename_i i hi
      simp only [Bool.and_eq_true, beq_iff_eq] at h
      obtain ⟨h1, h3⟩ := h
      split at h3
      · rename_i z hz
        simp only [Bool.and_eq_true, beq_iff_eq, List.all_eq_true] at h3
        exact ⟨e, i, z, hu, hi, hz, h1, h3.1, h3.2⟩
      · cases h3
    · cases h
  · cases h
theorem dx_clV {t s B lo n c o1 : Nat} {x : Operand} {R : List (List Value)} (ho : o.op = .call { callee := .builtin .clear, args := #[x], argTypes := #[t] }) (ht : clB P t s = true) (hx : ev f x = some (.slice (some ⟨B, o1, none⟩) n c)) (h1 : n ≠ 0 → o1 = lo * s) (hR : RwB s w B R) (hn : lo + n ≤ R.length) (hw : wantF ops o f = some true := by rfl) :
    DR P ops o N f w fun _ W => ∃ zs : List (List Value), zs.length = n ∧ RwB s W B (R.take lo ++ (zs ++ R.drop (lo + n))) ∧ Only B w W := fun a ha => by
  obtain ⟨e, q, Z, hu, hi, hz, rfl, hzs, hone⟩ := of_clB ht
  have hx := ha.ev hx
  obtain ⟨h0, hr, hm, tt, hb⟩ := hR
  refine Does.of_wp (wantF_of ha hw) fun K hK => ?_
  by_cases hn0 : n = 0
  · subst hn0
    have hrun : (Builtin.clear_ #[t] o.type #[.slice (some ⟨B, o1, none⟩) 0 c]).run P w = .ok (.tuple #[]) w := by simp [Builtin.clear_, run_underlying hu]
    unfold Oper.wp execOp
    simp only [ho, resolve, invoke, builtin, Sem.run_bind, Sem.run_pure, Result.andThen_ok, List.map_toArray, List.map_cons, List.map_nil, hx, hrun]
    exact hK _ _ ⟨[], rfl, ⟨h0, by simpa using hr, by simpa using hm, tt, by simpa using hb⟩, ⟨rfl, rfl, rfl, rfl, fun _ _ => rfl⟩⟩
  · obtain rfl := h1 hn0
    have hlen : (Builtin.zeroCells Z.cells n).toList.length = n * q.size := by rw [Array.length_toList, size_zeroCells, hzs]
    have hones : ∀ u ∈ (Builtin.zeroCells Z.cells n).toList, u.oneCell' = true := fun u hu => by
      unfold Builtin.zeroCells at hu
      simp only [Array.toList_map, List.mem_map] at hu
      obtain ⟨k, hk, rfl⟩ := hu
      refine hone _ ?_
      have hlt : k % Z.cells.size < Z.cells.size := Nat.mod_lt _ (by omega)
      rw [getElem!_pos Z.cells _ hlt]
      exact Array.getElem_mem_toList hlt
    obtain ⟨zs, z1, z2, z3⟩ := rows_of (s := q.size) n _ hlen
    have hst := run_storeCells_at P B (lo * q.size) tt (Builtin.zeroCells Z.cells n).toList 0 _ w hb (by rw [List.size_toArray, flat_len hr, hlen, Nat.add_zero, ← Nat.add_mul]; exact Nat.mul_le_mul_right _ hn) hones
    simp only [Nat.add_zero] at hst
    have hcs : R.flatten.toArray.toList.take (lo * q.size) ++ (Builtin.zeroCells Z.cells n).toList ++ R.flatten.toArray.toList.drop (lo * q.size + (Builtin.zeroCells Z.cells n).toList.length) = (R.take lo ++ (zs ++ R.drop (lo + n))).flatten := by
      rw [hlen, ← Nat.add_mul, flat_take lo hr, flat_drop (lo + n) hr, ← z3]
      simp
    rw [hcs] at hst
    have hrun : (Builtin.clear_ #[t] o.type #[.slice (some ⟨B, lo * q.size, none⟩) n c]).run P w = .ok (.tuple #[]) (w.setRow B (R.take lo ++ (zs ++ R.drop (lo + n))).flatten.toArray) := by
      cases n with
      | zero => exact absurd rfl hn0
      | succ n => simp [Builtin.clear_, run_underlying hu, zeroValue, typeInfo, hi, hz, hst]
    unfold Oper.wp execOp
    simp only [ho, resolve, invoke, builtin, Sem.run_bind, Sem.run_pure, Result.andThen_ok, List.map_toArray, List.map_cons, List.map_nil, hx, hrun]
    refine hK _ _ ⟨zs, z1, ⟨h0, fun r hr' => ?_, ?_, tt, setRow_heap w B _ _ tt _ hb⟩, only_setRow w B _⟩
    · rcases List.mem_append.1 hr' with h | h
      · exact hr r (List.mem_of_mem_take h)
      · rcases List.mem_append.1 h with h | h
        · exact z2 r h
        · exact hr r (List.mem_of_mem_drop h)
    · rw [List.length_append, List.length_append, List.length_take, List.length_drop, z1]
      omega
/-- A copy into a part. -/
theorem dx_cpV {t t' s B lo n c o1 : Nat} {x y : Operand} {v2 : Value} {R news : List (List Value)} {L : List Nat} (ho : o.op = .call { callee := .builtin .copy, args := #[x, y], argTypes := #[t, t'] }) (ht : sliceB P t s = true) (hx : ev f x = some (.slice (some ⟨B, o1, none⟩) n c)) (h1 : n ≠ 0 → o1 = lo * s) (hy : ev f y = some v2) (hR : RwB s w B R) (h2 : RdF s L w v2 news) (hone : ∀ r ∈ news.take n, ∀ u ∈ r, u.oneCell' = true) (hn : lo + n ≤ R.length) (hw : wantF ops o f = some true := by rfl) :
    DR P ops o N f w fun u W => u = .int .i64 (min news.length n : Nat) ∧ RwB s W B (R.take lo ++ (news.take n ++ R.drop (lo + min news.length n))) ∧ Only B w W := fun a ha => by
  obtain ⟨e, hu, hs⟩ := of_sliceB ht
  have hx := ha.ev hx
  have hy := ha.ev hy
  obtain ⟨h0, hr, hm, tt, hb⟩ := hR
  obtain ⟨_, hl2, a2, cap2, rfl, hd1, hd2, hd3, hd4⟩ := h2
  cases hi : P.info? e with
  | none => rw [hi] at hs; cases hs
  | some q =>
    have hq : q.size = s := by simpa [hi] using hs
    subst hq
    refine Does.of_wp (wantF_of ha hw) fun K hK => ?_
    have hl3 : ∀ r ∈ news.take n, r.length = q.size := fun r hr' => hl2 r (List.mem_of_mem_take hr')
    have hlen : (news.take n).flatten.length = min news.length n * q.size := by rw [flat_len hl3, List.length_take, Nat.min_comm]
    have hk : Nat.min news.length n = min news.length n := rfl
    by_cases hz : min news.length n = 0
    · have hnil : news.take n = [] := by
        rcases Nat.eq_zero_or_pos n with h | h
        · rw [h]; rfl
        · have : news.length = 0 := by omega
          rw [List.length_eq_zero_iff.1 this, List.take_nil]
      have hf : (Builtin.firstCells q.size 0 (.slice a2 news.length cap2)).run P w = .ok #[] w := by
        cases a2 with
        | none => simp [Builtin.firstCells]
        | some b => exact run_firstCells_some (P := P) w q.size 0 b news.length cap2 [] (by simp) (fun j u hj => by simp at hj)
      unfold Oper.wp execOp
      simp only [ho, resolve, invoke, builtin, Sem.run_bind, Sem.run_pure, Result.andThen_ok, List.map_toArray, List.map_cons, List.map_nil, hx, hy, Builtin.copy_, run_underlying hu, List.getElem?_toArray, List.getElem?_cons_zero, List.getElem?_cons_succ, Builtin.lenOf, hk, hz, sizeOf, typeInfo, run_program, hi, hf, storeCells]
      refine hK _ _ ⟨by rw [hz]; rfl, ⟨h0, by rw [hnil, hz]; simpa using hr, by rw [hnil, hz]; simpa using hm, tt, by rw [hnil, hz]; simpa using hb⟩, ⟨rfl, rfl, rfl, rfl, fun _ _ => rfl⟩⟩
    · have hne : news ≠ [] := fun e => hz (by rw [e]; simp)
      obtain rfl := h1 (by omega)
      obtain ⟨X, o0, rfl, hX, hc⟩ := hd4 hne
      have hf := run_firstCells_some (P := P) w q.size (min news.length n) ⟨X, o0, none⟩ news.length cap2 (news.take n).flatten hlen (fun j u hj => by
        rw [addr_at]
        refine hc j u ?_
        rw [← flat_take n hl2, List.getElem?_take] at hj
        split at hj
        · exact hj
        · cases hj)
      have hst := run_storeCells_at P B (lo * q.size) tt (news.take n).flatten 0 _ w hb (by rw [List.size_toArray, flat_len hr, hlen, Nat.add_zero, ← Nat.add_mul]; exact Nat.mul_le_mul_right _ (by omega)) (fun u hu' => by
        obtain ⟨r, hr', hur⟩ := List.mem_flatten.1 hu'
        exact hone r hr' u hur)
      simp only [Nat.add_zero] at hst
      have hcs : R.flatten.toArray.toList.take (lo * q.size) ++ (news.take n).flatten ++ R.flatten.toArray.toList.drop (lo * q.size + (news.take n).flatten.length) = (R.take lo ++ (news.take n ++ R.drop (lo + min news.length n))).flatten := by
        rw [hlen, ← Nat.add_mul, flat_take lo hr, flat_drop (lo + min news.length n) hr]
        simp
      rw [hcs] at hst
      unfold Oper.wp execOp
      simp only [ho, resolve, invoke, builtin, Sem.run_bind, Sem.run_pure, Result.andThen_ok, List.map_toArray, List.map_cons, List.map_nil, hx, hy, Builtin.copy_, run_underlying hu, List.getElem?_toArray, List.getElem?_cons_zero, List.getElem?_cons_succ, Builtin.lenOf, hk, sizeOf, typeInfo, run_program, hi, hf, hst]
      refine hK _ _ ⟨rfl, ⟨h0, fun r hr' => ?_, ?_, tt, setRow_heap w B _ _ tt _ hb⟩, only_setRow w B _⟩
      · rcases List.mem_append.1 hr' with h | h
        · exact hr r (List.mem_of_mem_take h)
        · rcases List.mem_append.1 h with h | h
          · exact hl3 r h
          · exact hr r (List.mem_of_mem_drop h)
      · rw [List.length_append, List.length_append, List.length_take, List.length_drop, List.length_take]
        omega
end
-- contracts of what writes to a block that it is given
/-- Of what was there just this block may have changed. -/
structure Chg (B : Nat) (w w' : World) : Prop where
  os : w'.os = w.os
  tape : w'.tape = w.tape
  output : w'.output = w.output
  size : w.heap.size ≤ w'.heap.size
  block : ∀ k, k < w.heap.size → k ≠ B → w'.heap[k]? = w.heap[k]?
theorem Chg.refl (B : Nat) (w : World) : Chg B w w := ⟨rfl, rfl, rfl, Nat.le_refl _, fun _ _ _ => rfl⟩
theorem Chg.thenB {B : Nat} {w W W' : World} (h : Chg B w W) (b : Below W.heap.size W W') : Chg B w W' :=
  ⟨by rw [b.os, h.os], by rw [b.tape, h.tape], by rw [b.output, h.output], Nat.le_trans h.size b.size, fun k hk hn => by rw [b.block k (Nat.lt_of_lt_of_le hk h.size), h.block k hk hn]⟩
theorem Chg.only {B C : Nat} {w W W' : World} (h : Chg B w W) (o : Only C W W') (hC : C = B ∨ w.heap.size ≤ C) : Chg B w W' :=
  ⟨by rw [o.os, h.os], by rw [o.tape, h.tape], by rw [o.output, h.output], by rw [o.size]; exact h.size, fun k hk hn => by rw [o.block k (by omega), h.block k hk hn]⟩
theorem Chg.grow {B C C' : Nat} {w W W' : World} (h : Chg B w W) (g : GrowB C C' W W') (hC : C = B ∨ w.heap.size ≤ C) : Chg B w W' :=
  ⟨by rw [g.os, h.os], by rw [g.tape, h.tape], by rw [g.output, h.output], Nat.le_trans h.size g.size, fun k hk hn => by rw [g.block k (Nat.lt_of_lt_of_le hk h.size) (by omega), h.block k hk hn]⟩
theorem Chg.growB {B B' : Nat} {w w' : World} (h : Chg B w w') (hB : B' = B ∨ w.heap.size ≤ B') : GrowB B B' w w' := ⟨h.os, h.tape, h.output, h.size, h.block, hB⟩
/-- The call returns, with this; of what was there just this block may have changed. -/
def CW (P : Program) (F : FuncId) (args : List Value) (w : World) (B : Nat) (R : Value → World → Prop) : Prop := Calls P F args.toArray w fun e w' => ∃ v, e = .returned v ∧ R v w' ∧ Chg B w w'
def finW (P : Program) (fn : Func) (R : Value → World → Prop) (B : Nat) (w0 : World) (a : Act) (w : World) : Prop := a.defers = [] ∧ ∃ v, (results fn a.tmps).run P w = .ok v w ∧ R v w ∧ Chg B w0 w
theorem CW.mono {P : Program} {F : FuncId} {args : List Value} {w : World} {B : Nat} {R R' : Value → World → Prop} (h : CW P F args w B R) (hr : ∀ v w', Chg B w w' → R v w' → R' v w') : CW P F args w B R' :=
  Calls.mono h fun e w' ⟨v, he, hR, hb⟩ => ⟨v, he, hr v w' hb hR, hb⟩
theorem cw_enter {P : Program} {F : FuncId} {fn : Func} {body : Code} {w : World} {B : Nat} {R : Value → World → Prop} {N : Nat} {vs : List Value} (hf : P.funcs[F]? = some fn) (hb : fn.body = some body) (hn : fn.ntmps = N) (hN : decide (vs.length ≤ N) = true) {f : Fl}
    (hfr : (vs.zipIdx.map fun p => (p.2, p.1)) = f) (h : ∀ Q : Exit → Act → World → Prop, (∀ {a W}, finW P fn R B w a W → Q .ret a W) → (∀ {a W}, finW P fn R B w a W → Q .normal a W) → WC P N body Q f w) : CW P F vs w B R :=
  calls_sx vs f hf hb hn hN hfr.symm (h _ (fun {a W} ⟨h1, v, h2, h3, h4⟩ => ⟨h1, v, h2, v, rfl, h3, h4⟩) (fun {a W} ⟨h1, v, h2, h3, h4⟩ => ⟨h1, v, h2, v, rfl, h3, h4⟩))
section
variable {P : Program} {ops : Array Oper} {o : Oper} {N : Nat} {f : Fl} {w : World} {R : Value → World → Prop} {fn : Func}
theorem cw_ret1 {B : Nat} {w0 : World} {r0 : ResultVar} {v0 : Value} (h : fn.results = #[r0]) (h0 : RV P f w r0 v0) (hR : R v0 w) (hb : Chg B w0 w) {a : Act} (ha : Fr N a f) : finW P fn R B w0 a w := by
  obtain ⟨x, v, hv, v', he, h1, h2⟩ := fn1 (Rr := fun e w' => ∃ v, e = .returned v ∧ R v w' ∧ Chg B w0 w') h h0 ⟨_, rfl, hR, hb⟩ ha
  cases he
  exact ⟨x, _, hv, h1, h2⟩
/-- A call of such a one, that gives a slice of one's own again. -/
theorem dx_cwO {s B : Nat} {rs : List (List Value)} {F : FuncId} {fn : Func} {xs : List Operand} {ts : Array TypeId} {vs : List Value} (ho : o.op = .call { callee := .value (.func F), args := xs.toArray, argTypes := ts }) (hf : P.funcs[F]? = some fn) (hn : (fn.name == "runtime.NumGoroutine") = false) (hb : fn.body.isNone = false)
    (hx : evl f xs = some vs) (hc : CW P F vs w B fun v W => ∃ B', OwS s W v rs B' ∧ (B' = B ∨ w.heap.size ≤ B')) (hw : wantF ops o f = some true := by rfl) : DR P ops o N f w (GrO s B w rs) :=
  dx_call (cap := #[]) ho rfl hf hn hb hx (by rw [Array.append_empty]; exact Calls.mono hc fun e w' ⟨v, he, ⟨B', h1, h2⟩, h3⟩ => ⟨v, he, B', h1, h3.growB h2⟩) hw
theorem mem_tail {α : Type} {rs sp : List α} {j : Nat} {r : α} (hj : j ≤ rs.length) (h : r ∈ ((rs ++ sp).drop j).take (rs.length - j)) : r ∈ rs := by
  rw [List.drop_append_of_le_length hj, List.take_append_of_le_length (by rw [List.length_drop]; omega)] at h
  exact List.mem_of_mem_drop (List.mem_of_mem_take h)
theorem mem_tail2 {α : Type} {rs sp : List α} {j a b : Nat} {r : α} (hj : j ≤ rs.length) (hb : b = rs.length - j) (hab : b ≤ a) (h : r ∈ (((rs ++ sp).drop j).take a).take b) : r ∈ rs := by
  rw [List.take_take, show min b a = rs.length - j by omega] at h
  exact mem_tail hj h
/-- What is left of rows when some are deleted. -/
theorem del_rows {rs sp zs : List (List Value)} {i j : Nat} (hij : i ≤ j) (hj : j ≤ rs.length) (hz : zs.length = j - i) :
    let R1 := (rs ++ sp).take i ++ ((((rs ++ sp).drop j).take (rs.length - j)) ++ (rs ++ sp).drop (i + (rs.length - j)))
    R1.take (i + (rs.length - j)) ++ (zs ++ R1.drop (i + (rs.length - j) + (j - i))) = (rs.take i ++ rs.drop j) ++ (zs ++ sp) := by
  have e1 : (rs ++ sp).take i = rs.take i := List.take_append_of_le_length (by omega)
  have e2 : ((rs ++ sp).drop j).take (rs.length - j) = rs.drop j := by
    rw [List.drop_append_of_le_length hj, List.take_append_of_le_length (by rw [List.length_drop]; omega), List.take_of_length_le (by rw [List.length_drop]; omega)]
  have l1 : (rs.take i).length = i := by rw [List.length_take]; omega
  have l2 : (rs.drop j).length = rs.length - j := List.length_drop
  simp only [e1, e2]
  have l3 : (rs.take i ++ rs.drop j).length = i + (rs.length - j) := by rw [List.length_append, l1, l2]
  have e3 : rs.take i ++ (rs.drop j ++ (rs ++ sp).drop (i + (rs.length - j))) = (rs.take i ++ rs.drop j) ++ (rs ++ sp).drop (i + (rs.length - j)) := (List.append_assoc _ _ _).symm
  have e4 : ((rs.take i ++ rs.drop j) ++ (rs ++ sp).drop (i + (rs.length - j))).take (i + (rs.length - j)) = rs.take i ++ rs.drop j := by
    rw [List.take_append_of_le_length (by omega), List.take_of_length_le (by omega)]
  have e5 : ((rs.take i ++ rs.drop j) ++ (rs ++ sp).drop (i + (rs.length - j))).drop (i + (rs.length - j) + (j - i)) = sp := by
    rw [List.drop_append, List.drop_eq_nil_of_le (by omega), List.nil_append, l3, List.drop_drop, show i + (rs.length - j) + (i + (rs.length - j) + (j - i) - (i + (rs.length - j))) = rs.length by omega]
    exact List.drop_left
  rw [e3, e4, e5]
end
end Go.Proofs.YthefddclefimoaaDoor
