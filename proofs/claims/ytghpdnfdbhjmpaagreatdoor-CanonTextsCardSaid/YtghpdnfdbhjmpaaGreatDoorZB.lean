/- Trees as arguments, opened; structures of five fields. No program stands here. A text's bytes as a slice. No program stands here. A region whose order -/
import Derived.ChangeSame
import Derived.Deep.DeepHandedRow
import Derived.Lay
import Derived.LaidLaws
import Derived.SevenTiedAt
import Derived.Lib.ConvBytes
import Derived.Deep.Strs
import Derived.Lib.Builder
import Derived.Lib.AppendStr
import Derived.Lib.UnsafeStr
import Derived.Laws.AppendOwn
import Derived.OwnWalk
import Derived.WalkKit
import Derived.Laws.Externs
import Derived.Shelf.RegionOpenPlain
import Derived.Lib.Slices
import Derived.Lib.Strings
import Derived.Lib.Walk
import Derived.Lib.IndexMore
import Derived.Lib.IndexBytes
import Derived.Lib.IndexLaws
import Derived.Test.YtghpdnfdbhjmpaaGreatDoorZA
namespace Go.Proofs.YtghpdnfdbhjmpaaGreatDoor
open Go.ChangeShapes Go.WideShapes Go.ChangeAt Go.RowKit
set_option linter.unusedVariables false
section
variable {P : Program} {H : Type} {enc : TypeId × Value → H} {W : World} {base : Nat} {sp : Nat → Bool} {held : Bool}
end
end Go.Proofs.YtghpdnfdbhjmpaaGreatDoor
namespace Go.Proofs.YtghpdnfdbhjmpaaGreatDoor
open Go.RowKit
set_option linter.unusedVariables false
set_option linter.unusedSimpArgs false
set_option maxRecDepth 8000
set_option maxHeartbeats 2000000

abbrev e8 (x : Int) : List Value := [.int .u8 x]
theorem oc_e8 (xs : List Int) : ∀ r ∈ xs.map e8, ∀ u ∈ r, u.oneCell' = true := fun r hr u hu => by
 obtain ⟨x, _, rfl⟩ := List.mem_map.1 hr
 rw [List.mem_singleton.1 hu]
 rfl
theorem flat_one {α : Type} {f : α → Value} : ∀ xs : List α, (xs.map (fun x => [f x])).flatten = xs.map f
 | [] => rfl
 | x :: xs => by rw [List.map_cons, List.flatten_cons, flat_one xs]; rfl
theorem rdI_of {L : List Nat} {w : World} {v : Value} {zs : List Int} (h : RdF 1 L w v (zs.map e8)) : RdI .u8 w v zs := by
 obtain ⟨_, _, a, cap, rfl, h2, h3, h4, h5⟩ := h
 rw [List.length_map] at h2 ⊢
 refine ⟨a, cap, rfl, h2, h3, fun k hk => ?_, h4⟩
 obtain ⟨X, q, rfl, _, hr⟩ := h5 (fun e => by have := congrArg List.length e; rw [List.length_map, List.length_nil] at this; omega)
 refine ⟨X, q, rfl, ?_⟩
 have := hr k (.int .u8 (at0 zs k)) (by rw [show zs.map e8 = zs.map (fun x => [Value.int .u8 x]) from rfl, flat_one, List.getElem?_map]; unfold at0; rw [List.getElem?_eq_getElem hk]; rfl)
 exact this
section
variable {P : Program} {ops : Array Oper} {o : Oper} {N : Nat} {f : Fl} {w : World}
theorem below_bytes (e : TypeId) (s : ByteArray) : Below w.heap.size w (Go.Lib.bytesWorld w e s) :=
 ⟨rfl, rfl, rfl, by rw [Go.Lib.bytesWorld_size]; omega, fun k hk => Go.Lib.bytesWorld_at_old w e s k hk⟩
theorem dx_sb {t d e : TypeId} {x : Operand} {s : ByteArray} {L : List Nat} (ho : o.op = .convert t d x) (hs : P.underlying t = some .string) (hd : P.underlying d = some (.slice e)) (he : P.underlying e = some (.int .u8)) (hx : ev f x = some (.string s)) (hL : LL L w) (hm : s.size ≤ maxLen) (hw : wantF ops o f = some true := by rfl) : DR P ops o N f w fun u W => RdF 1 L W u ((sb s).map e8) ∧ Below w.heap.size w W := fun a ha => by
  have hx := ha.ev hx
  refine Does.of_wp (wantF_of ha hw) fun K hK => ?_
  unfold Oper.wp execOp
  simp only [ho, hx, Sem.run_bind, Sem.run_pure, Go.Lib.run_convert_string_bytes w t d e s hs hd he, Result.andThen_ok]
  refine hK _ _ ⟨⟨by decide, fun r hr => ?_, some ⟨w.heap.size, 0, none⟩, grownCap w s.size 0 e, by rw [List.length_map, sb_length], by rw [List.length_map, sb_length]; exact grownCap_ge _ _ _ _, grownCap_le_maxLen _ _ _ _ hm, fun e => (by cases e), fun _ => ⟨_, _, rfl, hL.notin (Nat.le_refl _), ?_⟩⟩, below_bytes e s⟩
  · obtain ⟨y, _, rfl⟩ := List.mem_map.1 hr
    rfl
  · intro j u hj
    rw [show (sb s).map e8 = (sb s).map (fun x => [Value.int .u8 x]) from rfl, flat_one] at hj
    obtain ⟨hl, rfl⟩ := List.getElem?_eq_some_iff.1 hj
    rw [List.length_map, sb_length] at hl
    rw [Nat.zero_add, Go.Lib.bytesWorld_cell w e s j hl]
    have hl2 : j < s.data.toList.length := by simpa using hl
    rw [List.getElem_map]
    unfold sb
    rw [List.getElem_map, List.getD_eq_getElem?_getD, List.getElem?_eq_getElem hl2]
    rfl
end
section
variable {P : Program} {ops : Array Oper} {md : Region.Mode}
theorem wpAny_factsD {Q : Exit → Act → World → Prop} (hb : ordB md ops = true) (a : Act) (G : (Nat → Bool) → World → Prop) (F : Facts) (R : Nat → (Nat → Value) → World → World → Prop)
    (hF : ∀ i f w w' j g, R i f w w' → j ≠ i → i ∉ depsAt md ops j → F j g w → F j g w')
    (hstep : ∀ i o, ops[i]? = some o → ∀ L f w, L i = false → (∀ j, i ∈ depsAt md ops j → L j = false) → G L w → (∀ j ∈ depsOf md o, F j (restr f (j :: depsAt md ops j)) w) →
      Does P ops o (putDeps ops f (depsOf md o) a) w fun v w' => R i (restr f (depsOf md o)) w w' ∧ G (upd L i true) w' ∧ F i (restr (upd f i v) (i :: depsOf md o)) w')
    (hend : ∀ L f w, (∀ j, L j = decide (j < ops.size)) → G L w → (∀ j, j < ops.size → F j (restr f (j :: depsAt md ops j)) w) → Q .normal (putDeps ops f (List.range ops.size) a) w) :
    ∀ (fuel : Nat) (listed : Array Bool) (f : Nat → Value) (a' : Act) (w : World), listed.size = ops.size → (listed.toList.countP (fun b => !b) ≤ fuel) →
      (∀ j, listed.getD j false = true → ∀ k ∈ depsAt md ops j, listed.getD k false = true) →
      Agrees ops (fun j => listed.getD j false = true) f a a' → G (fun j => listed.getD j false) w → (∀ j, listed.getD j false = true → F j (restr f (j :: depsAt md ops j)) w) → wpAny P md ops Q fuel listed a' w := by
  have ho := ordB_own hb
  have fin : ∀ (listed : Array Bool) (f : Nat → Value) (a' : Act) (w : World), listed.size = ops.size → Region.ready md ops listed = [] →
      Agrees ops (fun j => listed.getD j false = true) f a a' → G (fun j => listed.getD j false) w → (∀ j, listed.getD j false = true → F j (restr f (j :: depsAt md ops j)) w) → Q .normal a' w := by
    intro listed f a' w hsz hr hag hg hf
    have hl := all_listed hb hsz hr
    have hout : ∀ j, listed.getD j false = true → j < ops.size := by
      intro j h
      rcases Nat.lt_or_ge j ops.size with h' | h'
      · exact h'
      · simp [Array.getElem?_eq_none (by omega : listed.size ≤ j)] at h
    have e : a' = putDeps ops f (List.range ops.size) a := by
      refine hag.unique ((Agrees.of ho f a (List.range ops.size)).congr (fun j => ?_) (fun _ _ => rfl))
      rw [List.mem_range]
      exact ⟨hl j, hout j⟩
    rw [e]
    refine hend _ f w (fun j => ?_) hg fun j hj => hf j (hl j hj)
    by_cases hj : j < ops.size
    · rw [hl j hj]; simp [hj]
    · have : ¬ listed.getD j false = true := fun h => hj (hout j h)
      rw [Bool.not_eq_true] at this
      rw [this]; simp [hj]
  intro fuel
  induction fuel with
  | zero =>
    intro listed f a' w hsz hc hcl hag hg hf
    have hr : Region.ready md ops listed = [] := by
      rw [List.eq_nil_iff_forall_not_mem]
      intro j hj
      obtain ⟨h0, o, hoj, _⟩ := mem_ready.1 hj
      have hjs : j < ops.size := (Array.getElem?_eq_some_iff.1 hoj).1
      have hc0 : listed.toList.countP (fun b => !b) = 0 := by omega
      rw [List.countP_eq_zero] at hc0
      have h1 := hc0 listed[j] (by simp)
      rw [Array.getD_eq_getD_getElem?, Array.getElem?_eq_getElem (by omega)] at h0
      simp only [Option.getD_some] at h0
      rw [h0] at h1
      exact h1 rfl
    exact ⟨hr, fin listed f a' w hsz hr hag hg hf⟩
  | succ fuel ih =>
    intro listed f a' w hsz hc hcl hag hg hf
    refine ⟨fun hr => fin listed f a' w hsz hr hag hg hf, fun i hi => ?_⟩
    obtain ⟨h0, o, hoi, hdep⟩ := mem_ready.1 hi
    have his : i < ops.size := (Array.getElem?_eq_some_iff.1 hoi).1
    obtain ⟨hsel, hlt, hlook⟩ := ordB_deps hb hoi
    have hdl : ∀ j ∈ depsOf md o, listed.getD j false = true := by
      intro j hj
      obtain ⟨e, he, rfl⟩ := List.mem_map.1 hj
      obtain ⟨he1, he2⟩ := List.mem_filter.1 he
      exact hdep e (by simpa using he1) he2
    have hun : ¬ listed.getD i false = true := by
      intro h
      rw [Array.getD_eq_getD_getElem?, Array.getElem?_eq_getElem (by omega)] at h0 h
      simp only [Option.getD_some] at h0 h
      rw [h0] at h
      cases h
    have hA := Agrees.of ho f a (depsOf md o)
    have hdst : o.dst = dstAt ops i := by simp [dstAt, hoi]
    have hset : ∀ j, (listed.setIfInBounds i true).getD j false = upd (fun j => listed.getD j false) i true j := by
      intro j
      unfold upd
      by_cases e : j = i
      · subst e
        simp [Array.getD_eq_getD_getElem?, hsz, his]
      · rw [getD_set_ne false (fun h => e h.symm), if_neg e]
    refine Does.wpOp hoi hsel (a := putDeps ops f (depsOf md o) a) (by rw [hag.size, hA.size]) (fun t ht => ?_)
      (hstep i o hoi (fun j => listed.getD j false) f w (by simpa using hun) (fun j hj => by
        rw [← Bool.not_eq_true]
        exact fun h => hun (hcl j h i hj)) hg fun j hj => hf j (hdl j hj)) fun v w' hR => ?_
    · by_cases hts : t < a.tmps.size
      · by_cases e : ∃ j, dstAt ops j = some t
        · obtain ⟨j, hd⟩ := e
          have hj' : j < ops.size := by
            rcases Nat.lt_or_ge j ops.size with h | h
            · exact h
            · simp [dstAt, Array.getElem?_eq_none h] at hd
          have hl := hlook j t hj' hd
          by_cases hjd : j ∈ depsOf md o
          · rw [hag.put j t (hdl j hjd) hd hts, hA.put j t hjd hd hts]
          · have hjl : ¬ listed.getD j false = true := by
              intro hjl
              rcases hl.1 ht with h | h | h
              · exact hun (h ▸ hjl)
              · exact hjd h
              · exact hun (hcl j hjl i h)
            rw [hag.same t (fun k hk hkd => hjl (ho k j t hkd hd ▸ hk)), hA.same t (fun k hk hkd => hjd (ho k j t hkd hd ▸ hk))]
        · have hn : ∀ j, dstAt ops j ≠ some t := fun j hj => e ⟨j, hj⟩
          rw [hag.same t (fun j _ => hn j), hA.same t (fun j _ => hn j)]
      · rw [Array.getElem?_eq_none (by rw [hag.size]; exact Nat.le_of_not_lt hts), Array.getElem?_eq_none (by rw [hA.size]; exact Nat.le_of_not_lt hts)]
    · obtain ⟨hR1, hR3, hR2⟩ := hR
      have hset' : ∀ j, (listed.setIfInBounds i true).getD j false = true ↔ (j = i ∨ listed.getD j false = true) := by
        intro j
        rw [hset j]
        unfold upd
        by_cases e : j = i <;> simp [e]
      rw [hdst]
      refine ih (listed.setIfInBounds i true) (upd f i v) _ w' (by simp [hsz]) ?_ ?_ ?_ (by rw [show (fun j => (listed.setIfInBounds i true).getD j false) = upd (fun j => listed.getD j false) i true from funext hset]; exact hR3) ?_
      · have hc2 : (listed.setIfInBounds i true).toList.countP (fun b => !b) + 1 ≤ listed.toList.countP (fun b => !b) := by
          rw [Array.toList_setIfInBounds]
          have hlen : i < listed.toList.length := by simpa [hsz] using his
          have hli : listed.toList[i] = false := by
            rw [Array.getD_eq_getD_getElem?, Array.getElem?_eq_getElem (by omega)] at h0
            simpa using h0
          rw [List.countP_set hlen, hli]
          have : 0 < listed.toList.countP (fun b => !b) := List.countP_pos_iff.2 ⟨false, by rw [← hli]; exact List.getElem_mem _, rfl⟩
          simp only [Bool.not_false, Bool.not_true, if_true, Bool.false_eq_true, if_false]
          omega
        omega
      · intro j hj k hk
        rw [hset'] at hj ⊢
        rcases hj with rfl | hj
        · rw [depsAt_eq hoi] at hk
          exact .inr (hdl k hk)
        · exact .inr (hcl j hj k hk)
      · exact hag.step ho i v hset' (fun j hji _ => by simp [upd, hji]) (by simp [upd])
      · intro j hj
        rw [hset'] at hj
        by_cases e : j = i
        · subst e
          rw [depsAt_eq hoi]
          exact hR2
        · have hjl := hj.resolve_left e
          have hnc : (j :: depsAt md ops j).contains i = false := by
            rw [← Bool.not_eq_true, List.contains_iff_mem, List.mem_cons]
            rintro (h | h)
            · exact e h.symm
            · exact hun (hcl j hjl i h)
          rw [restr_upd hnc]
          exact hF i _ w w' j _ hR1 e (fun h => hun (hcl j hjl i h)) (hf j hjl)
end
def DStepsG (P : Program) (ops : Array Oper) (N : Nat) (G : Bool → World → Prop) (sd : List (Option Tmp × VS)) (dl : List (List Nat)) (f : Fl) (s : Nat) (rel : World → World → Prop) : Nat → List Oper → Prop
 | _, [] => True
 | k, o :: l => (∀ d W, G d W → (k = s → d = false) → DStep P ops o N W sd (fun v W' => (if k = s then rel W W' ∧ G true W' else Below W.heap.size W W') ∧ okAt sd k v W') ((dl[k]?).getD []) f) ∧ DStepsG P ops N G sd dl f s rel (k + 1) l
section
variable {P : Program} {N : Nat} {sd : List (Option Tmp × VS)} {dl : List (List Nat)} {G : Bool → World → Prop}
theorem DStepsG.cons {ops : Array Oper} {f : Fl} {k s : Nat} {rel : World → World → Prop} {o : Oper} {l : List Oper} (hk : k ≠ s) (h : ∀ d W, G d W → DStep P ops o N W sd (fun v W' => Below W.heap.size W W' ∧ okAt sd k v W') ((dl[k]?).getD []) f) (hl : DStepsG P ops N G sd dl f s rel (k + 1) l) : DStepsG P ops N G sd dl f s rel k (o :: l) := ⟨by simp only [if_neg hk]; exact fun d W hG _ => h d W hG, hl⟩
theorem DStepsG.hit {ops : Array Oper} {f : Fl} {s : Nat} {rel : World → World → Prop} {o : Oper} {l : List Oper} (h : ∀ W, G false W → DStep P ops o N W sd (fun v W' => (rel W W' ∧ G true W') ∧ okAt sd s v W') ((dl[s]?).getD []) f) (hl : DStepsG P ops N G sd dl f s rel (s + 1) l) : DStepsG P ops N G sd dl f s rel s (o :: l) := ⟨by simp only [if_true]; exact fun d W hG hd => by cases hd trivial; exact h W hG, hl⟩
end
theorem Blk.chg {w w' : World} {B C : Nat} {cs : List Value} (h : Blk w C cs) (g : Chg B w w') (hn : C ≠ B) : Blk w' C cs := by
 obtain ⟨t, h'⟩ := h
 exact ⟨t, by rw [g.block C (Blk.lt ⟨t, h'⟩) hn]; exact h'⟩
theorem Chg.of_below {B : Nat} {w w' : World} (h : Below w.heap.size w w') : Chg B w w' := ⟨h.os, h.tape, h.output, h.size, fun k hk _ => h.block k hk⟩
theorem NewS.chg {s base B : Nat} {rs : List (List Value)} {u : Value} {w w' : World} (h : NewS s base rs u w) (g : Chg B w w') (hB : B < base) : NewS s base rs u w' := by
  rcases h with h | ⟨C, sp, h1, h2, h3, h4⟩
  · exact .inl h
  · obtain ⟨q1, q2, q3, q4⟩ := h3
    exact .inr ⟨C, sp, h1, h2, ⟨q1, q2, q3, q4.chg g (by omega)⟩, h4⟩
def SinceB (w1 : World) (L : List Nat) (w : World) : Prop := Below w1.heap.size w1 w
theorem SinceB.below {w1 w w' : World} {L : List Nat} (h : SinceB w1 L w) (hb : Below w.heap.size w w') : SinceB w1 L w' := Below.trans h (hb.mono (Below.size h))
theorem SinceB.more {w1 w w' : World} {L : List Nat} (h : SinceB w1 L w) (hb : Below w.heap.size w w') {B : Nat} (hB : w.heap.size ≤ B) : SinceB w1 (B :: L) w' := h.below hb
theorem SinceB.less {w1 w : World} {L L' : List Nat} (h : SinceB w1 L w) (hl : ∀ x, x ∈ L' → x ∈ L) : SinceB w1 L' w := h
section
variable {P : Program} {ops : Array Oper} {o : Oper} {N : Nat} {f : Fl} {w : World}
theorem dv_Fz {p : Prop} [Decidable p] (h : DV P ops o N f w (.bool (!decide p))) (hp : p) : DV P ops o N f w (.bool false) := by rw [decide_eq_true hp] at h; exact h
theorem dv_N {p : Prop} [Decidable p] (h : DV P ops o N f w (.bool (decide p))) (hp : ¬ p) : DV P ops o N f w (.bool false) := by rwa [decide_eq_false hp] at h
theorem dx_nilCheck {x : Operand} {a : Addr} (ho : o.op = .nilCheck x) (hx : ev f x = some (.pointer (some a))) (hw : wantF ops o f = some true := by rfl) : DV P ops o N f w (.pointer (some a)) := fun k ha => by
 have hx := ha.ev hx
 exact Does.pure (wantF_of ha hw) _ (by unfold execOp; simp [ho, hx, Sem.run_bind, Sem.run_pure]) ⟨rfl, rfl⟩
end
end Go.Proofs.YtghpdnfdbhjmpaaGreatDoor
namespace Go.Proofs.YtghpdnfdbhjmpaaGreatDoor
set_option linter.unusedVariables false
set_option maxRecDepth 8000
theorem ty_one_3 : oneB Tryz.prog 3 = true := by kernel_rfl
theorem ty_size_3_1 : sizeB Tryz.prog 3 1 = true := by kernel_rfl
theorem ty_one_9 : oneB Tryz.prog 9 = true := by kernel_rfl
theorem ty_one_24 : oneB Tryz.prog 24 = true := by kernel_rfl
theorem ty_size_24_1 : sizeB Tryz.prog 24 1 = true := by kernel_rfl
theorem ty_slice_24 : sliceB Tryz.prog 24 1 = true := by kernel_rfl
theorem ty_ap_24 : apB Tryz.prog 24 1 16 = true := by kernel_rfl
theorem ty_one_25 : oneB Tryz.prog 25 = true := by kernel_rfl
theorem ty_size_25_1 : sizeB Tryz.prog 25 1 = true := by kernel_rfl
theorem ty_slice_25 : sliceB Tryz.prog 25 5 = true := by kernel_rfl
theorem ty_ap_25 : apB Tryz.prog 25 5 80 = true := by kernel_rfl
theorem ty_agg_27_5 : aggB Tryz.prog 27 5 = true := by kernel_rfl
theorem ty_size_27_5 : sizeB Tryz.prog 27 5 = true := by kernel_rfl
theorem ty_fld_27_0_0 : fldB Tryz.prog 27 0 0 = true := by kernel_rfl
theorem ty_fld_27_1_1 : fldB Tryz.prog 27 1 1 = true := by kernel_rfl
theorem ty_fld_27_2_2 : fldB Tryz.prog 27 2 2 = true := by kernel_rfl
theorem ty_fld_27_3_3 : fldB Tryz.prog 27 3 3 = true := by kernel_rfl
theorem ty_fld_27_4_4 : fldB Tryz.prog 27 4 4 = true := by kernel_rfl
theorem ty_zero_27 : (Tryz.prog.info? 27).bind (·.zero) = some (.agg #[.int .i64 0, .int .i64 0, .string ⟨#[]⟩, .slice none 0 0, .slice none 0 0]) := by kernel_rfl
theorem ty_slice_34 : sliceB Tryz.prog 34 1 = true := by kernel_rfl
theorem ty_ap_34 : apB Tryz.prog 34 1 1 = true := by kernel_rfl
theorem ty_fld_37_0_0 : fldB Tryz.prog 37 0 0 = true := by kernel_rfl
theorem ty_fld_37_1_1 : fldB Tryz.prog 37 1 1 = true := by kernel_rfl
theorem ty_fld_39_0_0 : fldB Tryz.prog 39 0 0 = true := by kernel_rfl
theorem ty_fld_39_1_2 : fldB Tryz.prog 39 1 2 = true := by kernel_rfl
theorem ty_ap_73 : apB Tryz.prog 73 1 4 = true := by kernel_rfl
end Go.Proofs.YtghpdnfdbhjmpaaGreatDoor
--@optional
namespace Go.Proofs.YtghpdnfdbhjmpaaGreatDoor
open Go.RowKit
set_option linter.unusedVariables false
set_option maxRecDepth 8000

theorem info_i32 : (Tryz.prog.info? 21).map (fun i => (i.zero, i.size, i.bytes)) = some (some (.int .i32 0), 1, 4) := by kernel_rfl
theorem info_u8 : (Tryz.prog.info? 5).map (fun i => (i.zero, i.size, i.bytes)) = some (some (.int .u8 0), 1, 1) := by kernel_rfl

end Go.Proofs.YtghpdnfdbhjmpaaGreatDoor
namespace Go.Proofs.YtghpdnfdbhjmpaaGreatDoor
open Go.RowKit
set_option linter.unusedVariables false
set_option linter.unusedSimpArgs false
set_option maxRecDepth 8000
set_option maxHeartbeats 2000000

def isRuneB (r : Int) : Bool := decide (0 ≤ r) && decide (r ≤ 1114111) && (decide (r < 55296) || decide (57343 < r))
def widthI (r : Int) : Int := if r ≤ 127 then 1 else if r ≤ 2047 then 2 else if r ≤ 65535 then 3 else 4
def leadR (c : Int) : Int := if c < 128 then c else if c < 192 then 0 else if c < 224 then c - 192 else if c < 240 then c - 224 else if c < 248 then c - 240 else 0
def leadN (c : Int) : Int := if c < 128 then 1 else if c < 192 then 0 else if c < 224 then 2 else if c < 240 then 3 else if c < 248 then 4 else 0

set_option maxHeartbeats 400000 in
theorem isRune_any (r : Int) (w : World) :
  Calls Tryz.prog 67 #[.int .i32 r] w fun e w' => e = .returned (.bool (isRuneB r)) ∧ w' = w := by
 go_enter Tryz.func67, Tryz.ntmps67
 go_wp2
 all_goals go_ret
 all_goals refine ⟨?_, rfl⟩
 all_goals (simp [isRuneB]; omega)
theorem rune_any (r : Int) (w : World) :
  Calls Tryz.prog 76 #[.int .i32 r] w fun e w' => e = .returned (.bool (isRuneB r)) ∧ w' = w := by
 go_enter Tryz.func76, Tryz.ntmps76
 go_wp2
 all_goals go_ret
 all_goals refine ⟨?_, rfl⟩
 all_goals (simp [isRuneB]; omega)
theorem width_any (r : Int) (w : World) :
  Calls Tryz.prog 68 #[.int .i32 r] w fun e w' => e = .returned (.int .i64 (widthI r)) ∧ w' = w := by
 go_enter Tryz.func68, Tryz.ntmps68
 go_wp2
 all_goals go_ret
 all_goals refine ⟨?_, rfl⟩
 all_goals (simp [widthI]; omega)
theorem lead_any (c : Int) (w : World) (h0 : 0 ≤ c) (h1 : c ≤ 255) :
  Calls Tryz.prog 66 #[.int .u8 c] w fun e w' => e = .returned (.tuple #[.int .i32 (leadR c), .int .i64 (leadN c)]) ∧ w' = w := by
 go_enter Tryz.func66, Tryz.ntmps66
 go_wp2
 all_goals go_ret2
 all_goals refine ⟨?_, rfl⟩
 all_goals (simp [leadR, leadN]; omega)
def contB (c : Int) : Bool := decide (128 ≤ c) && decide (c < 192)
def okS (r : Int) (n : Nat) : Option (Int × Nat) := if isRuneB r && widthI r == n then some (r, n) else none
def fstS (l : List Int) : Option (Int × Nat) :=
 if l.length = 0 then none
 else if at0 l 0 < 128 then some (at0 l 0, 1)
 else if at0 l 0 < 192 then none
 else if at0 l 0 < 224 then (if 2 ≤ l.length && contB (at0 l 1) then okS ((at0 l 0 - 192) * 64 + (at0 l 1 - 128)) 2 else none)
 else if at0 l 0 < 240 then (if 3 ≤ l.length && (contB (at0 l 1) && contB (at0 l 2)) then okS (((at0 l 0 - 224) * 64 + (at0 l 1 - 128)) * 64 + (at0 l 2 - 128)) 3 else none)
 else if at0 l 0 < 248 then (if 4 ≤ l.length && (contB (at0 l 1) && (contB (at0 l 2) && contB (at0 l 3))) then okS ((((at0 l 0 - 240) * 64 + (at0 l 1 - 128)) * 64 + (at0 l 2 - 128)) * 64 + (at0 l 3 - 128)) 4 else none)
 else none
def firstV : Option (Int × Nat) → Value
 | some (r, n) => .tuple #[.int .i32 r, .int .i64 n, .int .i64 0]
 | none => .tuple #[.int .i32 0, .int .i64 0, .int .i64 2]

theorem okS_yes {r : Int} {n : Nat} (h : 0 ≤ r ∧ r ≤ 1114111 ∧ (r < 55296 ∨ 57343 < r)) (hw : widthI r = n) : okS r n = some (r, n) := by
 obtain ⟨a, b, c⟩ := h
 rw [okS, if_pos]
 simp [isRuneB, hw, a, b, c]
theorem okS_no {r : Int} {n : Nat} (h : ¬ (0 ≤ r ∧ r ≤ 1114111 ∧ (r < 55296 ∨ 57343 < r)) ∨ widthI r ≠ n) : okS r n = none := by
 rw [okS, if_neg]
 intro hc
 simp [isRuneB] at hc
 omega
theorem mask192 (x : Int) (h0 : 0 ≤ x) (h1 : x ≤ 255) : (bits BinOp.and IntKind.u8 x 192 != 128) = !contB x := by
 have key : ∀ n : Fin 256, (bits BinOp.and IntKind.u8 (n.val : Int) 192 != 128) = !contB (n.val : Int) := by decide +kernel
 have := key ⟨x.toNat, by omega⟩
 simpa [Int.toNat_of_nonneg h0] using this
theorem mask_yes {x : Int} (h0 : 0 ≤ x) (h1 : x ≤ 255) (h : contB x = true) : (bits BinOp.and IntKind.u8 x 192 != 128) = false := by rw [mask192 x h0 h1, h]; rfl
theorem mask_no {x : Int} (h0 : 0 ≤ x) (h1 : x ≤ 255) (h : contB x = false) : (bits BinOp.and IntKind.u8 x 192 != 128) = true := by rw [mask192 x h0 h1, h]; rfl
theorem contB_iff {x : Int} : contB x = true ↔ 128 ≤ x ∧ x < 192 := by simp [contB]
theorem firstV_eq {r r' : Int} {n : Nat} (h : r = r') : Ending.returned (.tuple #[.int .i32 r, .int .i64 n, .int .i64 0]) = .returned (firstV (some (r', n))) := by subst h; rfl
theorem beq_no {a b : Int} (h : a ≠ b) : (a == b) = false := beq_eq_false_iff_ne.2 h
theorem beq_yes {a b : Int} (h : a = b) : (a == b) = true := beq_iff_eq.2 h

set_option maxHeartbeats 2000000 in
theorem first_any (v : Value) (l : List Int) (w : World) (h : RdI .u8 w v l) (hb : Bytes l) :
    Calls Tryz.prog 49 #[v] w fun e w' => e = .returned (firstV (fstS l)) ∧ Below w.heap.size w w' := by
  obtain ⟨a, ca, rfl, hla, hma, ha, -⟩ := h
  unfold maxLen at hma
  by_cases h0 : l.length = 0
  · have hne : ((l.length : Int) == 0) = true := beq_yes (by omega)
    have HF := Lib.hid (show fstS l = none by simp [fstS, h0])
    clear ha h0
    go_enter Tryz.func49, Tryz.ntmps49
    go_wp2
    go_ret3
    exact ⟨by rw [HF.out]; rfl, Below.refl _ _⟩
  have hne : ((l.length : Int) == 0) = false := beq_no (by omega)
  obtain ⟨x, o, rfl, hc⟩ := ha 0 (by omega)
  rw [Nat.add_zero] at hc
  obtain ⟨hz1, hz2⟩ := hb.at 0
  have hpos : 0 < l.length := by omega
  have hcell : ∀ k, k < l.length → w.cell? ⟨x, o + k, none⟩ = some (.int .u8 (at0 l k)) := fun k hk => by
    obtain ⟨x', o', e, h⟩ := ha k hk; cases e; exact h
  have HC := Lib.hid hcell; clear hcell ha
  by_cases c1 : at0 l 0 < 128
  · have HF := Lib.hid (show fstS l = some (at0 l 0, 1) by rw [fstS, if_neg h0, if_pos c1])
    have hr : leadR (at0 l 0) = at0 l 0 := by unfold leadR; omega
    have hn : leadN (at0 l 0) = 1 := by unfold leadN; omega
    go_enter Tryz.func49, Tryz.ntmps49
    go_wp2_with (go_at_call 66; refine (lead_any _ _ (by assumption) (by assumption)).mono ?_; rintro e w' ⟨rfl, rfl⟩)
    go_rounds 1
    all_goals go_ret3
    all_goals refine ⟨?_, Below.refl _ _⟩
    all_goals rw [HF.out]
    all_goals rfl
  by_cases c2 : at0 l 0 < 192
  · have HF := Lib.hid (show fstS l = none by rw [fstS, if_neg h0, if_neg c1, if_pos c2])
    have hr : leadR (at0 l 0) = 0 := by unfold leadR; omega
    have hn : leadN (at0 l 0) = 0 := by unfold leadN; omega
    go_enter Tryz.func49, Tryz.ntmps49
    go_wp2_with (go_at_call 66; refine (lead_any _ _ (by assumption) (by assumption)).mono ?_; rintro e w' ⟨rfl, rfl⟩)
    all_goals go_ret3
    all_goals refine ⟨?_, Below.refl _ _⟩
    all_goals rw [HF.out]
    all_goals rfl
  by_cases c3 : at0 l 0 < 224
  · have hr : leadR (at0 l 0) = at0 l 0 - 192 := by unfold leadR; omega
    have hn : leadN (at0 l 0) = 2 := by unfold leadN; omega
    by_cases hl : 2 ≤ l.length
    · have HL := Lib.hid hl
      have d1 := HC.out 1 (by omega)
      obtain ⟨e1, f1⟩ := hb.at 1
      have lt1 : 1 < l.length := by omega
      by_cases q1 : contB (at0 l 1) = true
      rotate_left
      · have q1' : contB (at0 l 1) = false := by simpa using q1
        have HF := Lib.hid (show fstS l = none by rw [fstS, if_neg h0, if_neg c1, if_neg c2, if_pos c3]; simp [q1'])
        have m1 := mask_no e1 f1 q1'
        have Q := Lib.hid q1'; clear q1 q1'
        go_enter Tryz.func49, Tryz.ntmps49
        go_wp2_with (go_at_call 66; refine (lead_any _ _ (by assumption) (by assumption)).mono ?_; rintro e w' ⟨rfl, rfl⟩)
        go_rounds 2
        all_goals go_ret3
        all_goals refine ⟨?_, Below.refl _ _⟩
        all_goals rw [HF.out]
        all_goals rfl
      have m1 := mask_yes e1 f1 q1
      obtain ⟨g1, i1⟩ := contB_iff.1 q1
      have x1 : at0 l 1 % 64 = at0 l 1 - 128 := by omega
      have HF := Lib.hid (show fstS l = okS ((at0 l 0 - 192) * 64 + (at0 l 1 - 128)) 2 by rw [fstS, if_neg h0, if_neg c1, if_neg c2, if_pos c3]; simp [hl, q1])
      clear q1
      go_enter Tryz.func49, Tryz.ntmps49
      go_wp2_with (go_at_call 66; refine (lead_any _ _ (by assumption) (by assumption)).mono ?_; rintro e w' ⟨rfl, rfl⟩)
      go_rounds 2
      all_goals go_ret3
      all_goals refine ⟨?_, Below.refl _ _⟩
      all_goals first
        | (rw [HF.out, okS_yes (by omega) (by unfold widthI; omega)]; exact firstV_eq (by omega))
        | (rw [HF.out, okS_no (by unfold widthI; omega)]; rfl)
        | (exfalso; simp only [Bool.not_eq_true', decide_eq_false_iff_not] at *; omega)
    · have HF := Lib.hid (show fstS l = none by rw [fstS, if_neg h0, if_neg c1, if_neg c2, if_pos c3]; simp [hl])
      go_enter Tryz.func49, Tryz.ntmps49
      go_wp2_with (go_at_call 66; refine (lead_any _ _ (by assumption) (by assumption)).mono ?_; rintro e w' ⟨rfl, rfl⟩)
      all_goals go_ret3
      all_goals refine ⟨?_, Below.refl _ _⟩
      all_goals rw [HF.out]
      all_goals rfl
  by_cases c4 : at0 l 0 < 240
  · have hr : leadR (at0 l 0) = at0 l 0 - 224 := by unfold leadR; omega
    have hn : leadN (at0 l 0) = 3 := by unfold leadN; omega
    by_cases hl : 3 ≤ l.length
    · have HL := Lib.hid hl
      have d1 := HC.out 1 (by omega)
      obtain ⟨e1, f1⟩ := hb.at 1
      have lt1 : 1 < l.length := by omega
      have d2 := HC.out 2 (by omega)
      obtain ⟨e2, f2⟩ := hb.at 2
      have lt2 : 2 < l.length := by omega
      by_cases q1 : contB (at0 l 1) = true
      rotate_left
      · have q1' : contB (at0 l 1) = false := by simpa using q1
        have HF := Lib.hid (show fstS l = none by rw [fstS, if_neg h0, if_neg c1, if_neg c2, if_neg c3, if_pos c4]; simp [q1'])
        have m1 := mask_no e1 f1 q1'
        have Q := Lib.hid q1'; clear q1 q1'
        go_enter Tryz.func49, Tryz.ntmps49
        go_wp2_with (go_at_call 66; refine (lead_any _ _ (by assumption) (by assumption)).mono ?_; rintro e w' ⟨rfl, rfl⟩)
        go_rounds 3
        all_goals go_ret3
        all_goals refine ⟨?_, Below.refl _ _⟩
        all_goals rw [HF.out]
        all_goals rfl
      have m1 := mask_yes e1 f1 q1
      obtain ⟨g1, i1⟩ := contB_iff.1 q1
      have x1 : at0 l 1 % 64 = at0 l 1 - 128 := by omega
      by_cases q2 : contB (at0 l 2) = true
      rotate_left
      · have q2' : contB (at0 l 2) = false := by simpa using q2
        have HF := Lib.hid (show fstS l = none by rw [fstS, if_neg h0, if_neg c1, if_neg c2, if_neg c3, if_pos c4]; simp [q1, q2'])
        have m2 := mask_no e2 f2 q2'
        have Q := Lib.hid q2'; clear q2 q2'
        go_enter Tryz.func49, Tryz.ntmps49
        go_wp2_with (go_at_call 66; refine (lead_any _ _ (by assumption) (by assumption)).mono ?_; rintro e w' ⟨rfl, rfl⟩)
        go_rounds 3
        all_goals go_ret3
        all_goals refine ⟨?_, Below.refl _ _⟩
        all_goals rw [HF.out]
        all_goals rfl
      have m2 := mask_yes e2 f2 q2
      obtain ⟨g2, i2⟩ := contB_iff.1 q2
      have x2 : at0 l 2 % 64 = at0 l 2 - 128 := by omega
      have HF := Lib.hid (show fstS l = okS (((at0 l 0 - 224) * 64 + (at0 l 1 - 128)) * 64 + (at0 l 2 - 128)) 3 by rw [fstS, if_neg h0, if_neg c1, if_neg c2, if_neg c3, if_pos c4]; simp [hl, q1, q2])
      clear q1 q2
      go_enter Tryz.func49, Tryz.ntmps49
      go_wp2_with (go_at_call 66; refine (lead_any _ _ (by assumption) (by assumption)).mono ?_; rintro e w' ⟨rfl, rfl⟩)
      go_rounds 3
      all_goals go_ret3
      all_goals refine ⟨?_, Below.refl _ _⟩
      all_goals first
        | (rw [HF.out, okS_yes (by omega) (by unfold widthI; omega)]; exact firstV_eq (by omega))
        | (rw [HF.out, okS_no (by unfold widthI; omega)]; rfl)
        | (exfalso; simp only [Bool.not_eq_true', decide_eq_false_iff_not] at *; omega)
    · have HF := Lib.hid (show fstS l = none by rw [fstS, if_neg h0, if_neg c1, if_neg c2, if_neg c3, if_pos c4]; simp [hl])
      go_enter Tryz.func49, Tryz.ntmps49
      go_wp2_with (go_at_call 66; refine (lead_any _ _ (by assumption) (by assumption)).mono ?_; rintro e w' ⟨rfl, rfl⟩)
      all_goals go_ret3
      all_goals refine ⟨?_, Below.refl _ _⟩
      all_goals rw [HF.out]
      all_goals rfl
  by_cases c5 : at0 l 0 < 248
  · have hr : leadR (at0 l 0) = at0 l 0 - 240 := by unfold leadR; omega
    have hn : leadN (at0 l 0) = 4 := by unfold leadN; omega
    by_cases hl : 4 ≤ l.length
    · have HL := Lib.hid hl
      have d1 := HC.out 1 (by omega)
      obtain ⟨e1, f1⟩ := hb.at 1
      have lt1 : 1 < l.length := by omega
      have d2 := HC.out 2 (by omega)
      obtain ⟨e2, f2⟩ := hb.at 2
      have lt2 : 2 < l.length := by omega
      have d3 := HC.out 3 (by omega)
      obtain ⟨e3, f3⟩ := hb.at 3
      have lt3 : 3 < l.length := by omega
      by_cases q1 : contB (at0 l 1) = true
      rotate_left
      · have q1' : contB (at0 l 1) = false := by simpa using q1
        have HF := Lib.hid (show fstS l = none by rw [fstS, if_neg h0, if_neg c1, if_neg c2, if_neg c3, if_neg c4, if_pos c5]; simp [q1'])
        have m1 := mask_no e1 f1 q1'
        have Q := Lib.hid q1'; clear q1 q1'
        go_enter Tryz.func49, Tryz.ntmps49
        go_wp2_with (go_at_call 66; refine (lead_any _ _ (by assumption) (by assumption)).mono ?_; rintro e w' ⟨rfl, rfl⟩)
        go_rounds 4
        all_goals go_ret3
        all_goals refine ⟨?_, Below.refl _ _⟩
        all_goals rw [HF.out]
        all_goals rfl
      have m1 := mask_yes e1 f1 q1
      obtain ⟨g1, i1⟩ := contB_iff.1 q1
      have x1 : at0 l 1 % 64 = at0 l 1 - 128 := by omega
      by_cases q2 : contB (at0 l 2) = true
      rotate_left
      · have q2' : contB (at0 l 2) = false := by simpa using q2
        have HF := Lib.hid (show fstS l = none by rw [fstS, if_neg h0, if_neg c1, if_neg c2, if_neg c3, if_neg c4, if_pos c5]; simp [q1, q2'])
        have m2 := mask_no e2 f2 q2'
        have Q := Lib.hid q2'; clear q2 q2'
        go_enter Tryz.func49, Tryz.ntmps49
        go_wp2_with (go_at_call 66; refine (lead_any _ _ (by assumption) (by assumption)).mono ?_; rintro e w' ⟨rfl, rfl⟩)
        go_rounds 4
        all_goals go_ret3
        all_goals refine ⟨?_, Below.refl _ _⟩
        all_goals rw [HF.out]
        all_goals rfl
      have m2 := mask_yes e2 f2 q2
      obtain ⟨g2, i2⟩ := contB_iff.1 q2
      have x2 : at0 l 2 % 64 = at0 l 2 - 128 := by omega
      by_cases q3 : contB (at0 l 3) = true
      rotate_left
      · have q3' : contB (at0 l 3) = false := by simpa using q3
        have HF := Lib.hid (show fstS l = none by rw [fstS, if_neg h0, if_neg c1, if_neg c2, if_neg c3, if_neg c4, if_pos c5]; simp [q1, q2, q3'])
        have m3 := mask_no e3 f3 q3'
        have Q := Lib.hid q3'; clear q3 q3'
        go_enter Tryz.func49, Tryz.ntmps49
        go_wp2_with (go_at_call 66; refine (lead_any _ _ (by assumption) (by assumption)).mono ?_; rintro e w' ⟨rfl, rfl⟩)
        go_rounds 4
        all_goals go_ret3
        all_goals refine ⟨?_, Below.refl _ _⟩
        all_goals rw [HF.out]
        all_goals rfl
      have m3 := mask_yes e3 f3 q3
      obtain ⟨g3, i3⟩ := contB_iff.1 q3
      have x3 : at0 l 3 % 64 = at0 l 3 - 128 := by omega
      have HF := Lib.hid (show fstS l = okS ((((at0 l 0 - 240) * 64 + (at0 l 1 - 128)) * 64 + (at0 l 2 - 128)) * 64 + (at0 l 3 - 128)) 4 by rw [fstS, if_neg h0, if_neg c1, if_neg c2, if_neg c3, if_neg c4, if_pos c5]; simp [hl, q1, q2, q3])
      clear q1 q2 q3
      go_enter Tryz.func49, Tryz.ntmps49
      go_wp2_with (go_at_call 66; refine (lead_any _ _ (by assumption) (by assumption)).mono ?_; rintro e w' ⟨rfl, rfl⟩)
      go_rounds 4
      all_goals go_ret3
      all_goals refine ⟨?_, Below.refl _ _⟩
      all_goals first
        | (rw [HF.out, okS_yes (by omega) (by unfold widthI; omega)]; exact firstV_eq (by omega))
        | (rw [HF.out, okS_no (by unfold widthI; omega)]; rfl)
        | (exfalso; simp only [Bool.not_eq_true', decide_eq_false_iff_not] at *; omega)
    · have HF := Lib.hid (show fstS l = none by rw [fstS, if_neg h0, if_neg c1, if_neg c2, if_neg c3, if_neg c4, if_pos c5]; simp [hl])
      go_enter Tryz.func49, Tryz.ntmps49
      go_wp2_with (go_at_call 66; refine (lead_any _ _ (by assumption) (by assumption)).mono ?_; rintro e w' ⟨rfl, rfl⟩)
      all_goals go_ret3
      all_goals refine ⟨?_, Below.refl _ _⟩
      all_goals rw [HF.out]
      all_goals rfl
  have HF := Lib.hid (show fstS l = none by rw [fstS, if_neg h0, if_neg c1, if_neg c2, if_neg c3, if_neg c4, if_neg c5])
  have hr : leadR (at0 l 0) = 0 := by unfold leadR; omega
  have hn : leadN (at0 l 0) = 0 := by unfold leadN; omega
  go_enter Tryz.func49, Tryz.ntmps49
  go_wp2_with (go_at_call 66; refine (lead_any _ _ (by assumption) (by assumption)).mono ?_; rintro e w' ⟨rfl, rfl⟩)
  all_goals go_ret3
  all_goals refine ⟨?_, Below.refl _ _⟩
  all_goals rw [HF.out]
  all_goals rfl
theorem fst2_yes {l : List Int} (h0 : 192 ≤ at0 l 0 ∧ at0 l 0 < 224) (hl : 2 ≤ l.length) (hc : (128 ≤ at0 l 1 ∧ at0 l 1 < 192))
  (hr : 128 ≤ (at0 l 0 - 192) * 64 + at0 l 1 - 128 ∧ (at0 l 0 - 192) * 64 + at0 l 1 - 128 ≤ 2047 ∧ ((at0 l 0 - 192) * 64 + at0 l 1 - 128 < 55296 ∨ 57343 < (at0 l 0 - 192) * 64 + at0 l 1 - 128)) :
  fstS l = some ((at0 l 0 - 192) * 64 + at0 l 1 - 128, 2) := by
 obtain ⟨hc1, hc1b⟩ := hc
 have hd1 := contB_iff.2 ⟨hc1, hc1b⟩
 rw [fstS, if_neg (by omega), if_neg (by omega), if_neg (by omega), if_pos (by omega), if_pos (by simp [hl, hd1]), okS_yes (by omega) (by unfold widthI; omega)]
 have e : ∀ r r' : Int, r = r' → (some (r, 2) : Option (Int × Nat)) = some (r', 2) := fun r r' h => by rw [h]
 exact e _ _ (by omega)
theorem fst2_no {l : List Int} (h0 : 192 ≤ at0 l 0 ∧ at0 l 0 < 224) (h : l.length < 2 ∨ at0 l 1 < 128 ∨ 192 ≤ at0 l 1 ∨
    ¬ (128 ≤ (at0 l 0 - 192) * 64 + at0 l 1 - 128 ∧ (at0 l 0 - 192) * 64 + at0 l 1 - 128 ≤ 2047 ∧ ((at0 l 0 - 192) * 64 + at0 l 1 - 128 < 55296 ∨ 57343 < (at0 l 0 - 192) * 64 + at0 l 1 - 128))) : fstS l = none := by
  by_cases h1 : l.length = 0
  · rw [fstS, if_pos h1]
  rw [fstS, if_neg (by omega), if_neg (by omega), if_neg (by omega), if_pos (by omega)]
  split
  · rename_i hq
    simp [contB] at hq
    exact okS_no (by unfold widthI; omega)
  · rfl
theorem fst3_yes {l : List Int} (h0 : 224 ≤ at0 l 0 ∧ at0 l 0 < 240) (hl : 3 ≤ l.length) (hc : (128 ≤ at0 l 1 ∧ at0 l 1 < 192) ∧ (128 ≤ at0 l 2 ∧ at0 l 2 < 192))
  (hr : 2048 ≤ ((at0 l 0 - 224) * 64 + at0 l 1 - 128) * 64 + at0 l 2 - 128 ∧ ((at0 l 0 - 224) * 64 + at0 l 1 - 128) * 64 + at0 l 2 - 128 ≤ 65535 ∧ (((at0 l 0 - 224) * 64 + at0 l 1 - 128) * 64 + at0 l 2 - 128 < 55296 ∨ 57343 < ((at0 l 0 - 224) * 64 + at0 l 1 - 128) * 64 + at0 l 2 - 128)) :
  fstS l = some (((at0 l 0 - 224) * 64 + at0 l 1 - 128) * 64 + at0 l 2 - 128, 3) := by
 obtain ⟨hc1, hc2⟩ := hc
 have hd1 := contB_iff.2 hc1
 have hd2 := contB_iff.2 hc2
 rw [fstS, if_neg (by omega), if_neg (by omega), if_neg (by omega), if_neg (by omega), if_pos (by omega), if_pos (by simp [hl, hd1, hd2]), okS_yes (by omega) (by unfold widthI; omega)]
 have e : ∀ r r' : Int, r = r' → (some (r, 3) : Option (Int × Nat)) = some (r', 3) := fun r r' h => by rw [h]
 exact e _ _ (by omega)
theorem fst3_no {l : List Int} (h0 : 224 ≤ at0 l 0 ∧ at0 l 0 < 240) (h : l.length < 3 ∨ at0 l 1 < 128 ∨ 192 ≤ at0 l 1 ∨ at0 l 2 < 128 ∨ 192 ≤ at0 l 2 ∨
    ¬ (2048 ≤ ((at0 l 0 - 224) * 64 + at0 l 1 - 128) * 64 + at0 l 2 - 128 ∧ ((at0 l 0 - 224) * 64 + at0 l 1 - 128) * 64 + at0 l 2 - 128 ≤ 65535 ∧ (((at0 l 0 - 224) * 64 + at0 l 1 - 128) * 64 + at0 l 2 - 128 < 55296 ∨ 57343 < ((at0 l 0 - 224) * 64 + at0 l 1 - 128) * 64 + at0 l 2 - 128))) : fstS l = none := by
  by_cases h1 : l.length = 0
  · rw [fstS, if_pos h1]
  rw [fstS, if_neg (by omega), if_neg (by omega), if_neg (by omega), if_neg (by omega), if_pos (by omega)]
  split
  · rename_i hq
    simp [contB] at hq
    exact okS_no (by unfold widthI; omega)
  · rfl
theorem fst4_yes {l : List Int} (h0 : 240 ≤ at0 l 0 ∧ at0 l 0 < 248) (hl : 4 ≤ l.length) (hc : (128 ≤ at0 l 1 ∧ at0 l 1 < 192) ∧ (128 ≤ at0 l 2 ∧ at0 l 2 < 192) ∧ (128 ≤ at0 l 3 ∧ at0 l 3 < 192))
  (hr : 65536 ≤ (((at0 l 0 - 240) * 64 + at0 l 1 - 128) * 64 + at0 l 2 - 128) * 64 + at0 l 3 - 128 ∧ (((at0 l 0 - 240) * 64 + at0 l 1 - 128) * 64 + at0 l 2 - 128) * 64 + at0 l 3 - 128 ≤ 1114111 ∧ ((((at0 l 0 - 240) * 64 + at0 l 1 - 128) * 64 + at0 l 2 - 128) * 64 + at0 l 3 - 128 < 55296 ∨ 57343 < (((at0 l 0 - 240) * 64 + at0 l 1 - 128) * 64 + at0 l 2 - 128) * 64 + at0 l 3 - 128)) :
  fstS l = some ((((at0 l 0 - 240) * 64 + at0 l 1 - 128) * 64 + at0 l 2 - 128) * 64 + at0 l 3 - 128, 4) := by
 obtain ⟨hc1, hc2, hc3⟩ := hc
 have hd1 := contB_iff.2 hc1
 have hd2 := contB_iff.2 hc2
 have hd3 := contB_iff.2 hc3
 rw [fstS, if_neg (by omega), if_neg (by omega), if_neg (by omega), if_neg (by omega), if_neg (by omega), if_pos (by omega), if_pos (by simp [hl, hd1, hd2, hd3]), okS_yes (by omega) (by unfold widthI; omega)]
 have e : ∀ r r' : Int, r = r' → (some (r, 4) : Option (Int × Nat)) = some (r', 4) := fun r r' h => by rw [h]
 exact e _ _ (by omega)
theorem fst4_no {l : List Int} (h0 : 240 ≤ at0 l 0 ∧ at0 l 0 < 248) (h : l.length < 4 ∨ at0 l 1 < 128 ∨ 192 ≤ at0 l 1 ∨ at0 l 2 < 128 ∨ 192 ≤ at0 l 2 ∨ at0 l 3 < 128 ∨ 192 ≤ at0 l 3 ∨
    ¬ (65536 ≤ (((at0 l 0 - 240) * 64 + at0 l 1 - 128) * 64 + at0 l 2 - 128) * 64 + at0 l 3 - 128 ∧ (((at0 l 0 - 240) * 64 + at0 l 1 - 128) * 64 + at0 l 2 - 128) * 64 + at0 l 3 - 128 ≤ 1114111 ∧ ((((at0 l 0 - 240) * 64 + at0 l 1 - 128) * 64 + at0 l 2 - 128) * 64 + at0 l 3 - 128 < 55296 ∨ 57343 < (((at0 l 0 - 240) * 64 + at0 l 1 - 128) * 64 + at0 l 2 - 128) * 64 + at0 l 3 - 128))) : fstS l = none := by
  by_cases h1 : l.length = 0
  · rw [fstS, if_pos h1]
  rw [fstS, if_neg (by omega), if_neg (by omega), if_neg (by omega), if_neg (by omega), if_neg (by omega), if_pos (by omega)]
  split
  · rename_i hq
    simp [contB] at hq
    exact okS_no (by unfold widthI; omega)
  · rfl
theorem fst5_no {l : List Int} (h : 248 ≤ at0 l 0 ∨ (128 ≤ at0 l 0 ∧ at0 l 0 < 192) ∨ l.length = 0) : fstS l = none := by
 by_cases h1 : l.length = 0
 · rw [fstS, if_pos h1]
 rw [fstS, if_neg h1, if_neg (by omega)]
 split
 · rfl
 rw [if_neg (by omega), if_neg (by omega), if_neg (by omega)]
theorem fst1_yes {l : List Int} (h : at0 l 0 < 128) (hl : 1 ≤ l.length) : fstS l = some (at0 l 0, 1) := by
 rw [fstS, if_neg (by omega), if_pos h]
theorem isRune_yes {r : Int} (h : 0 ≤ r ∧ r ≤ 1114111 ∧ (r < 55296 ∨ 57343 < r)) : isRuneB r = true := by
 simp [isRuneB]; omega
theorem isRune_no {r : Int} (h : ¬ (0 ≤ r ∧ r ≤ 1114111 ∧ (r < 55296 ∨ 57343 < r))) : isRuneB r = false := by
 simp [isRuneB]; omega

theorem one1_any (r : Int) (w : World) (h0 : 0 ≤ r) (h1 : r ≤ 127) :
  Calls Tryz.prog 77 #[.int .i32 r] w fun e w' => e = .returned (.slice (some ⟨w.heap.size, 0, none⟩) 1 1) ∧ Below w.heap.size w w' ∧ w'.cell? ⟨w.heap.size, 0, none⟩ = some (.int .u8 (r)) := by
 go_enter Tryz.func77, Tryz.ntmps77
 go_wp2
 all_goals go_ret
 all_goals refine ⟨rfl, (Below.refl _ _).alloc (Nat.le_refl _) _, ?_⟩
 all_goals (rw [World.cell?_alloc_at _ _ _ _ rfl]; rfl)
theorem one2_any (r : Int) (w : World) (h0 : 128 ≤ r) (h1 : r ≤ 2047) :
  Calls Tryz.prog 77 #[.int .i32 r] w fun e w' => e = .returned (.slice (some ⟨w.heap.size, 0, none⟩) 2 2) ∧ Below w.heap.size w w' ∧ w'.cell? ⟨w.heap.size, 0, none⟩ = some (.int .u8 (192 + r / 64)) ∧ w'.cell? ⟨w.heap.size, 1, none⟩ = some (.int .u8 (128 + r % 64)) := by
 go_enter Tryz.func77, Tryz.ntmps77
 go_wp2
 all_goals go_ret
 all_goals refine ⟨rfl, (Below.refl _ _).alloc (Nat.le_refl _) _, ?_, ?_⟩
 all_goals (rw [World.cell?_alloc_at _ _ _ _ rfl]; rfl)
theorem one3_any (r : Int) (w : World) (h0 : 2048 ≤ r) (h1 : r ≤ 65535) :
  Calls Tryz.prog 77 #[.int .i32 r] w fun e w' => e = .returned (.slice (some ⟨w.heap.size, 0, none⟩) 3 3) ∧ Below w.heap.size w w' ∧ w'.cell? ⟨w.heap.size, 0, none⟩ = some (.int .u8 (224 + r / 4096)) ∧ w'.cell? ⟨w.heap.size, 1, none⟩ = some (.int .u8 (128 + r / 64 % 64)) ∧ w'.cell? ⟨w.heap.size, 2, none⟩ = some (.int .u8 (128 + r % 64)) := by
 go_enter Tryz.func77, Tryz.ntmps77
 go_wp2
 all_goals go_ret
 all_goals refine ⟨rfl, (Below.refl _ _).alloc (Nat.le_refl _) _, ?_, ?_, ?_⟩
 all_goals (rw [World.cell?_alloc_at _ _ _ _ rfl]; rfl)
theorem one4_any (r : Int) (w : World) (h0 : 65536 ≤ r) (h1 : r ≤ 1114111) :
  Calls Tryz.prog 77 #[.int .i32 r] w fun e w' => e = .returned (.slice (some ⟨w.heap.size, 0, none⟩) 4 4) ∧ Below w.heap.size w w' ∧ w'.cell? ⟨w.heap.size, 0, none⟩ = some (.int .u8 (240 + r / 262144)) ∧ w'.cell? ⟨w.heap.size, 1, none⟩ = some (.int .u8 (128 + r / 4096 % 64)) ∧ w'.cell? ⟨w.heap.size, 2, none⟩ = some (.int .u8 (128 + r / 64 % 64)) ∧ w'.cell? ⟨w.heap.size, 3, none⟩ = some (.int .u8 (128 + r % 64)) := by
 go_enter Tryz.func77, Tryz.ntmps77
 go_wp2
 all_goals go_ret
 all_goals refine ⟨rfl, (Below.refl _ _).alloc (Nat.le_refl _) _, ?_, ?_, ?_, ?_⟩
 all_goals (rw [World.cell?_alloc_at _ _ _ _ rfl]; rfl)
set_option maxHeartbeats 4000000 in
theorem ref_first_11 (x o : Nat) (ca : Nat) (l : List Int) (w : World) (hma : ca ≤ 9223372036854775807) (hla : l.length ≤ ca) (hb : Bytes l) (hcell : ∀ k, k < l.length → w.cell? ⟨x, o + k, none⟩ = some (.int .u8 (at0 l k))) (h0 : 0 < l.length)
  (hcls : at0 l 0 < 192) (h1 : 0 ≤ at0 l 0) (h2 : at0 l 0 ≤ 127) (hR : at0 l 0 < 55296 ∨ 57343 < at0 l 0) :
  Calls Tryz.prog 63 #[.slice (some ⟨x, o, none⟩) l.length ca] w fun e w' => e = .returned (firstV (fstS l)) ∧ Below w.heap.size w w' := by
 have hne : ((l.length : Int) == 0) = false := beq_no (by omega)
 have d0 := hcell 0 h0
 rw [Nat.add_zero] at d0
 have hx : x < w.heap.size := World.block_lt_of_cell? w ⟨x, o, none⟩ d0
 obtain ⟨e0, f0⟩ := hb.at 0
 have HC := Lib.hid hcell; clear hcell
 have hr : isRuneB (at0 l 0) = true := isRune_yes (by omega)
 go_enter Tryz.func63, Tryz.ntmps63
 go_wp2
 go_quiet (fail)
 go_wp2
 refine wp_loop_rounds 4 ?_
 repeat any_goals (rw [rounds_succ]; go_wp2_with (first | (go_at_call 76; refine (rune_any _ _).mono ?_; rintro e w1 ⟨rfl, rfl⟩) | (go_at_call 77; refine (one1_any _ _ (by omega) (by omega)).mono ?_; rintro e w1 ⟨rfl, hbe, n0⟩; have hbe2 := (below_drewN (Below.refl w.heap.size w) _).trans hbe; have D0 := (hbe.cell (p := ⟨x, o, none⟩) hx).trans d0; simp only [World.heap_drewN] at n0; clear hbe)))
 refine wp_loop_rounds 5 ?_
 repeat any_goals (first | (rw [rounds_succ]; go_wp2) | (go_quiet (fail); go_wp2))
 all_goals go_ret3
 all_goals refine ⟨?_, by repeat (first | assumption | exact Below.refl _ _ | refine below_drewN ?_ _ | refine Below.alloc ?_ (by simp) _ | refine Below.drew ?_)⟩
 all_goals (rw [fst1_yes (by omega) (by omega)]; rfl)
set_option maxHeartbeats 4000000 in
theorem ref_first_12 (x o : Nat) (ca : Nat) (l : List Int) (w : World) (hma : ca ≤ 9223372036854775807) (hla : l.length ≤ ca) (hb : Bytes l) (hcell : ∀ k, k < l.length → w.cell? ⟨x, o + k, none⟩ = some (.int .u8 (at0 l k))) (h0 : 0 < l.length)
  (hcls : at0 l 0 < 192) (h1 : 128 ≤ at0 l 0) (h2 : at0 l 0 ≤ 2047) (hR : at0 l 0 < 55296 ∨ 57343 < at0 l 0) :
  Calls Tryz.prog 63 #[.slice (some ⟨x, o, none⟩) l.length ca] w fun e w' => e = .returned (firstV (fstS l)) ∧ Below w.heap.size w w' := by
 have hne : ((l.length : Int) == 0) = false := beq_no (by omega)
 have d0 := hcell 0 h0
 rw [Nat.add_zero] at d0
 have hx : x < w.heap.size := World.block_lt_of_cell? w ⟨x, o, none⟩ d0
 obtain ⟨e0, f0⟩ := hb.at 0
 have HC := Lib.hid hcell; clear hcell
 have HF := Lib.hid (show fstS l = none from fst5_no (.inr (.inl ⟨h1, hcls⟩)))
 have hr : isRuneB (at0 l 0) = true := isRune_yes (by omega)
 go_enter Tryz.func63, Tryz.ntmps63
 go_wp2
 go_quiet (fail)
 go_wp2
 refine wp_loop_rounds 4 ?_
 repeat any_goals (rw [rounds_succ]; go_wp2_with (first | (go_at_call 76; refine (rune_any _ _).mono ?_; rintro e w1 ⟨rfl, rfl⟩) | (go_at_call 77; refine (one2_any _ _ (by omega) (by omega)).mono ?_; rintro e w1 ⟨rfl, hbe, n0, n1⟩; have hbe2 := (below_drewN (Below.refl w.heap.size w) _).trans hbe; have D0 := (hbe.cell (p := ⟨x, o, none⟩) hx).trans d0; simp only [World.heap_drewN] at n0 n1; clear hbe)))
 all_goals go_ret3
 all_goals exact ⟨by rw [HF.out]; rfl, by repeat (first | assumption | exact Below.refl _ _ | refine below_drewN ?_ _ | refine Below.alloc ?_ (by simp) _ | refine Below.drew ?_)⟩
set_option maxHeartbeats 4000000 in
theorem ref_first_2s (x o : Nat) (ca : Nat) (l : List Int) (w : World) (hma : ca ≤ 9223372036854775807) (hla : l.length ≤ ca) (hb : Bytes l) (hcell : ∀ k, k < l.length → w.cell? ⟨x, o + k, none⟩ = some (.int .u8 (at0 l k))) (h0 : 0 < l.length)
  (hcls : 192 ≤ at0 l 0 ∧ at0 l 0 < 224) (hs : l.length < 2) :
  Calls Tryz.prog 63 #[.slice (some ⟨x, o, none⟩) l.length ca] w fun e w' => e = .returned (firstV (fstS l)) ∧ Below w.heap.size w w' := by
 have hne : ((l.length : Int) == 0) = false := beq_no (by omega)
 have d0 := hcell 0 h0
 rw [Nat.add_zero] at d0
 have hx : x < w.heap.size := World.block_lt_of_cell? w ⟨x, o, none⟩ d0
 obtain ⟨e0, f0⟩ := hb.at 0
 obtain ⟨k0, k1⟩ := hcls
 have HF := Lib.hid (show fstS l = none from fst2_no ⟨k0, k1⟩ (.inl hs))
 clear hcell
 go_enter Tryz.func63, Tryz.ntmps63
 go_wp2
 go_quiet (fail)
 go_wp2
 go_quiet (fail)
 go_wp2
 go_ret3
 exact ⟨by rw [HF.out]; rfl, by repeat (first | assumption | exact Below.refl _ _ | refine below_drewN ?_ _ | refine Below.alloc ?_ (by simp) _ | refine Below.drew ?_)⟩
set_option maxHeartbeats 4000000 in
theorem ref_first_2n (x o : Nat) (ca : Nat) (l : List Int) (w : World) (hma : ca ≤ 9223372036854775807) (hla : l.length ≤ ca) (hb : Bytes l) (hcell : ∀ k, k < l.length → w.cell? ⟨x, o + k, none⟩ = some (.int .u8 (at0 l k))) (h0 : 0 < l.length)
  (hcls : 192 ≤ at0 l 0 ∧ at0 l 0 < 224) (hl : 2 ≤ l.length) (hR : ¬ (0 ≤ (at0 l 0 - 192) * 64 + at0 l 1 - 128 ∧ (at0 l 0 - 192) * 64 + at0 l 1 - 128 ≤ 1114111 ∧ ((at0 l 0 - 192) * 64 + at0 l 1 - 128 < 55296 ∨ 57343 < (at0 l 0 - 192) * 64 + at0 l 1 - 128))) :
  Calls Tryz.prog 63 #[.slice (some ⟨x, o, none⟩) l.length ca] w fun e w' => e = .returned (firstV (fstS l)) ∧ Below w.heap.size w w' := by
 have hne : ((l.length : Int) == 0) = false := beq_no (by omega)
 have d0 := hcell 0 h0
 rw [Nat.add_zero] at d0
 have hx : x < w.heap.size := World.block_lt_of_cell? w ⟨x, o, none⟩ d0
 obtain ⟨e0, f0⟩ := hb.at 0
 obtain ⟨k0, k1⟩ := hcls
 have d1 := hcell 1 (by omega)
 obtain ⟨e1, f1⟩ := hb.at 1
 have lt1 : 1 < l.length := by omega
 have HC := Lib.hid hcell; clear hcell
 have HF := Lib.hid (show fstS l = none from fst2_no ⟨k0, k1⟩ (by omega))
 have hr := isRune_no hR
 clear hR
 go_enter Tryz.func63, Tryz.ntmps63
 go_wp2
 go_quiet (fail)
 go_wp2
 go_quiet (fail)
 go_wp2
 refine wp_loop_rounds 4 ?_
 repeat any_goals (rw [rounds_succ]; go_wp2_with (go_at_call 76; refine (rune_any _ _).mono ?_; rintro e w1 ⟨rfl, rfl⟩))
 all_goals go_ret3
 all_goals exact ⟨by rw [HF.out]; rfl, by repeat (first | assumption | exact Below.refl _ _ | refine below_drewN ?_ _ | refine Below.alloc ?_ (by simp) _ | refine Below.drew ?_)⟩
set_option maxHeartbeats 4000000 in
theorem ref_first_21 (x o : Nat) (ca : Nat) (l : List Int) (w : World) (hma : ca ≤ 9223372036854775807) (hla : l.length ≤ ca) (hb : Bytes l) (hcell : ∀ k, k < l.length → w.cell? ⟨x, o + k, none⟩ = some (.int .u8 (at0 l k))) (h0 : 0 < l.length)
  (hcls : 192 ≤ at0 l 0 ∧ at0 l 0 < 224) (hl : 2 ≤ l.length) (h1 : 0 ≤ (at0 l 0 - 192) * 64 + at0 l 1 - 128) (h2 : (at0 l 0 - 192) * 64 + at0 l 1 - 128 ≤ 127) (hR : (at0 l 0 - 192) * 64 + at0 l 1 - 128 < 55296 ∨ 57343 < (at0 l 0 - 192) * 64 + at0 l 1 - 128) :
  Calls Tryz.prog 63 #[.slice (some ⟨x, o, none⟩) l.length ca] w fun e w' => e = .returned (firstV (fstS l)) ∧ Below w.heap.size w w' := by
 have hne : ((l.length : Int) == 0) = false := beq_no (by omega)
 have d0 := hcell 0 h0
 rw [Nat.add_zero] at d0
 have hx : x < w.heap.size := World.block_lt_of_cell? w ⟨x, o, none⟩ d0
 obtain ⟨e0, f0⟩ := hb.at 0
 obtain ⟨k0, k1⟩ := hcls
 have d1 := hcell 1 (by omega)
 obtain ⟨e1, f1⟩ := hb.at 1
 have lt1 : 1 < l.length := by omega
 have HC := Lib.hid hcell; clear hcell
 have HF := Lib.hid (show fstS l = none from fst2_no ⟨k0, k1⟩ (by omega))
 have hr : isRuneB ((at0 l 0 - 192) * 64 + at0 l 1 - 128) = true := isRune_yes (by omega)
 go_enter Tryz.func63, Tryz.ntmps63
 go_wp2
 go_quiet (fail)
 go_wp2
 go_quiet (fail)
 go_wp2
 refine wp_loop_rounds 4 ?_
 repeat any_goals (rw [rounds_succ]; go_wp2_with (first | (go_at_call 76; refine (rune_any _ _).mono ?_; rintro e w1 ⟨rfl, rfl⟩) | (go_at_call 77; refine (one1_any _ _ (by omega) (by omega)).mono ?_; rintro e w1 ⟨rfl, hbe, n0⟩; have hbe2 := (below_drewN (Below.refl w.heap.size w) _).trans hbe; have D0 := (hbe.cell (p := ⟨x, o, none⟩) hx).trans d0; have D1 := (hbe.cell (p := ⟨x, o + 1, none⟩) hx).trans d1; simp only [World.heap_drewN] at n0; clear hbe)))
 all_goals go_ret3
 all_goals exact ⟨by rw [HF.out]; rfl, by repeat (first | assumption | exact Below.refl _ _ | refine below_drewN ?_ _ | refine Below.alloc ?_ (by simp) _ | refine Below.drew ?_)⟩
set_option maxHeartbeats 4000000 in
theorem ref_first_22 (x o : Nat) (ca : Nat) (l : List Int) (w : World) (hma : ca ≤ 9223372036854775807) (hla : l.length ≤ ca) (hb : Bytes l) (hcell : ∀ k, k < l.length → w.cell? ⟨x, o + k, none⟩ = some (.int .u8 (at0 l k))) (h0 : 0 < l.length)
  (hcls : 192 ≤ at0 l 0 ∧ at0 l 0 < 224) (hl : 2 ≤ l.length) (h1 : 128 ≤ (at0 l 0 - 192) * 64 + at0 l 1 - 128) (h2 : (at0 l 0 - 192) * 64 + at0 l 1 - 128 ≤ 2047) (hR : (at0 l 0 - 192) * 64 + at0 l 1 - 128 < 55296 ∨ 57343 < (at0 l 0 - 192) * 64 + at0 l 1 - 128) :
  Calls Tryz.prog 63 #[.slice (some ⟨x, o, none⟩) l.length ca] w fun e w' => e = .returned (firstV (fstS l)) ∧ Below w.heap.size w w' := by
 have hne : ((l.length : Int) == 0) = false := beq_no (by omega)
 have d0 := hcell 0 h0
 rw [Nat.add_zero] at d0
 have hx : x < w.heap.size := World.block_lt_of_cell? w ⟨x, o, none⟩ d0
 obtain ⟨e0, f0⟩ := hb.at 0
 obtain ⟨k0, k1⟩ := hcls
 have d1 := hcell 1 (by omega)
 obtain ⟨e1, f1⟩ := hb.at 1
 have lt1 : 1 < l.length := by omega
 have HC := Lib.hid hcell; clear hcell
 have hr : isRuneB ((at0 l 0 - 192) * 64 + at0 l 1 - 128) = true := isRune_yes (by omega)
 go_enter Tryz.func63, Tryz.ntmps63
 go_wp2
 go_quiet (fail)
 go_wp2
 go_quiet (fail)
 go_wp2
 refine wp_loop_rounds 4 ?_
 repeat any_goals (rw [rounds_succ]; go_wp2_with (first | (go_at_call 76; refine (rune_any _ _).mono ?_; rintro e w1 ⟨rfl, rfl⟩) | (go_at_call 77; refine (one2_any _ _ (by omega) (by omega)).mono ?_; rintro e w1 ⟨rfl, hbe, n0, n1⟩; have hbe2 := (below_drewN (Below.refl w.heap.size w) _).trans hbe; have D0 := (hbe.cell (p := ⟨x, o, none⟩) hx).trans d0; have D1 := (hbe.cell (p := ⟨x, o + 1, none⟩) hx).trans d1; simp only [World.heap_drewN] at n0 n1; clear hbe)))
 refine wp_loop_rounds 5 ?_
 repeat any_goals (first | (rw [rounds_succ]; go_wp2) | (go_quiet (fail); go_wp2))
 all_goals go_ret3
 all_goals refine ⟨?_, by repeat (first | assumption | exact Below.refl _ _ | refine below_drewN ?_ _ | refine Below.alloc ?_ (by simp) _ | refine Below.drew ?_)⟩
 all_goals simp only [bne_iff_ne, ne_eq, bne_eq_false_iff_eq] at *
 all_goals first
  | (rw [fst2_yes ⟨k0, k1⟩ (by omega) (by omega) (by omega)]; rfl)
  | (rw [fst2_no ⟨k0, k1⟩ (by omega)]; rfl)
set_option maxHeartbeats 4000000 in
theorem ref_first_23 (x o : Nat) (ca : Nat) (l : List Int) (w : World) (hma : ca ≤ 9223372036854775807) (hla : l.length ≤ ca) (hb : Bytes l) (hcell : ∀ k, k < l.length → w.cell? ⟨x, o + k, none⟩ = some (.int .u8 (at0 l k))) (h0 : 0 < l.length)
  (hcls : 192 ≤ at0 l 0 ∧ at0 l 0 < 224) (hl : 2 ≤ l.length) (h1 : 2048 ≤ (at0 l 0 - 192) * 64 + at0 l 1 - 128) (h2 : (at0 l 0 - 192) * 64 + at0 l 1 - 128 ≤ 65535) (hR : (at0 l 0 - 192) * 64 + at0 l 1 - 128 < 55296 ∨ 57343 < (at0 l 0 - 192) * 64 + at0 l 1 - 128) :
  Calls Tryz.prog 63 #[.slice (some ⟨x, o, none⟩) l.length ca] w fun e w' => e = .returned (firstV (fstS l)) ∧ Below w.heap.size w w' := by
 have hne : ((l.length : Int) == 0) = false := beq_no (by omega)
 have d0 := hcell 0 h0
 rw [Nat.add_zero] at d0
 have hx : x < w.heap.size := World.block_lt_of_cell? w ⟨x, o, none⟩ d0
 obtain ⟨e0, f0⟩ := hb.at 0
 obtain ⟨k0, k1⟩ := hcls
 have d1 := hcell 1 (by omega)
 obtain ⟨e1, f1⟩ := hb.at 1
 have lt1 : 1 < l.length := by omega
 have HC := Lib.hid hcell; clear hcell
 have HF := Lib.hid (show fstS l = none from fst2_no ⟨k0, k1⟩ (by omega))
 have hr : isRuneB ((at0 l 0 - 192) * 64 + at0 l 1 - 128) = true := isRune_yes (by omega)
 go_enter Tryz.func63, Tryz.ntmps63
 go_wp2
 go_quiet (fail)
 go_wp2
 go_quiet (fail)
 go_wp2
 refine wp_loop_rounds 4 ?_
 repeat any_goals (rw [rounds_succ]; go_wp2_with (first | (go_at_call 76; refine (rune_any _ _).mono ?_; rintro e w1 ⟨rfl, rfl⟩) | (go_at_call 77; refine (one3_any _ _ (by omega) (by omega)).mono ?_; rintro e w1 ⟨rfl, hbe, n0, n1, n2⟩; have hbe2 := (below_drewN (Below.refl w.heap.size w) _).trans hbe; have D0 := (hbe.cell (p := ⟨x, o, none⟩) hx).trans d0; have D1 := (hbe.cell (p := ⟨x, o + 1, none⟩) hx).trans d1; simp only [World.heap_drewN] at n0 n1 n2; clear hbe)))
 all_goals go_ret3
 all_goals exact ⟨by rw [HF.out]; rfl, by repeat (first | assumption | exact Below.refl _ _ | refine below_drewN ?_ _ | refine Below.alloc ?_ (by simp) _ | refine Below.drew ?_)⟩
set_option maxHeartbeats 4000000 in
theorem ref_first_3s (x o : Nat) (ca : Nat) (l : List Int) (w : World) (hma : ca ≤ 9223372036854775807) (hla : l.length ≤ ca) (hb : Bytes l) (hcell : ∀ k, k < l.length → w.cell? ⟨x, o + k, none⟩ = some (.int .u8 (at0 l k))) (h0 : 0 < l.length)
  (hcls : 224 ≤ at0 l 0 ∧ at0 l 0 < 240) (hs : l.length < 3) :
  Calls Tryz.prog 63 #[.slice (some ⟨x, o, none⟩) l.length ca] w fun e w' => e = .returned (firstV (fstS l)) ∧ Below w.heap.size w w' := by
 have hne : ((l.length : Int) == 0) = false := beq_no (by omega)
 have d0 := hcell 0 h0
 rw [Nat.add_zero] at d0
 have hx : x < w.heap.size := World.block_lt_of_cell? w ⟨x, o, none⟩ d0
 obtain ⟨e0, f0⟩ := hb.at 0
 obtain ⟨k0, k1⟩ := hcls
 have HF := Lib.hid (show fstS l = none from fst3_no ⟨k0, k1⟩ (.inl hs))
 clear hcell
 go_enter Tryz.func63, Tryz.ntmps63
 go_wp2
 go_quiet (fail)
 go_wp2
 go_quiet (fail)
 go_wp2
 go_ret3
 exact ⟨by rw [HF.out]; rfl, by repeat (first | assumption | exact Below.refl _ _ | refine below_drewN ?_ _ | refine Below.alloc ?_ (by simp) _ | refine Below.drew ?_)⟩
set_option maxHeartbeats 4000000 in
theorem ref_first_3n (x o : Nat) (ca : Nat) (l : List Int) (w : World) (hma : ca ≤ 9223372036854775807) (hla : l.length ≤ ca) (hb : Bytes l) (hcell : ∀ k, k < l.length → w.cell? ⟨x, o + k, none⟩ = some (.int .u8 (at0 l k))) (h0 : 0 < l.length)
  (hcls : 224 ≤ at0 l 0 ∧ at0 l 0 < 240) (hl : 3 ≤ l.length) (hR : ¬ (0 ≤ ((at0 l 0 - 224) * 64 + at0 l 1 - 128) * 64 + at0 l 2 - 128 ∧ ((at0 l 0 - 224) * 64 + at0 l 1 - 128) * 64 + at0 l 2 - 128 ≤ 1114111 ∧ (((at0 l 0 - 224) * 64 + at0 l 1 - 128) * 64 + at0 l 2 - 128 < 55296 ∨ 57343 < ((at0 l 0 - 224) * 64 + at0 l 1 - 128) * 64 + at0 l 2 - 128))) :
  Calls Tryz.prog 63 #[.slice (some ⟨x, o, none⟩) l.length ca] w fun e w' => e = .returned (firstV (fstS l)) ∧ Below w.heap.size w w' := by
 have hne : ((l.length : Int) == 0) = false := beq_no (by omega)
 have d0 := hcell 0 h0
 rw [Nat.add_zero] at d0
 have hx : x < w.heap.size := World.block_lt_of_cell? w ⟨x, o, none⟩ d0
 obtain ⟨e0, f0⟩ := hb.at 0
 obtain ⟨k0, k1⟩ := hcls
 have d1 := hcell 1 (by omega)
 obtain ⟨e1, f1⟩ := hb.at 1
 have lt1 : 1 < l.length := by omega
 have d2 := hcell 2 (by omega)
 obtain ⟨e2, f2⟩ := hb.at 2
 have lt2 : 2 < l.length := by omega
 have HC := Lib.hid hcell; clear hcell
 have HF := Lib.hid (show fstS l = none from fst3_no ⟨k0, k1⟩ (by omega))
 have hr := isRune_no hR
 clear hR
 go_enter Tryz.func63, Tryz.ntmps63
 go_wp2
 go_quiet (fail)
 go_wp2
 go_quiet (fail)
 go_wp2
 refine wp_loop_rounds 4 ?_
 repeat any_goals (rw [rounds_succ]; go_wp2_with (go_at_call 76; refine (rune_any _ _).mono ?_; rintro e w1 ⟨rfl, rfl⟩))
 all_goals go_ret3
 all_goals exact ⟨by rw [HF.out]; rfl, by repeat (first | assumption | exact Below.refl _ _ | refine below_drewN ?_ _ | refine Below.alloc ?_ (by simp) _ | refine Below.drew ?_)⟩
set_option maxHeartbeats 4000000 in
theorem ref_first_31 (x o : Nat) (ca : Nat) (l : List Int) (w : World) (hma : ca ≤ 9223372036854775807) (hla : l.length ≤ ca) (hb : Bytes l) (hcell : ∀ k, k < l.length → w.cell? ⟨x, o + k, none⟩ = some (.int .u8 (at0 l k))) (h0 : 0 < l.length)
  (hcls : 224 ≤ at0 l 0 ∧ at0 l 0 < 240) (hl : 3 ≤ l.length) (h1 : 0 ≤ ((at0 l 0 - 224) * 64 + at0 l 1 - 128) * 64 + at0 l 2 - 128) (h2 : ((at0 l 0 - 224) * 64 + at0 l 1 - 128) * 64 + at0 l 2 - 128 ≤ 127) (hR : ((at0 l 0 - 224) * 64 + at0 l 1 - 128) * 64 + at0 l 2 - 128 < 55296 ∨ 57343 < ((at0 l 0 - 224) * 64 + at0 l 1 - 128) * 64 + at0 l 2 - 128) :
  Calls Tryz.prog 63 #[.slice (some ⟨x, o, none⟩) l.length ca] w fun e w' => e = .returned (firstV (fstS l)) ∧ Below w.heap.size w w' := by
 have hne : ((l.length : Int) == 0) = false := beq_no (by omega)
 have d0 := hcell 0 h0
 rw [Nat.add_zero] at d0
 have hx : x < w.heap.size := World.block_lt_of_cell? w ⟨x, o, none⟩ d0
 obtain ⟨e0, f0⟩ := hb.at 0
 obtain ⟨k0, k1⟩ := hcls
 have d1 := hcell 1 (by omega)
 obtain ⟨e1, f1⟩ := hb.at 1
 have lt1 : 1 < l.length := by omega
 have d2 := hcell 2 (by omega)
 obtain ⟨e2, f2⟩ := hb.at 2
 have lt2 : 2 < l.length := by omega
 have HC := Lib.hid hcell; clear hcell
 have HF := Lib.hid (show fstS l = none from fst3_no ⟨k0, k1⟩ (by omega))
 have hr : isRuneB (((at0 l 0 - 224) * 64 + at0 l 1 - 128) * 64 + at0 l 2 - 128) = true := isRune_yes (by omega)
 go_enter Tryz.func63, Tryz.ntmps63
 go_wp2
 go_quiet (fail)
 go_wp2
 go_quiet (fail)
 go_wp2
 refine wp_loop_rounds 4 ?_
 repeat any_goals (rw [rounds_succ]; go_wp2_with (first | (go_at_call 76; refine (rune_any _ _).mono ?_; rintro e w1 ⟨rfl, rfl⟩) | (go_at_call 77; refine (one1_any _ _ (by omega) (by omega)).mono ?_; rintro e w1 ⟨rfl, hbe, n0⟩; have hbe2 := (below_drewN (Below.refl w.heap.size w) _).trans hbe; have D0 := (hbe.cell (p := ⟨x, o, none⟩) hx).trans d0; have D1 := (hbe.cell (p := ⟨x, o + 1, none⟩) hx).trans d1; have D2 := (hbe.cell (p := ⟨x, o + 2, none⟩) hx).trans d2; simp only [World.heap_drewN] at n0; clear hbe)))
 all_goals go_ret3
 all_goals exact ⟨by rw [HF.out]; rfl, by repeat (first | assumption | exact Below.refl _ _ | refine below_drewN ?_ _ | refine Below.alloc ?_ (by simp) _ | refine Below.drew ?_)⟩
set_option maxHeartbeats 4000000 in
theorem ref_first_32 (x o : Nat) (ca : Nat) (l : List Int) (w : World) (hma : ca ≤ 9223372036854775807) (hla : l.length ≤ ca) (hb : Bytes l) (hcell : ∀ k, k < l.length → w.cell? ⟨x, o + k, none⟩ = some (.int .u8 (at0 l k))) (h0 : 0 < l.length)
  (hcls : 224 ≤ at0 l 0 ∧ at0 l 0 < 240) (hl : 3 ≤ l.length) (h1 : 128 ≤ ((at0 l 0 - 224) * 64 + at0 l 1 - 128) * 64 + at0 l 2 - 128) (h2 : ((at0 l 0 - 224) * 64 + at0 l 1 - 128) * 64 + at0 l 2 - 128 ≤ 2047) (hR : ((at0 l 0 - 224) * 64 + at0 l 1 - 128) * 64 + at0 l 2 - 128 < 55296 ∨ 57343 < ((at0 l 0 - 224) * 64 + at0 l 1 - 128) * 64 + at0 l 2 - 128) :
  Calls Tryz.prog 63 #[.slice (some ⟨x, o, none⟩) l.length ca] w fun e w' => e = .returned (firstV (fstS l)) ∧ Below w.heap.size w w' := by
 have hne : ((l.length : Int) == 0) = false := beq_no (by omega)
 have d0 := hcell 0 h0
 rw [Nat.add_zero] at d0
 have hx : x < w.heap.size := World.block_lt_of_cell? w ⟨x, o, none⟩ d0
 obtain ⟨e0, f0⟩ := hb.at 0
 obtain ⟨k0, k1⟩ := hcls
 have d1 := hcell 1 (by omega)
 obtain ⟨e1, f1⟩ := hb.at 1
 have lt1 : 1 < l.length := by omega
 have d2 := hcell 2 (by omega)
 obtain ⟨e2, f2⟩ := hb.at 2
 have lt2 : 2 < l.length := by omega
 have HC := Lib.hid hcell; clear hcell
 have HF := Lib.hid (show fstS l = none from fst3_no ⟨k0, k1⟩ (by omega))
 have hr : isRuneB (((at0 l 0 - 224) * 64 + at0 l 1 - 128) * 64 + at0 l 2 - 128) = true := isRune_yes (by omega)
 go_enter Tryz.func63, Tryz.ntmps63
 go_wp2
 go_quiet (fail)
 go_wp2
 go_quiet (fail)
 go_wp2
 refine wp_loop_rounds 4 ?_
 repeat any_goals (rw [rounds_succ]; go_wp2_with (first | (go_at_call 76; refine (rune_any _ _).mono ?_; rintro e w1 ⟨rfl, rfl⟩) | (go_at_call 77; refine (one2_any _ _ (by omega) (by omega)).mono ?_; rintro e w1 ⟨rfl, hbe, n0, n1⟩; have hbe2 := (below_drewN (Below.refl w.heap.size w) _).trans hbe; have D0 := (hbe.cell (p := ⟨x, o, none⟩) hx).trans d0; have D1 := (hbe.cell (p := ⟨x, o + 1, none⟩) hx).trans d1; have D2 := (hbe.cell (p := ⟨x, o + 2, none⟩) hx).trans d2; simp only [World.heap_drewN] at n0 n1; clear hbe)))
 all_goals go_ret3
 all_goals exact ⟨by rw [HF.out]; rfl, by repeat (first | assumption | exact Below.refl _ _ | refine below_drewN ?_ _ | refine Below.alloc ?_ (by simp) _ | refine Below.drew ?_)⟩
set_option maxHeartbeats 4000000 in
theorem ref_first_33 (x o : Nat) (ca : Nat) (l : List Int) (w : World) (hma : ca ≤ 9223372036854775807) (hla : l.length ≤ ca) (hb : Bytes l) (hcell : ∀ k, k < l.length → w.cell? ⟨x, o + k, none⟩ = some (.int .u8 (at0 l k))) (h0 : 0 < l.length)
  (hcls : 224 ≤ at0 l 0 ∧ at0 l 0 < 240) (hl : 3 ≤ l.length) (h1 : 2048 ≤ ((at0 l 0 - 224) * 64 + at0 l 1 - 128) * 64 + at0 l 2 - 128) (h2 : ((at0 l 0 - 224) * 64 + at0 l 1 - 128) * 64 + at0 l 2 - 128 ≤ 65535) (hR : ((at0 l 0 - 224) * 64 + at0 l 1 - 128) * 64 + at0 l 2 - 128 < 55296 ∨ 57343 < ((at0 l 0 - 224) * 64 + at0 l 1 - 128) * 64 + at0 l 2 - 128) :
  Calls Tryz.prog 63 #[.slice (some ⟨x, o, none⟩) l.length ca] w fun e w' => e = .returned (firstV (fstS l)) ∧ Below w.heap.size w w' := by
 have hne : ((l.length : Int) == 0) = false := beq_no (by omega)
 have d0 := hcell 0 h0
 rw [Nat.add_zero] at d0
 have hx : x < w.heap.size := World.block_lt_of_cell? w ⟨x, o, none⟩ d0
 obtain ⟨e0, f0⟩ := hb.at 0
 obtain ⟨k0, k1⟩ := hcls
 have d1 := hcell 1 (by omega)
 obtain ⟨e1, f1⟩ := hb.at 1
 have lt1 : 1 < l.length := by omega
 have d2 := hcell 2 (by omega)
 obtain ⟨e2, f2⟩ := hb.at 2
 have lt2 : 2 < l.length := by omega
 have HC := Lib.hid hcell; clear hcell
 have hr : isRuneB (((at0 l 0 - 224) * 64 + at0 l 1 - 128) * 64 + at0 l 2 - 128) = true := isRune_yes (by omega)
 go_enter Tryz.func63, Tryz.ntmps63
 go_wp2
 go_quiet (fail)
 go_wp2
 go_quiet (fail)
 go_wp2
 refine wp_loop_rounds 4 ?_
 repeat any_goals (rw [rounds_succ]; go_wp2_with (first | (go_at_call 76; refine (rune_any _ _).mono ?_; rintro e w1 ⟨rfl, rfl⟩) | (go_at_call 77; refine (one3_any _ _ (by omega) (by omega)).mono ?_; rintro e w1 ⟨rfl, hbe, n0, n1, n2⟩; have hbe2 := (below_drewN (Below.refl w.heap.size w) _).trans hbe; have D0 := (hbe.cell (p := ⟨x, o, none⟩) hx).trans d0; have D1 := (hbe.cell (p := ⟨x, o + 1, none⟩) hx).trans d1; have D2 := (hbe.cell (p := ⟨x, o + 2, none⟩) hx).trans d2; simp only [World.heap_drewN] at n0 n1 n2; clear hbe)))
 refine wp_loop_rounds 5 ?_
 repeat any_goals (first | (rw [rounds_succ]; go_wp2) | (go_quiet (fail); go_wp2))
 all_goals go_ret3
 all_goals refine ⟨?_, by repeat (first | assumption | exact Below.refl _ _ | refine below_drewN ?_ _ | refine Below.alloc ?_ (by simp) _ | refine Below.drew ?_)⟩
 all_goals simp only [bne_iff_ne, ne_eq, bne_eq_false_iff_eq] at *
 all_goals first
  | (rw [fst3_yes ⟨k0, k1⟩ (by omega) (by omega) (by omega)]; rfl)
  | (rw [fst3_no ⟨k0, k1⟩ (by omega)]; rfl)
set_option maxHeartbeats 4000000 in
theorem ref_first_34 (x o : Nat) (ca : Nat) (l : List Int) (w : World) (hma : ca ≤ 9223372036854775807) (hla : l.length ≤ ca) (hb : Bytes l) (hcell : ∀ k, k < l.length → w.cell? ⟨x, o + k, none⟩ = some (.int .u8 (at0 l k))) (h0 : 0 < l.length)
  (hcls : 224 ≤ at0 l 0 ∧ at0 l 0 < 240) (hl : 3 ≤ l.length) (h1 : 65536 ≤ ((at0 l 0 - 224) * 64 + at0 l 1 - 128) * 64 + at0 l 2 - 128) (h2 : ((at0 l 0 - 224) * 64 + at0 l 1 - 128) * 64 + at0 l 2 - 128 ≤ 1114111) (hR : ((at0 l 0 - 224) * 64 + at0 l 1 - 128) * 64 + at0 l 2 - 128 < 55296 ∨ 57343 < ((at0 l 0 - 224) * 64 + at0 l 1 - 128) * 64 + at0 l 2 - 128) :
  Calls Tryz.prog 63 #[.slice (some ⟨x, o, none⟩) l.length ca] w fun e w' => e = .returned (firstV (fstS l)) ∧ Below w.heap.size w w' := by
 have hne : ((l.length : Int) == 0) = false := beq_no (by omega)
 have d0 := hcell 0 h0
 rw [Nat.add_zero] at d0
 have hx : x < w.heap.size := World.block_lt_of_cell? w ⟨x, o, none⟩ d0
 obtain ⟨e0, f0⟩ := hb.at 0
 obtain ⟨k0, k1⟩ := hcls
 have d1 := hcell 1 (by omega)
 obtain ⟨e1, f1⟩ := hb.at 1
 have lt1 : 1 < l.length := by omega
 have d2 := hcell 2 (by omega)
 obtain ⟨e2, f2⟩ := hb.at 2
 have lt2 : 2 < l.length := by omega
 have HC := Lib.hid hcell; clear hcell
 have HF := Lib.hid (show fstS l = none from fst3_no ⟨k0, k1⟩ (by omega))
 have hr : isRuneB (((at0 l 0 - 224) * 64 + at0 l 1 - 128) * 64 + at0 l 2 - 128) = true := isRune_yes (by omega)
 go_enter Tryz.func63, Tryz.ntmps63
 go_wp2
 go_quiet (fail)
 go_wp2
 go_quiet (fail)
 go_wp2
 refine wp_loop_rounds 4 ?_
 repeat any_goals (rw [rounds_succ]; go_wp2_with (first | (go_at_call 76; refine (rune_any _ _).mono ?_; rintro e w1 ⟨rfl, rfl⟩) | (go_at_call 77; refine (one4_any _ _ (by omega) (by omega)).mono ?_; rintro e w1 ⟨rfl, hbe, n0, n1, n2, n3⟩; have hbe2 := (below_drewN (Below.refl w.heap.size w) _).trans hbe; have D0 := (hbe.cell (p := ⟨x, o, none⟩) hx).trans d0; have D1 := (hbe.cell (p := ⟨x, o + 1, none⟩) hx).trans d1; have D2 := (hbe.cell (p := ⟨x, o + 2, none⟩) hx).trans d2; simp only [World.heap_drewN] at n0 n1 n2 n3; clear hbe)))
 all_goals go_ret3
 all_goals exact ⟨by rw [HF.out]; rfl, by repeat (first | assumption | exact Below.refl _ _ | refine below_drewN ?_ _ | refine Below.alloc ?_ (by simp) _ | refine Below.drew ?_)⟩
theorem no4 {l : List Int} (h : 240 ≤ at0 l 0) (hb : ∀ k, 0 ≤ at0 l k ∧ at0 l k ≤ 255) (h' : l.length < 4 ∨ (at0 l 1 < 128 ∨ 192 ≤ at0 l 1) ∨ (at0 l 2 < 128 ∨ 192 ≤ at0 l 2) ∨ (at0 l 3 < 128 ∨ 192 ≤ at0 l 3) ∨
  ¬ (65536 ≤ (((at0 l 0 - 240) * 64 + at0 l 1 - 128) * 64 + at0 l 2 - 128) * 64 + at0 l 3 - 128 ∧ (((at0 l 0 - 240) * 64 + at0 l 1 - 128) * 64 + at0 l 2 - 128) * 64 + at0 l 3 - 128 ≤ 1114111)) : fstS l = none := by
 have h1 := hb 1
 have h2 := hb 2
 have h3 := hb 3
 by_cases hk : at0 l 0 < 248
 · exact fst4_no ⟨h, hk⟩ (by omega)
 · exact fst5_no (by omega)
set_option maxHeartbeats 4000000 in
theorem ref_first_4s (x o : Nat) (ca : Nat) (l : List Int) (w : World) (hma : ca ≤ 9223372036854775807) (hla : l.length ≤ ca) (hb : Bytes l) (hcell : ∀ k, k < l.length → w.cell? ⟨x, o + k, none⟩ = some (.int .u8 (at0 l k))) (h0 : 0 < l.length)
  (hcls : 240 ≤ at0 l 0) (hs : l.length < 4) :
  Calls Tryz.prog 63 #[.slice (some ⟨x, o, none⟩) l.length ca] w fun e w' => e = .returned (firstV (fstS l)) ∧ Below w.heap.size w w' := by
 have hne : ((l.length : Int) == 0) = false := beq_no (by omega)
 have d0 := hcell 0 h0
 rw [Nat.add_zero] at d0
 have hx : x < w.heap.size := World.block_lt_of_cell? w ⟨x, o, none⟩ d0
 obtain ⟨e0, f0⟩ := hb.at 0
 have k0 := hcls
 have HF := Lib.hid (show fstS l = none from no4 k0 hb.at (.inl hs))
 clear hcell
 go_enter Tryz.func63, Tryz.ntmps63
 go_wp2
 go_quiet (fail)
 go_wp2
 go_quiet (fail)
 go_wp2
 go_ret3
 exact ⟨by rw [HF.out]; rfl, by repeat (first | assumption | exact Below.refl _ _ | refine below_drewN ?_ _ | refine Below.alloc ?_ (by simp) _ | refine Below.drew ?_)⟩
set_option maxHeartbeats 4000000 in
theorem ref_first_4n (x o : Nat) (ca : Nat) (l : List Int) (w : World) (hma : ca ≤ 9223372036854775807) (hla : l.length ≤ ca) (hb : Bytes l) (hcell : ∀ k, k < l.length → w.cell? ⟨x, o + k, none⟩ = some (.int .u8 (at0 l k))) (h0 : 0 < l.length)
  (hcls : 240 ≤ at0 l 0) (hl : 4 ≤ l.length) (hR : ¬ (0 ≤ (((at0 l 0 - 240) * 64 + at0 l 1 - 128) * 64 + at0 l 2 - 128) * 64 + at0 l 3 - 128 ∧ (((at0 l 0 - 240) * 64 + at0 l 1 - 128) * 64 + at0 l 2 - 128) * 64 + at0 l 3 - 128 ≤ 1114111 ∧ ((((at0 l 0 - 240) * 64 + at0 l 1 - 128) * 64 + at0 l 2 - 128) * 64 + at0 l 3 - 128 < 55296 ∨ 57343 < (((at0 l 0 - 240) * 64 + at0 l 1 - 128) * 64 + at0 l 2 - 128) * 64 + at0 l 3 - 128))) :
  Calls Tryz.prog 63 #[.slice (some ⟨x, o, none⟩) l.length ca] w fun e w' => e = .returned (firstV (fstS l)) ∧ Below w.heap.size w w' := by
 have hne : ((l.length : Int) == 0) = false := beq_no (by omega)
 have d0 := hcell 0 h0
 rw [Nat.add_zero] at d0
 have hx : x < w.heap.size := World.block_lt_of_cell? w ⟨x, o, none⟩ d0
 obtain ⟨e0, f0⟩ := hb.at 0
 have k0 := hcls
 have d1 := hcell 1 (by omega)
 obtain ⟨e1, f1⟩ := hb.at 1
 have lt1 : 1 < l.length := by omega
 have d2 := hcell 2 (by omega)
 obtain ⟨e2, f2⟩ := hb.at 2
 have lt2 : 2 < l.length := by omega
 have d3 := hcell 3 (by omega)
 obtain ⟨e3, f3⟩ := hb.at 3
 have lt3 : 3 < l.length := by omega
 have HC := Lib.hid hcell; clear hcell
 have HF := Lib.hid (show fstS l = none from no4 k0 hb.at (by omega))
 have hr := isRune_no hR
 clear hR
 go_enter Tryz.func63, Tryz.ntmps63
 go_wp2
 go_quiet (fail)
 go_wp2
 go_quiet (fail)
 go_wp2
 refine wp_loop_rounds 4 ?_
 repeat any_goals (rw [rounds_succ]; go_wp2_with (go_at_call 76; refine (rune_any _ _).mono ?_; rintro e w1 ⟨rfl, rfl⟩))
 all_goals go_ret3
 all_goals exact ⟨by rw [HF.out]; rfl, by repeat (first | assumption | exact Below.refl _ _ | refine below_drewN ?_ _ | refine Below.alloc ?_ (by simp) _ | refine Below.drew ?_)⟩
set_option maxHeartbeats 4000000 in
theorem ref_first_41 (x o : Nat) (ca : Nat) (l : List Int) (w : World) (hma : ca ≤ 9223372036854775807) (hla : l.length ≤ ca) (hb : Bytes l) (hcell : ∀ k, k < l.length → w.cell? ⟨x, o + k, none⟩ = some (.int .u8 (at0 l k))) (h0 : 0 < l.length)
  (hcls : 240 ≤ at0 l 0) (hl : 4 ≤ l.length) (h1 : 0 ≤ (((at0 l 0 - 240) * 64 + at0 l 1 - 128) * 64 + at0 l 2 - 128) * 64 + at0 l 3 - 128) (h2 : (((at0 l 0 - 240) * 64 + at0 l 1 - 128) * 64 + at0 l 2 - 128) * 64 + at0 l 3 - 128 ≤ 127) (hR : (((at0 l 0 - 240) * 64 + at0 l 1 - 128) * 64 + at0 l 2 - 128) * 64 + at0 l 3 - 128 < 55296 ∨ 57343 < (((at0 l 0 - 240) * 64 + at0 l 1 - 128) * 64 + at0 l 2 - 128) * 64 + at0 l 3 - 128) :
  Calls Tryz.prog 63 #[.slice (some ⟨x, o, none⟩) l.length ca] w fun e w' => e = .returned (firstV (fstS l)) ∧ Below w.heap.size w w' := by
 have hne : ((l.length : Int) == 0) = false := beq_no (by omega)
 have d0 := hcell 0 h0
 rw [Nat.add_zero] at d0
 have hx : x < w.heap.size := World.block_lt_of_cell? w ⟨x, o, none⟩ d0
 obtain ⟨e0, f0⟩ := hb.at 0
 have k0 := hcls
 have d1 := hcell 1 (by omega)
 obtain ⟨e1, f1⟩ := hb.at 1
 have lt1 : 1 < l.length := by omega
 have d2 := hcell 2 (by omega)
 obtain ⟨e2, f2⟩ := hb.at 2
 have lt2 : 2 < l.length := by omega
 have d3 := hcell 3 (by omega)
 obtain ⟨e3, f3⟩ := hb.at 3
 have lt3 : 3 < l.length := by omega
 have HC := Lib.hid hcell; clear hcell
 have HF := Lib.hid (show fstS l = none from no4 k0 hb.at (by omega))
 have hr : isRuneB ((((at0 l 0 - 240) * 64 + at0 l 1 - 128) * 64 + at0 l 2 - 128) * 64 + at0 l 3 - 128) = true := isRune_yes (by omega)
 go_enter Tryz.func63, Tryz.ntmps63
 go_wp2
 go_quiet (fail)
 go_wp2
 go_quiet (fail)
 go_wp2
 refine wp_loop_rounds 4 ?_
 repeat any_goals (rw [rounds_succ]; go_wp2_with (first | (go_at_call 76; refine (rune_any _ _).mono ?_; rintro e w1 ⟨rfl, rfl⟩) | (go_at_call 77; refine (one1_any _ _ (by omega) (by omega)).mono ?_; rintro e w1 ⟨rfl, hbe, n0⟩; have hbe2 := (below_drewN (Below.refl w.heap.size w) _).trans hbe; have D0 := (hbe.cell (p := ⟨x, o, none⟩) hx).trans d0; have D1 := (hbe.cell (p := ⟨x, o + 1, none⟩) hx).trans d1; have D2 := (hbe.cell (p := ⟨x, o + 2, none⟩) hx).trans d2; have D3 := (hbe.cell (p := ⟨x, o + 3, none⟩) hx).trans d3; simp only [World.heap_drewN] at n0; clear hbe)))
 all_goals go_ret3
 all_goals exact ⟨by rw [HF.out]; rfl, by repeat (first | assumption | exact Below.refl _ _ | refine below_drewN ?_ _ | refine Below.alloc ?_ (by simp) _ | refine Below.drew ?_)⟩
set_option maxHeartbeats 4000000 in
theorem ref_first_42 (x o : Nat) (ca : Nat) (l : List Int) (w : World) (hma : ca ≤ 9223372036854775807) (hla : l.length ≤ ca) (hb : Bytes l) (hcell : ∀ k, k < l.length → w.cell? ⟨x, o + k, none⟩ = some (.int .u8 (at0 l k))) (h0 : 0 < l.length)
  (hcls : 240 ≤ at0 l 0) (hl : 4 ≤ l.length) (h1 : 128 ≤ (((at0 l 0 - 240) * 64 + at0 l 1 - 128) * 64 + at0 l 2 - 128) * 64 + at0 l 3 - 128) (h2 : (((at0 l 0 - 240) * 64 + at0 l 1 - 128) * 64 + at0 l 2 - 128) * 64 + at0 l 3 - 128 ≤ 2047) (hR : (((at0 l 0 - 240) * 64 + at0 l 1 - 128) * 64 + at0 l 2 - 128) * 64 + at0 l 3 - 128 < 55296 ∨ 57343 < (((at0 l 0 - 240) * 64 + at0 l 1 - 128) * 64 + at0 l 2 - 128) * 64 + at0 l 3 - 128) :
  Calls Tryz.prog 63 #[.slice (some ⟨x, o, none⟩) l.length ca] w fun e w' => e = .returned (firstV (fstS l)) ∧ Below w.heap.size w w' := by
 have hne : ((l.length : Int) == 0) = false := beq_no (by omega)
 have d0 := hcell 0 h0
 rw [Nat.add_zero] at d0
 have hx : x < w.heap.size := World.block_lt_of_cell? w ⟨x, o, none⟩ d0
 obtain ⟨e0, f0⟩ := hb.at 0
 have k0 := hcls
 have d1 := hcell 1 (by omega)
 obtain ⟨e1, f1⟩ := hb.at 1
 have lt1 : 1 < l.length := by omega
 have d2 := hcell 2 (by omega)
 obtain ⟨e2, f2⟩ := hb.at 2
 have lt2 : 2 < l.length := by omega
 have d3 := hcell 3 (by omega)
 obtain ⟨e3, f3⟩ := hb.at 3
 have lt3 : 3 < l.length := by omega
 have HC := Lib.hid hcell; clear hcell
 have HF := Lib.hid (show fstS l = none from no4 k0 hb.at (by omega))
 have hr : isRuneB ((((at0 l 0 - 240) * 64 + at0 l 1 - 128) * 64 + at0 l 2 - 128) * 64 + at0 l 3 - 128) = true := isRune_yes (by omega)
 go_enter Tryz.func63, Tryz.ntmps63
 go_wp2
 go_quiet (fail)
 go_wp2
 go_quiet (fail)
 go_wp2
 refine wp_loop_rounds 4 ?_
 repeat any_goals (rw [rounds_succ]; go_wp2_with (first | (go_at_call 76; refine (rune_any _ _).mono ?_; rintro e w1 ⟨rfl, rfl⟩) | (go_at_call 77; refine (one2_any _ _ (by omega) (by omega)).mono ?_; rintro e w1 ⟨rfl, hbe, n0, n1⟩; have hbe2 := (below_drewN (Below.refl w.heap.size w) _).trans hbe; have D0 := (hbe.cell (p := ⟨x, o, none⟩) hx).trans d0; have D1 := (hbe.cell (p := ⟨x, o + 1, none⟩) hx).trans d1; have D2 := (hbe.cell (p := ⟨x, o + 2, none⟩) hx).trans d2; have D3 := (hbe.cell (p := ⟨x, o + 3, none⟩) hx).trans d3; simp only [World.heap_drewN] at n0 n1; clear hbe)))
 all_goals go_ret3
 all_goals exact ⟨by rw [HF.out]; rfl, by repeat (first | assumption | exact Below.refl _ _ | refine below_drewN ?_ _ | refine Below.alloc ?_ (by simp) _ | refine Below.drew ?_)⟩
set_option maxHeartbeats 4000000 in
theorem ref_first_43 (x o : Nat) (ca : Nat) (l : List Int) (w : World) (hma : ca ≤ 9223372036854775807) (hla : l.length ≤ ca) (hb : Bytes l) (hcell : ∀ k, k < l.length → w.cell? ⟨x, o + k, none⟩ = some (.int .u8 (at0 l k))) (h0 : 0 < l.length)
  (hcls : 240 ≤ at0 l 0) (hl : 4 ≤ l.length) (h1 : 2048 ≤ (((at0 l 0 - 240) * 64 + at0 l 1 - 128) * 64 + at0 l 2 - 128) * 64 + at0 l 3 - 128) (h2 : (((at0 l 0 - 240) * 64 + at0 l 1 - 128) * 64 + at0 l 2 - 128) * 64 + at0 l 3 - 128 ≤ 65535) (hR : (((at0 l 0 - 240) * 64 + at0 l 1 - 128) * 64 + at0 l 2 - 128) * 64 + at0 l 3 - 128 < 55296 ∨ 57343 < (((at0 l 0 - 240) * 64 + at0 l 1 - 128) * 64 + at0 l 2 - 128) * 64 + at0 l 3 - 128) :
  Calls Tryz.prog 63 #[.slice (some ⟨x, o, none⟩) l.length ca] w fun e w' => e = .returned (firstV (fstS l)) ∧ Below w.heap.size w w' := by
 have hne : ((l.length : Int) == 0) = false := beq_no (by omega)
 have d0 := hcell 0 h0
 rw [Nat.add_zero] at d0
 have hx : x < w.heap.size := World.block_lt_of_cell? w ⟨x, o, none⟩ d0
 obtain ⟨e0, f0⟩ := hb.at 0
 have k0 := hcls
 have d1 := hcell 1 (by omega)
 obtain ⟨e1, f1⟩ := hb.at 1
 have lt1 : 1 < l.length := by omega
 have d2 := hcell 2 (by omega)
 obtain ⟨e2, f2⟩ := hb.at 2
 have lt2 : 2 < l.length := by omega
 have d3 := hcell 3 (by omega)
 obtain ⟨e3, f3⟩ := hb.at 3
 have lt3 : 3 < l.length := by omega
 have HC := Lib.hid hcell; clear hcell
 have HF := Lib.hid (show fstS l = none from no4 k0 hb.at (by omega))
 have hr : isRuneB ((((at0 l 0 - 240) * 64 + at0 l 1 - 128) * 64 + at0 l 2 - 128) * 64 + at0 l 3 - 128) = true := isRune_yes (by omega)
 go_enter Tryz.func63, Tryz.ntmps63
 go_wp2
 go_quiet (fail)
 go_wp2
 go_quiet (fail)
 go_wp2
 refine wp_loop_rounds 4 ?_
 repeat any_goals (rw [rounds_succ]; go_wp2_with (first | (go_at_call 76; refine (rune_any _ _).mono ?_; rintro e w1 ⟨rfl, rfl⟩) | (go_at_call 77; refine (one3_any _ _ (by omega) (by omega)).mono ?_; rintro e w1 ⟨rfl, hbe, n0, n1, n2⟩; have hbe2 := (below_drewN (Below.refl w.heap.size w) _).trans hbe; have D0 := (hbe.cell (p := ⟨x, o, none⟩) hx).trans d0; have D1 := (hbe.cell (p := ⟨x, o + 1, none⟩) hx).trans d1; have D2 := (hbe.cell (p := ⟨x, o + 2, none⟩) hx).trans d2; have D3 := (hbe.cell (p := ⟨x, o + 3, none⟩) hx).trans d3; simp only [World.heap_drewN] at n0 n1 n2; clear hbe)))
 all_goals go_ret3
 all_goals exact ⟨by rw [HF.out]; rfl, by repeat (first | assumption | exact Below.refl _ _ | refine below_drewN ?_ _ | refine Below.alloc ?_ (by simp) _ | refine Below.drew ?_)⟩
set_option maxHeartbeats 4000000 in
theorem ref_first_44 (x o : Nat) (ca : Nat) (l : List Int) (w : World) (hma : ca ≤ 9223372036854775807) (hla : l.length ≤ ca) (hb : Bytes l) (hcell : ∀ k, k < l.length → w.cell? ⟨x, o + k, none⟩ = some (.int .u8 (at0 l k))) (h0 : 0 < l.length)
  (hcls : 240 ≤ at0 l 0) (hl : 4 ≤ l.length) (h1 : 65536 ≤ (((at0 l 0 - 240) * 64 + at0 l 1 - 128) * 64 + at0 l 2 - 128) * 64 + at0 l 3 - 128) (h2 : (((at0 l 0 - 240) * 64 + at0 l 1 - 128) * 64 + at0 l 2 - 128) * 64 + at0 l 3 - 128 ≤ 1114111) (hR : (((at0 l 0 - 240) * 64 + at0 l 1 - 128) * 64 + at0 l 2 - 128) * 64 + at0 l 3 - 128 < 55296 ∨ 57343 < (((at0 l 0 - 240) * 64 + at0 l 1 - 128) * 64 + at0 l 2 - 128) * 64 + at0 l 3 - 128) :
  Calls Tryz.prog 63 #[.slice (some ⟨x, o, none⟩) l.length ca] w fun e w' => e = .returned (firstV (fstS l)) ∧ Below w.heap.size w w' := by
 have hne : ((l.length : Int) == 0) = false := beq_no (by omega)
 have d0 := hcell 0 h0
 rw [Nat.add_zero] at d0
 have hx : x < w.heap.size := World.block_lt_of_cell? w ⟨x, o, none⟩ d0
 obtain ⟨e0, f0⟩ := hb.at 0
 have k0 := hcls
 have d1 := hcell 1 (by omega)
 obtain ⟨e1, f1⟩ := hb.at 1
 have lt1 : 1 < l.length := by omega
 have d2 := hcell 2 (by omega)
 obtain ⟨e2, f2⟩ := hb.at 2
 have lt2 : 2 < l.length := by omega
 have d3 := hcell 3 (by omega)
 obtain ⟨e3, f3⟩ := hb.at 3
 have lt3 : 3 < l.length := by omega
 have HC := Lib.hid hcell; clear hcell
 have hr : isRuneB ((((at0 l 0 - 240) * 64 + at0 l 1 - 128) * 64 + at0 l 2 - 128) * 64 + at0 l 3 - 128) = true := isRune_yes (by omega)
 go_enter Tryz.func63, Tryz.ntmps63
 go_wp2
 go_quiet (fail)
 go_wp2
 go_quiet (fail)
 go_wp2
 refine wp_loop_rounds 4 ?_
 repeat any_goals (rw [rounds_succ]; go_wp2_with (first | (go_at_call 76; refine (rune_any _ _).mono ?_; rintro e w1 ⟨rfl, rfl⟩) | (go_at_call 77; refine (one4_any _ _ (by omega) (by omega)).mono ?_; rintro e w1 ⟨rfl, hbe, n0, n1, n2, n3⟩; have hbe2 := (below_drewN (Below.refl w.heap.size w) _).trans hbe; have D0 := (hbe.cell (p := ⟨x, o, none⟩) hx).trans d0; have D1 := (hbe.cell (p := ⟨x, o + 1, none⟩) hx).trans d1; have D2 := (hbe.cell (p := ⟨x, o + 2, none⟩) hx).trans d2; have D3 := (hbe.cell (p := ⟨x, o + 3, none⟩) hx).trans d3; simp only [World.heap_drewN] at n0 n1 n2 n3; clear hbe)))
 refine wp_loop_rounds 5 ?_
 repeat any_goals (first | (rw [rounds_succ]; go_wp2) | (go_quiet (fail); go_wp2))
 all_goals go_ret3
 all_goals refine ⟨?_, by repeat (first | assumption | exact Below.refl _ _ | refine below_drewN ?_ _ | refine Below.alloc ?_ (by simp) _ | refine Below.drew ?_)⟩
 all_goals simp only [bne_iff_ne, ne_eq, bne_eq_false_iff_eq] at *
 all_goals first
  | (rw [fst4_yes ⟨k0, (by omega)⟩ (by omega) (by omega) (by omega)]; rfl)
  | (rw [no4 k0 hb.at (by omega)]; rfl)
theorem fstS_bounds {l : List Int} {r : Int} {n : Nat} (h : fstS l = some (r, n)) : 1 ≤ n ∧ n ≤ 4 ∧ n ≤ l.length ∧ (at0 l 0 ≥ 0 → 0 ≤ r ∧ r ≤ 1114111 ∧ (r < 55296 ∨ 57343 < r)) := by
  unfold fstS at h
  have key : ∀ (x : Int) (k : Nat), okS x k = some (r, n) → (0 ≤ r ∧ r ≤ 1114111 ∧ (r < 55296 ∨ 57343 < r)) ∧ n = k := by
    intro x k hk
    unfold okS at hk
    split at hk
    · rename_i hq
      simp only [Option.some.injEq, Prod.mk.injEq] at hk
      obtain ⟨rfl, rfl⟩ := hk
      simp [isRuneB] at hq
      omega
    · cases hk
  split at h
  · cases h
  split at h
  · simp only [Option.some.injEq, Prod.mk.injEq] at h
    omega
  split at h
  · cases h
  split at h
  · split at h
    · rename_i hq
      have := key _ _ h
      simp at hq
      omega
    · cases h
  split at h
  · split at h
    · rename_i hq
      have := key _ _ h
      simp at hq
      omega
    · cases h
  split at h
  · split at h
    · rename_i hq
      have := key _ _ h
      simp at hq
      omega
    · cases h
  · cases h

def decS (l : List Int) : Option (List Int) :=
 if h : l = [] then some [] else
  match fstS l with
  | none => none
  | some (r, n) => if 0 < n then (decS (l.drop n)).map (r :: ·) else none
termination_by l.length
decreasing_by
 have : 0 < l.length := List.length_pos_iff.2 h
 simp only [List.length_drop]
 omega

theorem decS_nil : decS [] = some [] := by rw [decS]; rfl
theorem decS_none {l : List Int} (h : l ≠ []) (hf : fstS l = none) : decS l = none := by rw [decS, dif_neg h, hf]
theorem decS_some {l : List Int} {r : Int} {n : Nat} (h : l ≠ []) (hf : fstS l = some (r, n)) : decS l = (decS (l.drop n)).map (r :: ·) := by
 rw [decS, dif_neg h, hf]
 simp only []
 rw [if_pos (by have := fstS_bounds hf; omega)]

def DecPost (B : Nat) (w : World) (l : List Int) (e : Ending) (w' : World) : Prop :=
 ∃ v c, e = .returned (.tuple #[v, .int .i64 c]) ∧ Below B w w' ∧
  ((∃ rs, decS l = some rs ∧ c = 0 ∧ rs.length ≤ l.length ∧ w'.ownsRow B 21 1 v rs.length (rs.map (Value.int .i32))) ∨ (decS l = none ∧ c = 2 ∧ v = .slice none 0 0))

def lenOf : Value → Nat | .slice _ n _ => n | _ => 0


theorem firstV_some (r : Int) (n : Nat) : firstV (some (r, n)) = .tuple #[.int .i32 r, .int .i64 n, .int .i64 0] := rfl
theorem firstV_none : firstV none = .tuple #[.int .i32 0, .int .i64 0, .int .i64 2] := rfl

set_option maxHeartbeats 1000000 in
theorem ref_first_any (v : Value) (l : List Int) (w : World) (h : RdI .u8 w v l) (hb : Bytes l) :
    Calls Tryz.prog 63 #[v] w fun e w' => e = .returned (firstV (fstS l)) ∧ Below w.heap.size w w' := by
  obtain ⟨a, ca, rfl, hla, hma, ha, -⟩ := h
  unfold maxLen at hma
  by_cases h0 : l.length = 0
  · have hne : ((l.length : Int) == 0) = true := beq_yes (by omega)
    have HF := Lib.hid (show fstS l = none by simp [fstS, h0])
    clear ha h0
    go_enter Tryz.func63, Tryz.ntmps63
    go_wp2
    go_ret3
    exact ⟨by rw [HF.out]; rfl, Below.refl _ _⟩
  obtain ⟨x, o, rfl, hc⟩ := ha 0 (by omega)
  have hcell : ∀ k, k < l.length → w.cell? ⟨x, o + k, none⟩ = some (.int .u8 (at0 l k)) := fun k hk => by
    obtain ⟨x', o', e, h⟩ := ha k hk; cases e; exact h
  clear ha hc
  have hma' : ca ≤ 9223372036854775807 := by omega
  have hp : 0 < l.length := by omega
  obtain ⟨z0, z1⟩ := hb.at 0
  obtain ⟨y0, y1⟩ := hb.at 1
  obtain ⟨x0, x1⟩ := hb.at 2
  obtain ⟨t0, t1⟩ := hb.at 3
  by_cases c1 : at0 l 0 < 192
  · by_cases c : at0 l 0 ≤ 127
    · exact ref_first_11 x o ca l w hma' hla hb hcell hp c1 z0 c (by omega)
    · exact ref_first_12 x o ca l w hma' hla hb hcell hp c1 (by omega) (by omega) (by omega)
  by_cases c2 : at0 l 0 < 224
  · by_cases s : l.length < 2
    · exact ref_first_2s x o ca l w hma' hla hb hcell hp ⟨by omega, c2⟩ s
    by_cases R : 0 ≤ (at0 l 0 - 192) * 64 + at0 l 1 - 128 ∧ (at0 l 0 - 192) * 64 + at0 l 1 - 128 ≤ 1114111 ∧ ((at0 l 0 - 192) * 64 + at0 l 1 - 128 < 55296 ∨ 57343 < (at0 l 0 - 192) * 64 + at0 l 1 - 128)
    rotate_left
    · exact ref_first_2n x o ca l w hma' hla hb hcell hp ⟨by omega, c2⟩ (by omega) R
    obtain ⟨R1, R2, R3⟩ := R
    by_cases m1 : (at0 l 0 - 192) * 64 + at0 l 1 - 128 ≤ 127
    · exact ref_first_21 x o ca l w hma' hla hb hcell hp ⟨by omega, c2⟩ (by omega) (by omega) m1 R3
    by_cases m2 : (at0 l 0 - 192) * 64 + at0 l 1 - 128 ≤ 2047
    · exact ref_first_22 x o ca l w hma' hla hb hcell hp ⟨by omega, c2⟩ (by omega) (by omega) m2 R3
    exact ref_first_23 x o ca l w hma' hla hb hcell hp ⟨by omega, c2⟩ (by omega) (by omega) (by omega) R3
  by_cases c3 : at0 l 0 < 240
  · by_cases s : l.length < 3
    · exact ref_first_3s x o ca l w hma' hla hb hcell hp ⟨by omega, c3⟩ s
    by_cases R : 0 ≤ ((at0 l 0 - 224) * 64 + at0 l 1 - 128) * 64 + at0 l 2 - 128 ∧ ((at0 l 0 - 224) * 64 + at0 l 1 - 128) * 64 + at0 l 2 - 128 ≤ 1114111 ∧ (((at0 l 0 - 224) * 64 + at0 l 1 - 128) * 64 + at0 l 2 - 128 < 55296 ∨ 57343 < ((at0 l 0 - 224) * 64 + at0 l 1 - 128) * 64 + at0 l 2 - 128)
    rotate_left
    · exact ref_first_3n x o ca l w hma' hla hb hcell hp ⟨by omega, c3⟩ (by omega) R
    obtain ⟨R1, R2, R3⟩ := R
    by_cases m1 : ((at0 l 0 - 224) * 64 + at0 l 1 - 128) * 64 + at0 l 2 - 128 ≤ 127
    · exact ref_first_31 x o ca l w hma' hla hb hcell hp ⟨by omega, c3⟩ (by omega) (by omega) m1 R3
    by_cases m2 : ((at0 l 0 - 224) * 64 + at0 l 1 - 128) * 64 + at0 l 2 - 128 ≤ 2047
    · exact ref_first_32 x o ca l w hma' hla hb hcell hp ⟨by omega, c3⟩ (by omega) (by omega) m2 R3
    by_cases m3 : ((at0 l 0 - 224) * 64 + at0 l 1 - 128) * 64 + at0 l 2 - 128 ≤ 65535
    · exact ref_first_33 x o ca l w hma' hla hb hcell hp ⟨by omega, c3⟩ (by omega) (by omega) m3 R3
    exact ref_first_34 x o ca l w hma' hla hb hcell hp ⟨by omega, c3⟩ (by omega) (by omega) (by omega) R3
  by_cases s : l.length < 4
  · exact ref_first_4s x o ca l w hma' hla hb hcell hp (by omega) s
  by_cases R : 0 ≤ (((at0 l 0 - 240) * 64 + at0 l 1 - 128) * 64 + at0 l 2 - 128) * 64 + at0 l 3 - 128 ∧ (((at0 l 0 - 240) * 64 + at0 l 1 - 128) * 64 + at0 l 2 - 128) * 64 + at0 l 3 - 128 ≤ 1114111 ∧ ((((at0 l 0 - 240) * 64 + at0 l 1 - 128) * 64 + at0 l 2 - 128) * 64 + at0 l 3 - 128 < 55296 ∨ 57343 < (((at0 l 0 - 240) * 64 + at0 l 1 - 128) * 64 + at0 l 2 - 128) * 64 + at0 l 3 - 128)
  rotate_left
  · exact ref_first_4n x o ca l w hma' hla hb hcell hp (by omega) (by omega) R
  obtain ⟨R1, R2, R3⟩ := R
  by_cases m1 : (((at0 l 0 - 240) * 64 + at0 l 1 - 128) * 64 + at0 l 2 - 128) * 64 + at0 l 3 - 128 ≤ 127
  · exact ref_first_41 x o ca l w hma' hla hb hcell hp (by omega) (by omega) (by omega) m1 R3
  by_cases m2 : (((at0 l 0 - 240) * 64 + at0 l 1 - 128) * 64 + at0 l 2 - 128) * 64 + at0 l 3 - 128 ≤ 2047
  · exact ref_first_42 x o ca l w hma' hla hb hcell hp (by omega) (by omega) (by omega) m2 R3
  by_cases m3 : (((at0 l 0 - 240) * 64 + at0 l 1 - 128) * 64 + at0 l 2 - 128) * 64 + at0 l 3 - 128 ≤ 65535
  · exact ref_first_43 x o ca l w hma' hla hb hcell hp (by omega) (by omega) (by omega) m3 R3
  exact ref_first_44 x o ca l w hma' hla hb hcell hp (by omega) (by omega) (by omega) (by omega) R3
set_option maxHeartbeats 1000000 in
theorem ref_decode_any (v : Value) (l : List Int) (w : World) (h : RdI .u8 w v l) (hb : Bytes l) (hlen : l.length ≤ 1000000) :
    Calls Tryz.prog 39 #[v] w (DecPost w.heap.size w l) := by
  obtain ⟨i0, hi, hz0, hz1, hz2⟩ := info_parts info_i32
  obtain ⟨j0, hj, hy0, hy1, hy2⟩ := info_parts info_u8
  go_enter Tryz.func39, Tryz.ntmps39
  go_wp2
  go_loopw [0, 4] (fun b out wr => ∃ rest acc, RdI .u8 w b rest ∧ Bytes rest ∧ wr.ownsRow w.heap.size 21 1 out acc.length (acc.map (Value.int .i32)) ∧ Below w.heap.size w wr ∧ decS l = (decS rest).map (acc ++ ·) ∧ acc.length + rest.length ≤ l.length) (fun b _ _ => lenOf b)
  case atStart => exact ⟨l, [], h, hb, World.ownsRow_nil _ _ _ _, Below.refl _ _, by simp, by simp⟩
  case round =>
    obtain ⟨rest, acc, hrd, hbt, hown, hbel, hdec, hsum⟩ := hrel
    have hrd0 := hrd
    obtain ⟨a, ca, rfl, hla, hma, ha, hn⟩ := hrd
    have HA := Lib.hid ha; clear ha
    have HN := Lib.hid hn; clear hn
    have HD := Lib.hid hdec; clear hdec
    by_cases hpos : 0 < rest.length
    · rcases hf : fstS rest with _ | ⟨r, n⟩
      · have HF := Lib.hid hf; clear hf
        go_wp2_with (go_at_call 63; refine (ref_first_any _ _ _ (hrd0.below hbel) hbt).mono ?_; rintro e w1 ⟨rfl, hb1⟩; rw [HF.out, firstV_none])
        go_ret2
        refine ⟨_, _, rfl, hbel.trans (hb1.mono hbel.size), .inr ⟨?_, rfl, rfl⟩⟩
        rw [HD.out, decS_none (by intro e; simp [e] at hpos) HF.out]
        rfl
      · obtain ⟨q1, q2, q3, q4⟩ := fstS_bounds hf
        have q5 := q4 (hbt.at 0).1
        clear q4
        have HF := Lib.hid hf; clear hf
        go_wp2_with (first
          | (go_at_call 63; refine (ref_first_any _ _ _ (hrd0.below hbel) hbt).mono ?_; rintro e w1 ⟨rfl, hb1⟩; rw [HF.out, firstV_some])
          | (at_builtin; refine wpList_append_rd rfl _ _ 73 rfl w.heap.size 21 i0 (.int .i32 0) 4 Tryz.underlying73 hi hz0 hz1 hz2 rfl _ _ _ rfl ((own_below hown hb1).alloc _) _ 1 1 [.int .i32 r] rfl reads_one (by simp [Value.oneCell']) (by unfold maxLen; omega) (by omega) (by simp; have := hbel.size; have := hb1.size; omega) (by simp) ?_; intro v2 w2 hown2 hgr hb2))
        refine ⟨⟨rest.drop n, acc ++ [r], rd_cut hrd0 q3, hbt.drop n, by simpa using hown2, (hbel.trans (hb1.mono hbel.size)).trans ((Below.refl _ _).alloc (by have := hbel.size; have := hb1.size; omega) _ |>.trans hb2), ?_, by simp; omega⟩, by simp [lenOf]; omega⟩
        rw [HD.out, decS_some (by intro e; simp [e] at hpos) HF.out, Option.map_map]
        congr 1
        funext x
        simp
    · go_wp2
      go_ret2
      obtain rfl : rest = [] := List.eq_nil_of_length_eq_zero (by omega)
      refine ⟨_, _, rfl, hbel, .inl ⟨acc, ?_, rfl, by omega, hown⟩⟩
      rw [HD.out, decS_nil]
      simp
def plainN (l : List Int) : Nat := (l.takeWhile (fun x => decide (x ≤ 127))).length
theorem plainN_le (l : List Int) : plainN l ≤ l.length := by
 have := (List.takeWhile_prefix (fun x => decide ((x : Int) ≤ 127)) (l := l)).length_le
 exact this
theorem plainN_at (l : List Int) : ∀ k, k < l.length → (∀ j, j < k → at0 l j ≤ 127) → 127 < at0 l k → plainN l = k := by
 induction l with
 | nil => intro k hk; simp at hk
 | cons x t ih =>
  intro k hk hall hgt
  cases k with
  | zero =>
   rw [at0_cons_zero] at hgt
   simp [plainN, show ¬ x ≤ 127 by omega]
  | succ k =>
   have h0 := hall 0 (by omega)
   rw [at0_cons_zero] at h0
   rw [at0_cons_succ] at hgt
   have := ih k (by simpa using hk) (fun j hj => by have := hall (j + 1) (by omega); rwa [at0_cons_succ] at this) hgt
   simp only [plainN, List.takeWhile_cons, h0, decide_true, if_true, List.length_cons]
   simp only [plainN] at this
   omega
theorem plainN_all (l : List Int) (h : ∀ j, j < l.length → at0 l j ≤ 127) : plainN l = l.length := by
 induction l with
 | nil => rfl
 | cons x t ih =>
  have h0 := h 0 (by simp)
  rw [at0_cons_zero] at h0
  have := ih (fun j hj => by have := h (j + 1) (by simp; omega); rwa [at0_cons_succ] at this)
  simp only [plainN, List.takeWhile_cons, h0, decide_true, if_true, List.length_cons]
  simp only [plainN] at this
  omega
theorem plainN_lt (l : List Int) : ∀ j, j < plainN l → at0 l j ≤ 127 := by
  induction l with
  | nil => intro j hj; simp [plainN] at hj
  | cons x t ih =>
    intro j hj
    by_cases hx : x ≤ 127
    · cases j with
      | zero => rw [at0_cons_zero]; exact hx
      | succ j =>
        rw [at0_cons_succ]
        apply ih
        simp only [plainN, List.takeWhile_cons, hx, decide_true, if_true, List.length_cons] at hj
        simp only [plainN]
        omega
    · simp [plainN, hx] at hj

theorem decS_plain (k : Nat) : ∀ l : List Int, k ≤ l.length → (∀ j, j < k → at0 l j ≤ 127) → decS l = (decS (l.drop k)).map (l.take k ++ ·) := by
 induction k with
 | zero => intro l _ _; simp
 | succ k ih =>
  intro l hk h
  cases l with
  | nil => simp at hk
  | cons x t =>
   have h0 := h 0 (by omega)
   rw [at0_cons_zero] at h0
   have hf : fstS (x :: t) = some (x, 1) := by
    rw [fst1_yes (by rw [at0_cons_zero]; omega) (by simp)]
    rfl
   rw [decS_some (by simp) hf]
   rw [show List.drop 1 (x :: t) = t from rfl, ih t (by simpa using hk) (fun j hj => by have := h (j + 1) (by omega); rwa [at0_cons_succ] at this), Option.map_map]
   rfl

set_option maxHeartbeats 400000 in
theorem plain_any (v : Value) (l : List Int) (w : World) (h : RdI .u8 w v l) (hb : Bytes l) :
    Calls Tryz.prog 48 #[v] w fun e w' => e = .returned (.int .i64 (plainN l)) ∧ w' = w := by
  obtain ⟨a, ca, rfl, hla, hma, ha, -⟩ := h
  unfold maxLen at hma
  have HA := Lib.hid ha; clear ha
  go_enter Tryz.func48, Tryz.ntmps48
  go_wp2
  go_loop [3, 6] (fun _ i => ∃ k : Nat, k ≤ l.length ∧ i = .int .i64 k ∧ ∀ j, j < k → at0 l j ≤ 127) (fun _ i => l.length - (intOf i).toNat)
  case atStart => exact ⟨0, Nat.zero_le _, rfl, fun j hj => by omega⟩
  case round =>
    obtain ⟨k, hk, rfl, hall⟩ := hrel
    have H := Lib.hid hall; clear hall
    by_cases hlt : k < l.length
    · obtain ⟨x, o, rfl, hc⟩ := HA.out k hlt
      clear HA
      obtain ⟨z0, z1⟩ := hb.at k
      go_wp2
      · go_ret
        refine ⟨?_, rfl⟩
        rw [plainN_at l k hlt H.out (by assumption)]
        rfl
      · go_round
        case rel =>
          refine ⟨k + 1, by omega, by go_num, fun j hj => ?_⟩
          by_cases e : j = k
          · subst e; assumption
          · exact H.out j (by omega)
        case measure => simp [intOf]; omega
    · clear HA
      go_wp2
      go_ret
      refine ⟨?_, rfl⟩
      rw [plainN_all l (fun j hj => H.out j (by omega))]
      rfl

def cntV (l : List Int) : Value := match decS l with
 | some rs => .tuple #[.int .i64 rs.length, .int .i64 0]
 | none => .tuple #[.int .i64 0, .int .i64 2]

set_option maxHeartbeats 1000000 in
theorem count_any (v : Value) (l : List Int) (w : World) (h : RdI .u8 w v l) (hb : Bytes l) (hlen : l.length ≤ 1000000) :
    Calls Tryz.prog 24 #[v] w fun e w' => e = .returned (cntV l) ∧ Below w.heap.size w w' := by
  go_enter Tryz.func24, Tryz.ntmps24
  go_wp2
  go_loopw [0, 4] (fun b n wr => ∃ (rest : List Int) (c : Nat), RdI .u8 w b rest ∧ Bytes rest ∧ n = .int .i64 c ∧ Below w.heap.size w wr ∧ (decS l).map List.length = (decS rest).map (fun x => c + x.length) ∧ c + rest.length ≤ l.length) (fun b _ _ => lenOf b)
  case atStart => exact ⟨l, 0, h, hb, rfl, Below.refl _ _, by simp, by simp⟩
  case round =>
    obtain ⟨rest, c, hrd, hbt, rfl, hbel, hdec, hsum⟩ := hrel
    have hrd0 := hrd
    obtain ⟨a, ca, rfl, hla, hma, ha, hn⟩ := hrd
    have HD := Lib.hid hdec; clear hdec ha hn
    have hple := plainN_le rest
    by_cases hpos : 0 < rest.length
    · by_cases hpl : 0 < plainN rest
      · go_wp2_with (go_at_call 48; refine (plain_any _ _ _ (hrd0.below hbel) hbt).mono ?_; rintro e w1 ⟨rfl, rfl⟩)
        refine ⟨⟨rest.drop (plainN rest), c + plainN rest, rd_cut hrd0 hple, hbt.drop _, by go_num, hbel, ?_, by simp; omega⟩, by simp [lenOf]; omega⟩
        rw [HD.out, decS_plain (plainN rest) rest hple (plainN_lt rest), Option.map_map]
        congr 1
        funext x
        simp [Nat.min_eq_left hple]
        omega
      · rcases hf : fstS rest with _ | ⟨r, n⟩
        · have HF := Lib.hid hf; clear hf
          go_wp2_with (first
            | (go_at_call 48; refine (plain_any _ _ _ (hrd0.below hbel) hbt).mono ?_; rintro e w1 ⟨rfl, rfl⟩)
            | (go_at_call 49; refine (first_any _ _ _ (hrd0.below hbel) hbt).mono ?_; rintro e w1 ⟨rfl, hb1⟩; rw [HF.out, firstV_none]))
          go_ret2
          refine ⟨?_, hbel.trans (hb1.mono hbel.size)⟩
          have hd := HD.out
          rw [decS_none (by intro e; simp [e] at hpos) HF.out] at hd
          have : decS l = none := by
            cases h : decS l with
            | none => rfl
            | some y => rw [h] at hd; simp at hd
          rw [cntV, this]
          rfl
        · obtain ⟨q1, q2, q3, q4⟩ := fstS_bounds hf
          have q5 := q4 (hbt.at 0).1
          clear q4
          have HF := Lib.hid hf; clear hf
          go_wp2_with (first
            | (go_at_call 48; refine (plain_any _ _ _ (hrd0.below hbel) hbt).mono ?_; rintro e w1 ⟨rfl, rfl⟩)
            | (go_at_call 49; refine (first_any _ _ _ (hrd0.below hbel) hbt).mono ?_; rintro e w1 ⟨rfl, hb1⟩; rw [HF.out, firstV_some]))
          refine ⟨⟨rest.drop n, c + 1, rd_cut hrd0 q3, hbt.drop n, by go_num, hbel.trans (hb1.mono hbel.size), ?_, by simp; omega⟩, by simp [lenOf]; omega⟩
          rw [HD.out, decS_some (by intro e; simp [e] at hpos) HF.out, Option.map_map]
          congr 1
          funext x
          simp
          omega
    · go_wp2
      go_ret2
      obtain rfl : rest = [] := List.eq_nil_of_length_eq_zero (by omega)
      refine ⟨?_, hbel⟩
      have hd := HD.out
      rw [decS_nil] at hd
      rw [cntV]
      cases h : decS l with
      | none => rw [h] at hd; simp at hd
      | some y =>
        rw [h] at hd
        simp at hd
        subst hd
        rfl

set_option maxHeartbeats 400000 in
theorem right_any (v : Value) (l : List Int) (w : World) (h : RdI .u8 w v l) (hb : Bytes l) (hlen : l.length ≤ 1000000) :
  Calls Tryz.prog 11 #[v] w fun e w' => e = .returned (.bool (decS l).isSome) ∧ Below w.heap.size w w' := by
 cases hd : decS l with
 | none =>
  have hc : cntV l = .tuple #[.int .i64 0, .int .i64 2] := by rw [cntV, hd]
  have HC := Lib.hid hc; clear hc hd
  go_enter Tryz.func11, Tryz.ntmps11
  go_wp2_with (go_at_call 24; refine (count_any _ _ _ h hb hlen).mono ?_; rintro e w1 ⟨rfl, hb1⟩; rw [HC.out])
  go_ret
  exact ⟨rfl, hb1⟩
 | some rs =>
  have hc : cntV l = .tuple #[.int .i64 rs.length, .int .i64 0] := by rw [cntV, hd]
  have HC := Lib.hid hc; clear hc hd
  go_enter Tryz.func11, Tryz.ntmps11
  go_wp2_with (go_at_call 24; refine (count_any _ _ _ h hb hlen).mono ?_; rintro e w1 ⟨rfl, hb1⟩; rw [HC.out])
  go_ret
  exact ⟨rfl, hb1⟩
def upB (s : ByteArray) : Bool := (decS (sb s)).isSome
theorem cv_oldB {P : Program} {F : FuncId} {args : List Value} {u : Value} {w : World} (h : Calls P F args.toArray w fun e w' => e = .returned u ∧ Below w.heap.size w w') : CV P F args w fun v _ => v = u :=
 Calls.mono h fun e w' ⟨h1, h2⟩ => ⟨u, h1, rfl, h2⟩
section
variable {P : Program} {ops : Array Oper} {o : Oper} {N : Nat} {f : Fl} {w : World}
theorem dx_nilP {x : Operand} {u : Value} {L : List Nat} {cs : List Value} (ho : o.op = .nilCheck x) (hx : ev f x = some u) (h : PtR L w u cs) (hw : wantF ops o f = some true := by rfl) : DV P ops o N f w u := by
 obtain ⟨_, X, q, rfl, _⟩ := h
 exact dx_nilCheck ho hx hw
theorem dv_NT {p : Prop} [Decidable p] (h : DV P ops o N f w (.bool (!decide p))) (hp : ¬ p) : DV P ops o N f w (.bool true) := by rw [decide_eq_false hp] at h; exact h
theorem dx_lenFM {α : Type} {enc : α → List Value} {xs : List α} {t s s' : Nat} {L : List Nat} {x : Operand} {v : Value} (ho : o.op = .call { callee := .builtin .len, args := #[x], argTypes := #[t] }) (ht : sliceB P t s' = true) (hx : ev f x = some v) (hr : RdF s L w v (xs.map enc)) (hw : wantF ops o f = some true := by rfl) : DV P ops o N f w (.int .i64 (xs.length : Int)) := by
 have := dx_lenF (N := N) ho ht hx hr hw
 rwa [List.length_map] at this
end
theorem leaf_er (up : ByteArray → Bool) (t : Tr) : leafJ up t.er = (decide (t.names = []) && decide (t.items = []) && (if t.kind = 3 then decide (t.text = ⟨#[]⟩) && (decide (-9007199254740991 ≤ t.num) && decide (t.num ≤ 9007199254740991)) else if t.kind = 4 then decide (t.num = 0) && up t.text else decide (t.num = 0) && decide (t.text = ⟨#[]⟩) && (decide (t.kind = 0) || decide (t.kind = 1) || decide (t.kind = 2)))) := by
 unfold leafJ
 rw [er_names, er_items, er_kind, er_text, er_num]
 have e : decide (t.items.map Tr.er = []) = decide (t.items = []) := by rw [decide_eq_decide]; simp
 rw [e]
theorem node_er (up : ByteArray → Bool) (t : Tr) : nodeJ up t.er = (decide (t.num = 0) && decide (t.text = ⟨#[]⟩) && (decide (t.kind = 5) && decide (t.names = []) || decide (t.kind = 6) && (decide (t.names.length = t.items.length) && (risesJ t.names && t.names.all up)))) := by
 unfold nodeJ
 rw [er_names, er_items, er_kind, er_text, er_num, List.length_map]
theorem right_leaf {up : ByteArray → Bool} {n : Nat} {t : Tr} (h5 : t.kind ≠ 5) (h6 : t.kind ≠ 6) : rightJ up n t.er = leafJ up t.er := by
 have hn : nodeJ up t.er = false := by
  rw [node_er, decide_eq_false h5, decide_eq_false h6]
  simp
 cases n with
 | zero => rfl
 | succ n => rw [rightJ, hn, Bool.false_and, Bool.or_false]
theorem right_node {up : ByteArray → Bool} {n : Nat} {t : Tr} (h : t.kind = 5 ∨ t.kind = 6) : rightJ up n t.er = match n with
  | 0 => false
  | m + 1 => nodeJ up t.er && t.er.items.all (rightJ up m) := by
 have hl : leafJ up t.er = false := by
  rw [leaf_er]
  rcases h with h | h <;> rw [h] <;> simp
 cases n with
 | zero => exact hl
 | succ n => rw [rightJ, hl, Bool.false_or]
theorem rises_t : ∀ {l : List ByteArray}, (∀ (k : Nat) (a b : ByteArray), l[k]? = some a → l[k + 1]? = some b → sless a b = true) → risesJ l = true
 | [], _ => rfl
 | [_], _ => rfl
 | a :: b :: l, h => by
  unfold risesJ
  rw [h 0 a b rfl rfl, Bool.true_and]
  exact rises_t fun k x y h1 h2 => h (k + 1) x y h1 h2
theorem rises_f : ∀ {l : List ByteArray} {k : Nat} {a b : ByteArray}, l[k]? = some a → l[k + 1]? = some b → sless a b = false → risesJ l = false
 | [], k, _, _, h, _, _ => by simp at h
 | [_], k, _, _, _, h, _ => by simp at h
 | a :: b :: l, 0, x, y, h1, h2, h3 => by
  cases h1
  cases h2
  unfold risesJ
  rw [h3, Bool.false_and]
 | a :: b :: l, k + 1, x, y, h1, h2, h3 => by
  unfold risesJ
  rw [rises_f (l := b :: l) (k := k) h1 h2 h3, Bool.and_false]
theorem names_t {l : List ByteArray} {up : ByteArray → Bool} (h1 : ∀ k a, k < l.length → l[k]? = some a → up a = true) (h2 : ∀ k a b, k + 1 < l.length → l[k]? = some a → l[k + 1]? = some b → sless a b = true) : (risesJ l && l.all up) = true := by
 rw [rises_t fun k a b ha hb => h2 k a b (List.getElem?_eq_some_iff.1 hb).1 ha hb, Bool.true_and]
 refine List.all_eq_true.2 fun a ha => ?_
 obtain ⟨k, hk⟩ := List.getElem?_of_mem ha
 exact h1 k a (List.getElem?_eq_some_iff.1 hk).1 hk
theorem names_f1 {l : List ByteArray} {up : ByteArray → Bool} {k : Nat} {a : ByteArray} (ha : l[k]? = some a) (h : up a = false) : (risesJ l && l.all up) = false := by
 rw [List.all_eq_false.2 ⟨a, List.mem_of_getElem? ha, by rw [h]; decide⟩, Bool.and_false]
theorem names_f2 {l : List ByteArray} {up : ByteArray → Bool} {k : Nat} {a b : ByteArray} (hk : 0 < k) (ha : l[k - 1]? = some a) (hb : l[k]? = some b) (h : sless a b = false) : (risesJ l && l.all up) = false := by
 rw [rises_f ha (by rw [show k - 1 + 1 = k by omega]; exact hb) h, Bool.false_and]
theorem items_t {l : List Tr} {p : Js → Bool} (h : ∀ k c, k < l.length → l[k]? = some c → p c.er = true) : (l.map Tr.er).all p = true := by
 refine List.all_eq_true.2 fun a ha => ?_
 obtain ⟨c, hc, rfl⟩ := List.mem_map.1 ha
 obtain ⟨k, hk⟩ := List.getElem?_of_mem hc
 exact h k c (List.getElem?_eq_some_iff.1 hk).1 hk
theorem items_f {l : List Tr} {p : Js → Bool} {k : Nat} {c : Tr} (hc : l[k]? = some c) (h : p c.er = false) : (l.map Tr.er).all p = false :=
 List.all_eq_false.2 ⟨c.er, List.mem_map.2 ⟨c, List.mem_of_getElem? hc, rfl⟩, by rw [h]; decide⟩
theorem ne_of_int {α : Type} {l : List α} (h : 0 < (l.length : Int)) : l ≠ [] := fun e => by rw [e] at h; simp at h
theorem nil_of_int {α : Type} {l : List α} (h : ¬ (0 < (l.length : Int))) : l = [] := List.length_eq_zero_iff.1 (by omega)
abbrev RightAt (n : Nat) : Prop := ∀ (t : Tr) (room : Nat) (u : Value) (w : World) (L : List Nat), LL L w → RdT n L w t → PtR L w u (encT t) → SzT 1000000 n t → room ≤ 100 → CV Tryz.prog 33 [u, .int .i64 (room : Int)] w fun v W => v = .bool (rightJ upB room t.er)
set_option maxHeartbeats 1000000 in
theorem rightItems_v (n : Nat) (ih : RightAt n) (t : Tr) (room : Nat) (u : Value) (w : World) (L : List Nat) (hL : LL L w) (ht : RdT (n + 1) L w t) (hu : PtR L w u (encT t))  (hz : SzT 1000000 (n + 1) t) (hrm : room + 1 ≤ 100) : CV Tryz.prog 57 [u, .int .i64 ((room + 1 : Nat) : Int)] w fun v W => v = .bool (t.er.items.all (rightJ upB room)) := by
 refine cv_enter (N := 25) (f := [(0, u), (1, .int .i64 ((room + 1 : Nat) : Int))]) Tryz.func57 rfl rfl rfl rfl fun Q hQ hE => ?_
 have hB := Below.refl w.heap.size w
 refine Sq fun K1 hK1 => ?_
 obtain ⟨hz1, hz2, hz3, hz4, hz5⟩ := hz
 obtain ⟨hnt, hit, hct⟩ := ht
 replace hct : RdTs n (L) w t.items := hct
 refine Rg (Pu rfl (Ni (hK1 (Sq fun K2 hK2 => (Sq fun K3 hK3 => (Rg (Pu rfl ?_)))))))
 refine Va (dx_nilP rfl rfl hu) rfl rfl ?_
 refine Ge (dx_fldP 1 rfl ty_fld_27_4_4 rfl hu (cs' := [t.iv]) rfl (Nat.succ_pos _)) rfl rfl ?_
 rintro u4 _ ⟨rfl, p5⟩
 refine Va (dx_loadP rfl ty_one_25 rfl p5) rfl rfl (Va (dx_lenFM rfl ty_slice_25 rfl hit) rfl rfl (Pu rfl (Ni (hK3 (WC.block ?_)))))
 refine WC.loop (fun (i : Nat) => [(0, u), (1, .int .i64 ((room + 1 : Nat) : Int)), (10, .int .i64 (t.items.length : Int)), (11, .int .i64 (i : Int))]) (fun (i : Nat) W => i ≤ t.items.length ∧ (∀ k c, k < i → t.items[k]? = some c → rightJ upB room c.er = true) ∧ Below w.heap.size w W ∧ LL (L) W ∧ PtR (L) W u (encT t) ∧ RdF 1 (L) W t.nv (t.names.map eS) ∧ RdF 5 (L) W t.iv (t.items.map encT) ∧ RdTs n (L) W t.items) (fun (i : Nat) => t.items.length - i) 0 (by repeat first | exact trivial | refine aR ?_ | refine aI (by omega) ?_) ⟨Nat.zero_le _, (fun k c hk => by omega), hB, hL, hu, hnt, hit, hct⟩ ?_
 clear hu hnt hit hct hB hL
 rintro K6 i W7 ⟨hi, hv, hB, hL, hu, hnt, hit, hct⟩ hK6
 refine Sq fun K8 hK8 => (Rg (Va (dx_lss rfl rfl rfl) rfl rfl (Ni (hK8 (Sq fun K9 hK9 => ?_)))))
 refine WC.cond rfl (fun c10 => ?_) (fun c10 => ?_)
 ·
  replace c10 := dT c10
  refine WC.skip (hK9 (Sq fun K11 hK11 => (WC.block (Sq fun K12 hK12 => (Rg (Pu rfl (Pu rfl ?_)))))))
  refine Ni (hK12 (Sq fun K13 hK13 => (Rg (Pu rfl (Va (dx_nilP rfl rfl hu) rfl rfl ?_)))))
  refine Ge (dx_fldP 1 rfl ty_fld_27_4_4 rfl hu (cs' := [t.iv]) rfl (Nat.succ_pos _)) rfl rfl ?_
  rintro u14 _ ⟨rfl, p15⟩
  refine Va (dx_loadP rfl ty_one_25 rfl p15) rfl rfl (Pu rfl ?_)
  obtain ⟨r16, e17⟩ : ∃ x, t.items[i]? = some x := ⟨_, List.getElem?_eq_getElem (by omega)⟩
  refine Ge (dx_idxF i rfl ty_slice_25 rfl rfl hit (by omega) (at_mapX e17)) rfl rfl ?_
  rintro u18 _ ⟨rfl, p19⟩
  refine Pu rfl (Va (dx_sub (r := (room : Int)) rfl rfl rfl (by rw [wrap64_id (by omega)]; omega)) rfl rfl ?_)
  refine Ge (dx_cv rfl Tryz.func33 rfl rfl rfl (ih r16 room _ W7 _ hL (hct r16 (List.mem_of_getElem? e17)) p19 (hz5 r16 (List.mem_of_getElem? e17)) (by omega))) rfl rfl ?_
  rintro _ W21 ⟨rfl, b20⟩
  replace hu := hu.below b20
  replace hnt := hnt.below b20
  replace hit := hit.below b20
  replace hct := hct.below b20
  replace hB := below_then hB b20
  replace hL := LL.below hL b20
  refine Va (dx_not rfl rfl) rfl rfl (Ni (hK13 ?_))
  refine WC.cond rfl (fun c22 => ?_) (fun c22 => ?_)
  ·
   replace c22 := bnot_t c22
   refine Sq fun K23 hK23 => (Rg (Pu rfl (Ni (hK23 ?_))))
   exact WC.ret fun a_ ha_ => hQ (cv_ret1 rfl (.tmp rfl) (by rw [er_items, items_f e17 (by first | assumption | simp_all)]) hB ha_)
  ·
   replace c22 := bnot_f c22
   refine WC.skip (hK11 (Rg (Va (dx_add (r := (i : Int) + 1) rfl rfl rfl (wrap64_id (by omega))) rfl rfl (Pu rfl (Ni ?_)))))
   exact hK6 (i + 1) ⟨(by omega), (fun k c hk hc_ => by rcases Nat.lt_or_ge k i with hl | hl; exact hv k c hl hc_; obtain rfl : k = i := (by omega); rw [e17] at hc_; cases hc_; first | assumption | simp_all), hB, hL, hu, hnt, hit, hct⟩ (by omega) (by repeat first | exact trivial | refine aR ?_ | refine aI (by omega) ?_)
 ·
  replace c10 := dF c10
  refine WC.exit ?_
  refine hK2 (Sq fun K24 hK24 => (Rg (Pu rfl (Ni (hK24 ?_)))))
  exact WC.ret fun a_ ha_ => hQ (cv_ret1 rfl (.tmp rfl) (by rw [er_items, items_t (fun k c hk hc_ => hv k c (by omega) hc_)]) hB ha_)

set_option maxHeartbeats 1000000 in
theorem rightNames_v (n : Nat) (t : Tr) (u : Value) (w : World) (L : List Nat) (hL : LL L w) (ht : RdT (n + 1) L w t) (hu : PtR L w u (encT t))  (hz : SzT 1000000 (n + 1) t) : CV Tryz.prog 58 [u] w fun v W => v = .bool (decide (t.names.length = t.items.length) && (risesJ t.names && t.names.all upB)) := by
 refine cv_enter (N := 47) (f := [(0, u)]) Tryz.func58 rfl rfl rfl rfl fun Q hQ hE => ?_
 have hB := Below.refl w.heap.size w
 refine Sq fun K1 hK1 => ?_
 obtain ⟨hz1, hz2, hz3, hz4, hz5⟩ := hz
 obtain ⟨hnt, hit, hct⟩ := ht
 replace hct : RdTs n (L) w t.items := hct
 refine Rg (Pu rfl (Ni (hK1 (Sq fun K2 hK2 => (Sq fun K3 hK3 => ?_)))))
 refine dM 10 [(some 5, .is (u)), (some 6, .is (u)), (some 7, .by fun u W => PtR (L) W u [t.nv]), (some 8, .is (t.nv)), (some 9, .is (.int .i64 (t.names.length : Int))), (some 10, .is (u)), (some 11, .is (u)), (some 12, .by fun u W => PtR (L) W u [t.iv]), (some 13, .is (t.iv)), (some 14, .is (.int .i64 (t.items.length : Int)))] [[], [0], [1], [2], [3], [], [5], [6], [7], [8]] ⟨fun _ _ _ hb h => h.below hb, fun _ _ _ hb h => h.below hb, trivial⟩ ?_ ?_
 ·
  refine Dc (fun Wd hd => ?_) ?_
  ·
   exact Dd (dx_move rfl rfl) rfl
  refine Dc (fun Wd hd => ?_) ?_
  ·
   have hu := hu.below hd
   exact Dd (dx_nilP rfl rfl hu) rfl
  refine Dc (fun Wd hd => ?_) ?_
  ·
   have hu := hu.below hd
   exact (dx_fldP 1 rfl ty_fld_27_3_3 rfl hu (cs' := [t.nv]) rfl (Nat.succ_pos _)).mono (fun v W' h => ⟨by rw [← h.1]; exact Below.refl _ _, by rw [← h.1]; exact h.2⟩)
  refine Dc (fun Wd hd => ?_) ?_
  ·
   intro u1_2 p1_2
   exact Dd (dx_loadP rfl ty_one_24 rfl p1_2) rfl
  refine Dc (fun Wd hd => ?_) ?_
  ·
   have hnt := hnt.below hd
   exact Dd (dx_lenFM rfl ty_slice_24 rfl hnt) rfl
  refine Dc (fun Wd hd => ?_) ?_
  ·
   exact Dd (dx_move rfl rfl) rfl
  refine Dc (fun Wd hd => ?_) ?_
  ·
   have hu := hu.below hd
   exact Dd (dx_nilP rfl rfl hu) rfl
  refine Dc (fun Wd hd => ?_) ?_
  ·
   have hu := hu.below hd
   exact (dx_fldP 1 rfl ty_fld_27_4_4 rfl hu (cs' := [t.iv]) rfl (Nat.succ_pos _)).mono (fun v W' h => ⟨by rw [← h.1]; exact Below.refl _ _, by rw [← h.1]; exact h.2⟩)
  refine Dc (fun Wd hd => ?_) ?_
  ·
   intro u1_7 p1_7
   exact Dd (dx_loadP rfl ty_one_25 rfl p1_7) rfl
  refine Dc (fun Wd hd => ?_) ?_
  ·
   have hit := hit.below hd
   exact Dd (dx_lenFM rfl ty_slice_25 rfl hit) rfl
  exact trivial
 ·
  intro W4 b5
  intro u1_2 p1_2
  intro u1_7 p1_7
  replace hu := hu.below b5
  replace hnt := hnt.below b5
  replace hit := hit.below b5
  replace hct := hct.below b5
  replace hB := below_then hB b5
  replace hL := LL.below hL b5
  refine Va (dx_neq rfl rfl rfl) rfl rfl (Ni (hK3 ?_))
  refine WC.cond rfl (fun c6 => ?_) (fun c6 => ?_)
  ·
   replace c6 := bnot_t c6
   replace c6 := dF c6
   refine Sq fun K7 hK7 => (Rg (Pu rfl (Ni (hK7 ?_))))
   exact WC.ret fun a_ ha_ => hQ (cv_ret1 rfl (.tmp rfl) (by rw [decide_eq_false (show ¬ t.names.length = t.items.length by omega), Bool.false_and]) hB ha_)
  ·
   replace c6 := bnot_f c6
   replace c6 := dT c6
   refine WC.skip (hK2 (Sq fun K8 hK8 => (Sq fun K9 hK9 => (Rg (Pu rfl (Va (dx_nilP rfl rfl hu) rfl rfl ?_))))))
   refine Ge (dx_fldP 1 rfl ty_fld_27_3_3 rfl hu (cs' := [t.nv]) rfl (Nat.succ_pos _)) rfl rfl ?_
   rintro u10 _ ⟨rfl, p11⟩
   refine Va (dx_loadP rfl ty_one_24 rfl p11) rfl rfl (Va (dx_lenFM rfl ty_slice_24 rfl hnt) rfl rfl (Pu rfl (Ni (hK9 (WC.block ?_)))))
   refine WC.loop (fun (i : Nat) => [(0, u), (19, t.nv), (20, .int .i64 (t.names.length : Int)), (21, .int .i64 (i : Int))]) (fun (i : Nat) W => i ≤ t.names.length ∧ (∀ k a, k < i → t.names[k]? = some a → upB a = true) ∧ (∀ k a b, k + 1 < i → t.names[k]? = some a → t.names[k + 1]? = some b → sless a b = true) ∧ Below w.heap.size w W ∧ LL (L) W ∧ PtR (L) W u (encT t) ∧ RdF 1 (L) W t.nv (t.names.map eS) ∧ RdF 5 (L) W t.iv (t.items.map encT) ∧ RdTs n (L) W t.items) (fun (i : Nat) => t.names.length - i) 0 (by repeat first | exact trivial | refine aR ?_ | refine aI (by omega) ?_) ⟨Nat.zero_le _, (fun k a hk => by omega), (fun k a b hk => by omega), hB, hL, hu, hnt, hit, hct⟩ ?_
   clear hu hnt hit hct hB hL
   rintro K12 i W13 ⟨hi, hv, hs, hB, hL, hu, hnt, hit, hct⟩ hK12
   refine Sq fun K14 hK14 => (Rg (Va (dx_lss rfl rfl rfl) rfl rfl (Ni (hK14 (Sq fun K15 hK15 => ?_)))))
   refine WC.cond rfl (fun c16 => ?_) (fun c16 => ?_)
   ·
    replace c16 := dT c16
    refine WC.skip (hK15 (Sq fun K17 hK17 => (WC.block (Sq fun K18 hK18 => (Rg (Pu rfl ?_))))))
    obtain ⟨r19, e20⟩ : ∃ x, t.names[i]? = some x := ⟨_, List.getElem?_eq_getElem (by omega)⟩
    refine Ge (dx_idxF i rfl ty_slice_24 rfl rfl hnt (by omega) (at_mapX e20)) rfl rfl ?_
    rintro u21 _ ⟨rfl, p22⟩
    refine Va (dx_loadP rfl ty_one_9 rfl p22) rfl rfl (Pu rfl (Pu rfl (Ni (hK18 (Sq fun K23 hK23 => ?_)))))
    have hsz := hz4 r19 (List.mem_of_getElem? e20)
    refine Rg (Pu rfl (Va (dx_gtr rfl rfl rfl) rfl rfl (Pu rfl ?_)))
    refine WL.split 28 rfl (fun g24 => ?_) (fun g24 => ?_)
    ·
     replace g24 := dT g24
     refine Pu rfl (Va (dx_nilP rfl rfl hu) rfl rfl ?_)
     refine Ge (dx_fldP 1 rfl ty_fld_27_3_3 rfl hu (cs' := [t.nv]) rfl (Nat.succ_pos _)) rfl rfl ?_
     rintro u25 _ ⟨rfl, p26⟩
     refine Va (dx_loadP rfl ty_one_24 rfl p26) rfl rfl (Pu rfl (Va (dx_sub (r := (i : Int) - 1) rfl rfl rfl (wrap64_id (by omega))) rfl rfl ?_))
     obtain ⟨r27, e28⟩ : ∃ x, t.names[(i - 1)]? = some x := ⟨_, List.getElem?_eq_getElem (by omega)⟩
     refine Ge (dx_idxF (i - 1) rfl ty_slice_24 rfl rfl hnt (by omega) (at_mapX e28)) rfl rfl ?_
     rintro u29 _ ⟨rfl, p30⟩
     refine Va (dx_loadP rfl ty_one_9 rfl p30) rfl rfl (Pu rfl (Va (dx_geqT rfl rfl rfl) rfl rfl (Pu rfl (Pu rfl ?_))))
     refine WL.split 40 rfl (fun g31 => ?_) (fun g31 => ?_)
     ·
      replace g31 := bnot_t g31
      refine Of rfl (Of rfl (Of rfl (Of rfl (Pu rfl (Ni (hK23 (WC.condT rfl ?_)))))))
      refine Sq fun K32 hK32 => (Rg (Pu rfl (Ni (hK32 ?_))))
      exact WC.ret fun a_ ha_ => hQ (cv_ret1 rfl (.tmp rfl) (by rw [show (risesJ t.names && t.names.all upB) = false from names_f2 (by omega) e28 e20 (by first | assumption | simp_all), Bool.and_false]) hB ha_)
     ·
      replace g31 := bnot_f g31
      refine Pu rfl ?_
      refine Ge (dx_sb (L := L) rfl Tryz.underlying9 Tryz.underlying34 Tryz.underlying5 rfl hL (by unfold maxLen; omega)) rfl rfl ?_
      rintro u33 W34 ⟨k35, b36⟩
      replace hu := hu.below b36
      replace hnt := hnt.below b36
      replace hit := hit.below b36
      replace hct := hct.below b36
      replace hB := below_then hB b36
      replace hL := LL.below hL b36
      refine Ge (dx_cv rfl Tryz.func11 rfl rfl rfl ((show CV _ _ [_] _ (fun v _ => v = .bool (upB r19)) from cv_oldB (right_any u33 (sb r19) W34 (rdI_of k35) (sb_bytes _) (by rw [sb_length]; omega))))) rfl rfl ?_
      rintro _ W38 ⟨rfl, b37⟩
      replace hu := hu.below b37
      replace hnt := hnt.below b37
      replace hit := hit.below b37
      replace hct := hct.below b37
      replace hB := below_then hB b37
      replace hL := LL.below hL b37
      refine Va (dx_not rfl rfl) rfl rfl (Pu rfl (Ni (hK23 ?_)))
      refine WC.cond rfl (fun c39 => ?_) (fun c39 => ?_)
      ·
       replace c39 := bnot_t c39
       refine Sq fun K40 hK40 => (Rg (Pu rfl (Ni (hK40 ?_))))
       exact WC.ret fun a_ ha_ => hQ (cv_ret1 rfl (.tmp rfl) (by rw [show (risesJ t.names && t.names.all upB) = false from names_f1 e20 (by first | assumption | simp_all), Bool.and_false]) hB ha_)
      ·
       replace c39 := bnot_f c39
       refine WC.skip (hK17 (Rg (Va (dx_add (r := (i : Int) + 1) rfl rfl rfl (wrap64_id (by omega))) rfl rfl (Pu rfl (Ni ?_)))))
       exact hK12 (i + 1) ⟨(by omega), (fun k a hk ha => by rcases Nat.lt_or_ge k i with hl | hl; exact hv k a hl ha; obtain rfl : k = i := (by omega); rw [e20] at ha; cases ha; first | assumption | simp_all), (fun k a b hk ha hb => by rcases Nat.lt_or_ge (k + 1) i with hl | hl; exact hs k a b hl ha hb; obtain rfl : k = i - 1 := (by omega); rw [e28] at ha; rw [show i - 1 + 1 = i by omega, e20] at hb; cases ha; cases hb; first | assumption | simp_all), hB, hL, hu, hnt, hit, hct⟩ (by omega) (by repeat first | exact trivial | refine aR ?_ | refine aI (by omega) ?_)
    ·
     replace g24 := dF g24
     refine Of rfl (Of rfl (Of rfl (Of rfl (Of rfl (Of rfl (Of rfl (Of rfl ?_)))))))
     refine Of rfl (Of rfl (Pu rfl (Pu rfl (Pu rfl ?_))))
     refine Ge (dx_sb (L := L) rfl Tryz.underlying9 Tryz.underlying34 Tryz.underlying5 rfl hL (by unfold maxLen; omega)) rfl rfl ?_
     rintro u41 W42 ⟨k43, b44⟩
     replace hu := hu.below b44
     replace hnt := hnt.below b44
     replace hit := hit.below b44
     replace hct := hct.below b44
     replace hB := below_then hB b44
     replace hL := LL.below hL b44
     refine Ge (dx_cv rfl Tryz.func11 rfl rfl rfl ((show CV _ _ [_] _ (fun v _ => v = .bool (upB r19)) from cv_oldB (right_any u41 (sb r19) W42 (rdI_of k43) (sb_bytes _) (by rw [sb_length]; omega))))) rfl rfl ?_
     rintro _ W46 ⟨rfl, b45⟩
     replace hu := hu.below b45
     replace hnt := hnt.below b45
     replace hit := hit.below b45
     replace hct := hct.below b45
     replace hB := below_then hB b45
     replace hL := LL.below hL b45
     refine Va (dx_not rfl rfl) rfl rfl (Pu rfl (Ni (hK23 ?_)))
     refine WC.cond rfl (fun c47 => ?_) (fun c47 => ?_)
     ·
      replace c47 := bnot_t c47
      refine Sq fun K48 hK48 => (Rg (Pu rfl (Ni (hK48 ?_))))
      exact WC.ret fun a_ ha_ => hQ (cv_ret1 rfl (.tmp rfl) (by rw [show (risesJ t.names && t.names.all upB) = false from names_f1 e20 (by first | assumption | simp_all), Bool.and_false]) hB ha_)
     ·
      replace c47 := bnot_f c47
      refine WC.skip (hK17 (Rg (Va (dx_add (r := (i : Int) + 1) rfl rfl rfl (wrap64_id (by omega))) rfl rfl (Pu rfl (Ni ?_)))))
      exact hK12 (i + 1) ⟨(by omega), (fun k a hk ha => by rcases Nat.lt_or_ge k i with hl | hl; exact hv k a hl ha; obtain rfl : k = i := (by omega); rw [e20] at ha; cases ha; first | assumption | simp_all), (fun k a b hk ha hb => by exfalso; omega), hB, hL, hu, hnt, hit, hct⟩ (by omega) (by repeat first | exact trivial | refine aR ?_ | refine aI (by omega) ?_)
   ·
    replace c16 := dF c16
    refine WC.exit ?_
    refine hK8 (Sq fun K49 hK49 => (Rg (Pu rfl (Ni (hK49 ?_)))))
    exact WC.ret fun a_ ha_ => hQ (cv_ret1 rfl (.tmp rfl) (by rw [names_t (fun k a hk ha => hv k a (by omega) ha) (fun k a b hk ha hb => hs k a b (by omega) ha hb), Bool.and_true]; exact congrArg Value.bool (decide_eq_true (by omega)).symm) hB ha_)

section
variable {up : ByteArray → Bool} {n : Nat} {t : Tr}
theorem right_no1 (h : t.kind ≠ 3 ∧ t.num ≠ 0 ∨ t.kind ≠ 4 ∧ t.text ≠ ⟨#[]⟩) : rightJ up n t.er = false := by
  by_cases hk : t.kind = 5 ∨ t.kind = 6
  · have e : nodeJ up t.er = false := by
      rw [node_er]
      rcases h with ⟨_, h⟩ | ⟨_, h⟩ <;> rw [decide_eq_false h] <;> simp
    rw [right_node hk]
    cases n with
    | zero => rfl
    | succ m => show (nodeJ up t.er && _) = false; rw [e]; rfl
  · rw [right_leaf (fun e => hk (.inl e)) (fun e => hk (.inr e)), leaf_er]
    rcases h with ⟨h1, h⟩ | ⟨h1, h⟩
    · rw [if_neg h1]; split <;> simp [h]
    · split
      · simp [h]
      · simp [h]
theorem right_no2 (h : t.kind ≠ 6 ∧ t.names ≠ [] ∨ t.kind ≠ 5 ∧ t.kind ≠ 6 ∧ t.items ≠ []) : rightJ up n t.er = false := by
  by_cases hk : t.kind = 5 ∨ t.kind = 6
  · have e : nodeJ up t.er = false := by
      rw [node_er]
      rcases h with ⟨h1, h2⟩ | ⟨h1, h2, _⟩
      · rw [decide_eq_false h1, decide_eq_false h2]; simp
      · rcases hk with hk | hk
        · exact absurd hk h1
        · exact absurd hk h2
    rw [right_node hk]
    cases n with
    | zero => rfl
    | succ m => show (nodeJ up t.er && _) = false; rw [e]; rfl
  · rw [right_leaf (fun e => hk (.inl e)) (fun e => hk (.inr e)), leaf_er]
    rcases h with ⟨_, h⟩ | ⟨_, _, h⟩ <;> rw [decide_eq_false h] <;> simp
end
set_option maxHeartbeats 2000000 in
theorem right_step (n : Nat) (ih : RightAt n) (t : Tr) (room : Nat) (u : Value) (w : World) (L : List Nat) (hL : LL L w) (ht : RdT (n + 1) L w t) (hu : PtR L w u (encT t))  (hz : SzT 1000000 (n + 1) t) (hrm : room ≤ 100) : CV Tryz.prog 33 [u, .int .i64 (room : Int)] w fun v W => v = .bool (rightJ upB room t.er) := by
 refine cv_enter (N := 118) (f := [(0, u), (1, .int .i64 (room : Int))]) Tryz.func33 rfl rfl rfl rfl fun Q hQ hE => ?_
 have hB := Below.refl w.heap.size w
 refine Sq fun K1 hK1 => ?_
 obtain ⟨hz1, hz2, hz3, hz4, hz5⟩ := hz
 obtain ⟨hnt, hit, hct⟩ := ht
 replace hct : RdTs n (L) w t.items := hct
 refine Rg (Pu rfl (Ni (hK1 (Sq fun K2 hK2 => ?_))))
 have hJ1 : ∀ (_ : Unit) (f_ : Fl), ((t.kind ≠ 3 → t.num = 0) ∧ (t.kind ≠ 4 → t.text = ⟨#[]⟩)) → Sub [(0, u), (1, .int .i64 (room : Int))] f_ → ∀ a, Fr 118 a f_ → K2 a w := by
  intro _ f_ hb_ hs_
  obtain ⟨hA1, hA2⟩ := hb_
  refine hK2 (WC.sub hs_ ?_)
  refine Sq fun K3 hK3 => ?_
  have hJ3 : ∀ (_ : Unit) (f_ : Fl), ((t.kind ≠ 6 → t.names = []) ∧ (t.kind ≠ 5 → t.kind ≠ 6 → t.items = [])) → Sub [(0, u), (1, .int .i64 (room : Int))] f_ → ∀ a, Fr 118 a f_ → K3 a w := by
   intro _ f_ hb_ hs_
   obtain ⟨hD1, hD2⟩ := hb_
   refine hK3 (WC.sub hs_ ?_)
   refine Sq fun K4 hK4 => (Sq fun K5 hK5 => ?_)
   rcases (show t.kind = 0 ∨ t.kind = 1 ∨ t.kind = 2 ∨ t.kind = 3 ∨ t.kind = 4 ∨ t.kind = 5 ∨ t.kind = 6 ∨ (t.kind ≠ 0 ∧ t.kind ≠ 1 ∧ t.kind ≠ 2 ∧ t.kind ≠ 3 ∧ t.kind ≠ 4 ∧ t.kind ≠ 5 ∧ t.kind ≠ 6) by omega) with hkt | hkt | hkt | hkt | hkt | hkt | hkt | hkt
   ·
    have hnum0 : t.num = 0 := hA1 (by omega)
    have htx0 : t.text = ⟨#[]⟩ := hA2 (by omega)
    have hnm0 : t.names = [] := hD1 (by omega)
    have hit0 : t.items = [] := hD2 (by omega) (by omega)
    refine Rg (Pu rfl (Va (dx_nilP rfl rfl hu) rfl rfl ?_))
    refine Ge (dx_fldP 1 rfl ty_fld_27_0_0 rfl hu (cs' := [.int .i64 t.kind]) rfl (Nat.succ_pos _)) rfl rfl ?_
    rintro u6 _ ⟨rfl, p7⟩
    refine Va ((hkt ▸ dx_loadP rfl ty_one_3 rfl p7)) rfl rfl (Ni (hK5 (WC.block (Sq fun K8 hK8 => (Sq fun K9 hK9 => (Rg (Va (dx_eql rfl rfl rfl) rfl rfl ?_)))))))
    refine Pu rfl (Ni (hK9 (WC.condT rfl (WC.skip (hK8 (WC.condT rfl (Sq fun K10 hK10 => ?_)))))))
    refine Rg (Pu rfl (Ni (hK10 ?_)))
    exact WC.ret fun a_ ha_ => hQ (cv_ret1 rfl (.tmp rfl) (by (try have hnl := nil_of_int ‹¬ (0 < (t.names.length : Int))›); (try have hil := nil_of_int ‹¬ (0 < (t.items.length : Int))›); (try have hnl2 := ne_of_int ‹0 < (t.names.length : Int)›); (try have hil2 := ne_of_int ‹0 < (t.items.length : Int)›); rw [right_leaf (by first | (rw [hkt]; decide) | omega) (by first | (rw [hkt]; decide) | omega), leaf_er]; first | (simp [hkt, *]; done) | (simp_all; done) | (simp_all <;> omega)) hB ha_)
   ·
    have hnum0 : t.num = 0 := hA1 (by omega)
    have htx0 : t.text = ⟨#[]⟩ := hA2 (by omega)
    have hnm0 : t.names = [] := hD1 (by omega)
    have hit0 : t.items = [] := hD2 (by omega) (by omega)
    refine Rg (Pu rfl (Va (dx_nilP rfl rfl hu) rfl rfl ?_))
    refine Ge (dx_fldP 1 rfl ty_fld_27_0_0 rfl hu (cs' := [.int .i64 t.kind]) rfl (Nat.succ_pos _)) rfl rfl ?_
    rintro u11 _ ⟨rfl, p12⟩
    refine Va ((hkt ▸ dx_loadP rfl ty_one_3 rfl p12)) rfl rfl (Ni (hK5 (WC.block (Sq fun K13 hK13 => (Sq fun K14 hK14 => (Rg (Va (dx_eql rfl rfl rfl) rfl rfl ?_)))))))
    refine Pu rfl (Ni (hK14 (WC.condF rfl (Sq fun K15 hK15 => (Rg (Va (dx_eql rfl rfl rfl) rfl rfl (Pu rfl ?_)))))))
    refine Ni (hK15 (WC.condT rfl (WC.skip (hK13 (WC.condT rfl (Sq fun K16 hK16 => (Rg ?_)))))))
    refine Pu rfl (Ni (hK16 ?_))
    exact WC.ret fun a_ ha_ => hQ (cv_ret1 rfl (.tmp rfl) (by (try have hnl := nil_of_int ‹¬ (0 < (t.names.length : Int))›); (try have hil := nil_of_int ‹¬ (0 < (t.items.length : Int))›); (try have hnl2 := ne_of_int ‹0 < (t.names.length : Int)›); (try have hil2 := ne_of_int ‹0 < (t.items.length : Int)›); rw [right_leaf (by first | (rw [hkt]; decide) | omega) (by first | (rw [hkt]; decide) | omega), leaf_er]; first | (simp [hkt, *]; done) | (simp_all; done) | (simp_all <;> omega)) hB ha_)
   ·
    have hnum0 : t.num = 0 := hA1 (by omega)
    have htx0 : t.text = ⟨#[]⟩ := hA2 (by omega)
    have hnm0 : t.names = [] := hD1 (by omega)
    have hit0 : t.items = [] := hD2 (by omega) (by omega)
    refine Rg (Pu rfl (Va (dx_nilP rfl rfl hu) rfl rfl ?_))
    refine Ge (dx_fldP 1 rfl ty_fld_27_0_0 rfl hu (cs' := [.int .i64 t.kind]) rfl (Nat.succ_pos _)) rfl rfl ?_
    rintro u17 _ ⟨rfl, p18⟩
    refine Va ((hkt ▸ dx_loadP rfl ty_one_3 rfl p18)) rfl rfl (Ni (hK5 (WC.block (Sq fun K19 hK19 => (Sq fun K20 hK20 => (Rg (Va (dx_eql rfl rfl rfl) rfl rfl ?_)))))))
    refine Pu rfl (Ni (hK20 (WC.condF rfl (Sq fun K21 hK21 => (Rg (Va (dx_eql rfl rfl rfl) rfl rfl (Pu rfl ?_)))))))
    refine Ni (hK21 (WC.condF rfl (Rg (Va (dx_eql rfl rfl rfl) rfl rfl (Pu rfl (Ni (hK19 ?_)))))))
    refine WC.condT rfl (Sq fun K22 hK22 => (Rg (Pu rfl (Ni (hK22 ?_)))))
    exact WC.ret fun a_ ha_ => hQ (cv_ret1 rfl (.tmp rfl) (by (try have hnl := nil_of_int ‹¬ (0 < (t.names.length : Int))›); (try have hil := nil_of_int ‹¬ (0 < (t.items.length : Int))›); (try have hnl2 := ne_of_int ‹0 < (t.names.length : Int)›); (try have hil2 := ne_of_int ‹0 < (t.items.length : Int)›); rw [right_leaf (by first | (rw [hkt]; decide) | omega) (by first | (rw [hkt]; decide) | omega), leaf_er]; first | (simp [hkt, *]; done) | (simp_all; done) | (simp_all <;> omega)) hB ha_)
   ·
    have htx0 : t.text = ⟨#[]⟩ := hA2 (by omega)
    have hnm0 : t.names = [] := hD1 (by omega)
    have hit0 : t.items = [] := hD2 (by omega) (by omega)
    refine Rg (Pu rfl (Va (dx_nilP rfl rfl hu) rfl rfl ?_))
    refine Ge (dx_fldP 1 rfl ty_fld_27_0_0 rfl hu (cs' := [.int .i64 t.kind]) rfl (Nat.succ_pos _)) rfl rfl ?_
    rintro u23 _ ⟨rfl, p24⟩
    refine Va ((hkt ▸ dx_loadP rfl ty_one_3 rfl p24)) rfl rfl (Ni (hK5 (WC.block (Sq fun K25 hK25 => (Sq fun K26 hK26 => (Rg (Va (dx_eql rfl rfl rfl) rfl rfl ?_)))))))
    refine Pu rfl (Ni (hK26 (WC.condF rfl (Sq fun K27 hK27 => (Rg (Va (dx_eql rfl rfl rfl) rfl rfl (Pu rfl ?_)))))))
    refine Ni (hK27 (WC.condF rfl (Rg (Va (dx_eql rfl rfl rfl) rfl rfl (Pu rfl (Ni (hK25 ?_)))))))
    refine WC.condF rfl (Sq fun K28 hK28 => (Rg (Va (dx_eql rfl rfl rfl) rfl rfl (Pu rfl (Ni (hK28 (WC.condT rfl ?_)))))))
    refine Sq fun K29 hK29 => (Rg (Pu rfl (Va (dx_nilP rfl rfl hu) rfl rfl ?_)))
    refine Ge (dx_fldP 1 rfl ty_fld_27_1_1 rfl hu (cs' := [.int .i64 t.num]) rfl (Nat.succ_pos _)) rfl rfl ?_
    rintro u30 _ ⟨rfl, p31⟩
    refine Va (dx_loadP rfl ty_one_3 rfl p31) rfl rfl (Va (dx_geq rfl rfl rfl) rfl rfl (Pu rfl ?_))
    refine WL.split 81 rfl (fun g32 => ?_) (fun g32 => ?_)
    ·
     replace g32 := dT g32
     refine Pu rfl (Va (dx_nilP rfl rfl hu) rfl rfl ?_)
     refine Ge (dx_fldP 1 rfl ty_fld_27_1_1 rfl hu (cs' := [.int .i64 t.num]) rfl (Nat.succ_pos _)) rfl rfl ?_
     rintro u33 _ ⟨rfl, p34⟩
     refine Va (dx_loadP rfl ty_one_3 rfl p34) rfl rfl (Va (dx_leq rfl rfl rfl) rfl rfl (Pu rfl (Pu rfl (Ni (hK29 ?_)))))
     exact WC.ret fun a_ ha_ => hQ (cv_ret1 rfl (.tmp rfl) (by (try have hnl := nil_of_int ‹¬ (0 < (t.names.length : Int))›); (try have hil := nil_of_int ‹¬ (0 < (t.items.length : Int))›); (try have hnl2 := ne_of_int ‹0 < (t.names.length : Int)›); (try have hil2 := ne_of_int ‹0 < (t.items.length : Int)›); rw [right_leaf (by first | (rw [hkt]; decide) | omega) (by first | (rw [hkt]; decide) | omega), leaf_er]; first | (simp [hkt, *]; done) | (simp_all; done) | (simp_all <;> omega)) hB ha_)
    ·
     replace g32 := dF g32
     refine Of rfl (Of rfl (Of rfl (Of rfl (Of rfl (Pu rfl (Pu rfl (Ni ?_)))))))
     refine hK29 ?_
     exact WC.ret fun a_ ha_ => hQ (cv_ret1 rfl (.tmp rfl) (by (try have hnl := nil_of_int ‹¬ (0 < (t.names.length : Int))›); (try have hil := nil_of_int ‹¬ (0 < (t.items.length : Int))›); (try have hnl2 := ne_of_int ‹0 < (t.names.length : Int)›); (try have hil2 := ne_of_int ‹0 < (t.items.length : Int)›); rw [right_leaf (by first | (rw [hkt]; decide) | omega) (by first | (rw [hkt]; decide) | omega), leaf_er]; first | (simp [hkt, *]; done) | (simp_all; done) | (simp_all <;> omega)) hB ha_)
   ·
    have hnum0 : t.num = 0 := hA1 (by omega)
    have hnm0 : t.names = [] := hD1 (by omega)
    have hit0 : t.items = [] := hD2 (by omega) (by omega)
    refine Rg (Pu rfl (Va (dx_nilP rfl rfl hu) rfl rfl ?_))
    refine Ge (dx_fldP 1 rfl ty_fld_27_0_0 rfl hu (cs' := [.int .i64 t.kind]) rfl (Nat.succ_pos _)) rfl rfl ?_
    rintro u35 _ ⟨rfl, p36⟩
    refine Va ((hkt ▸ dx_loadP rfl ty_one_3 rfl p36)) rfl rfl (Ni (hK5 (WC.block (Sq fun K37 hK37 => (Sq fun K38 hK38 => (Rg (Va (dx_eql rfl rfl rfl) rfl rfl ?_)))))))
    refine Pu rfl (Ni (hK38 (WC.condF rfl (Sq fun K39 hK39 => (Rg (Va (dx_eql rfl rfl rfl) rfl rfl (Pu rfl ?_)))))))
    refine Ni (hK39 (WC.condF rfl (Rg (Va (dx_eql rfl rfl rfl) rfl rfl (Pu rfl (Ni (hK37 ?_)))))))
    refine WC.condF rfl (Sq fun K40 hK40 => (Rg (Va (dx_eql rfl rfl rfl) rfl rfl (Pu rfl (Ni (hK40 (WC.condF rfl ?_)))))))
    refine Sq fun K41 hK41 => (Rg (Va (dx_eql rfl rfl rfl) rfl rfl (Pu rfl (Ni (hK41 (WC.condT rfl (Sq fun K42 hK42 => ?_)))))))
    refine Rg (Pu rfl (Va (dx_nilP rfl rfl hu) rfl rfl ?_))
    refine Ge (dx_fldP 1 rfl ty_fld_27_2_2 rfl hu (cs' := [.string t.text]) rfl (Nat.succ_pos _)) rfl rfl ?_
    rintro u43 _ ⟨rfl, p44⟩
    refine Va (dx_loadP rfl ty_one_9 rfl p44) rfl rfl ?_
    refine Ge (dx_sb (L := L) rfl Tryz.underlying9 Tryz.underlying34 Tryz.underlying5 rfl hL (by unfold maxLen; omega)) rfl rfl ?_
    rintro u45 W46 ⟨k47, b48⟩
    replace hB := below_then hB b48
    refine Ge (dx_cv rfl Tryz.func11 rfl rfl rfl ((show CV _ _ [_] _ (fun v _ => v = .bool (upB t.text)) from cv_oldB (right_any u45 (sb t.text) W46 (rdI_of k47) (sb_bytes _) (by rw [sb_length]; omega))))) rfl rfl ?_
    rintro _ W50 ⟨rfl, b49⟩
    replace hB := below_then hB b49
    refine Pu rfl (Ni (hK42 ?_))
    exact WC.ret fun a_ ha_ => hQ (cv_ret1 rfl (.tmp rfl) (by (try have hnl := nil_of_int ‹¬ (0 < (t.names.length : Int))›); (try have hil := nil_of_int ‹¬ (0 < (t.items.length : Int))›); (try have hnl2 := ne_of_int ‹0 < (t.names.length : Int)›); (try have hil2 := ne_of_int ‹0 < (t.items.length : Int)›); rw [right_leaf (by first | (rw [hkt]; decide) | omega) (by first | (rw [hkt]; decide) | omega), leaf_er]; first | (simp [hkt, *]; done) | (simp_all; done) | (simp_all <;> omega)) hB ha_)
   ·
    have hnum0 : t.num = 0 := hA1 (by omega)
    have htx0 : t.text = ⟨#[]⟩ := hA2 (by omega)
    have hnm0 : t.names = [] := hD1 (by omega)
    refine Rg (Pu rfl (Va (dx_nilP rfl rfl hu) rfl rfl ?_))
    refine Ge (dx_fldP 1 rfl ty_fld_27_0_0 rfl hu (cs' := [.int .i64 t.kind]) rfl (Nat.succ_pos _)) rfl rfl ?_
    rintro u51 _ ⟨rfl, p52⟩
    refine Va ((hkt ▸ dx_loadP rfl ty_one_3 rfl p52)) rfl rfl (Ni (hK5 (WC.block (Sq fun K53 hK53 => (Sq fun K54 hK54 => (Rg (Va (dx_eql rfl rfl rfl) rfl rfl ?_)))))))
    refine Pu rfl (Ni (hK54 (WC.condF rfl (Sq fun K55 hK55 => (Rg (Va (dx_eql rfl rfl rfl) rfl rfl (Pu rfl ?_)))))))
    refine Ni (hK55 (WC.condF rfl (Rg (Va (dx_eql rfl rfl rfl) rfl rfl (Pu rfl (Ni (hK53 ?_)))))))
    refine WC.condF rfl (Sq fun K56 hK56 => (Rg (Va (dx_eql rfl rfl rfl) rfl rfl (Pu rfl (Ni (hK56 (WC.condF rfl ?_)))))))
    refine Sq fun K57 hK57 => (Rg (Va (dx_eql rfl rfl rfl) rfl rfl (Pu rfl (Ni (hK57 (WC.condF rfl (Sq fun K58 hK58 => ?_)))))))
    refine Rg (Va (dx_eql rfl rfl rfl) rfl rfl (Pu rfl (Ni (hK58 (WC.condT rfl (Sq fun K59 hK59 => ?_))))))
    cases room with
    | zero =>
     refine Rg (Pu rfl (Va (dv_N (dx_gtr rfl rfl rfl) (by omega)) rfl rfl (Pu rfl (Of rfl (Of rfl (Of rfl (Pu rfl ?_)))))))
     refine Pu rfl (Ni (hK59 ?_))
     exact WC.ret fun a_ ha_ => hQ (cv_ret1 rfl (.tmp rfl) (by (try have hnl := nil_of_int ‹¬ (0 < (t.names.length : Int))›); (try have hil := nil_of_int ‹¬ (0 < (t.items.length : Int))›); (try have hnl2 := ne_of_int ‹0 < (t.names.length : Int)›); (try have hil2 := ne_of_int ‹0 < (t.items.length : Int)›); rw [right_node (by first | exact .inl hkt | exact .inr hkt)] <;> first | (simp [node_er, hkt, *]; done) | (simp_all [node_er]; done)) hB ha_)
    | succ m =>
     refine Rg (Pu rfl (Va (dv_T (dx_gtr rfl rfl rfl) (by omega)) rfl rfl (Pu rfl (Pu rfl (Pu rfl ?_)))))
     refine Ge (dx_cv rfl Tryz.func57 rfl rfl rfl (rightItems_v n ih t m _ w _ hL ⟨hnt, hit, hct⟩ hu ⟨hz1, hz2, hz3, hz4, hz5⟩ (by omega))) rfl rfl ?_
     rintro _ W61 ⟨rfl, b60⟩
     replace hB := below_then hB b60
     refine Pu rfl (Pu rfl (Ni (hK59 ?_)))
     exact WC.ret fun a_ ha_ => hQ (cv_ret1 rfl (.tmp rfl) (by (try have hnl := nil_of_int ‹¬ (0 < (t.names.length : Int))›); (try have hil := nil_of_int ‹¬ (0 < (t.items.length : Int))›); (try have hnl2 := ne_of_int ‹0 < (t.names.length : Int)›); (try have hil2 := ne_of_int ‹0 < (t.items.length : Int)›); rw [right_node (by first | exact .inl hkt | exact .inr hkt)] <;> first | (simp [node_er, hkt, *]; done) | (simp_all [node_er]; done)) hB ha_)
   ·
    have hnum0 : t.num = 0 := hA1 (by omega)
    have htx0 : t.text = ⟨#[]⟩ := hA2 (by omega)
    refine Rg (Pu rfl (Va (dx_nilP rfl rfl hu) rfl rfl ?_))
    refine Ge (dx_fldP 1 rfl ty_fld_27_0_0 rfl hu (cs' := [.int .i64 t.kind]) rfl (Nat.succ_pos _)) rfl rfl ?_
    rintro u62 _ ⟨rfl, p63⟩
    refine Va ((hkt ▸ dx_loadP rfl ty_one_3 rfl p63)) rfl rfl (Ni (hK5 (WC.block (Sq fun K64 hK64 => (Sq fun K65 hK65 => (Rg (Va (dx_eql rfl rfl rfl) rfl rfl ?_)))))))
    refine Pu rfl (Ni (hK65 (WC.condF rfl (Sq fun K66 hK66 => (Rg (Va (dx_eql rfl rfl rfl) rfl rfl (Pu rfl ?_)))))))
    refine Ni (hK66 (WC.condF rfl (Rg (Va (dx_eql rfl rfl rfl) rfl rfl (Pu rfl (Ni (hK64 ?_)))))))
    refine WC.condF rfl (Sq fun K67 hK67 => (Rg (Va (dx_eql rfl rfl rfl) rfl rfl (Pu rfl (Ni (hK67 (WC.condF rfl ?_)))))))
    refine Sq fun K68 hK68 => (Rg (Va (dx_eql rfl rfl rfl) rfl rfl (Pu rfl (Ni (hK68 (WC.condF rfl (Sq fun K69 hK69 => ?_)))))))
    refine Rg (Va (dx_eql rfl rfl rfl) rfl rfl (Pu rfl (Ni (hK69 (WC.condF rfl (Sq fun K70 hK70 => (Rg ?_)))))))
    refine Va (dx_eql rfl rfl rfl) rfl rfl (Pu rfl (Ni (hK70 (WC.condT rfl (Sq fun K71 hK71 => ?_)))))
    cases room with
    | zero =>
     refine Rg (Pu rfl (Va (dv_N (dx_gtr rfl rfl rfl) (by omega)) rfl rfl (Pu rfl (Of rfl (Of rfl (Pu rfl (Pu rfl ?_)))))))
     refine Of rfl (Of rfl (Of rfl (Pu rfl (Pu rfl (Ni (hK71 ?_))))))
     exact WC.ret fun a_ ha_ => hQ (cv_ret1 rfl (.tmp rfl) (by (try have hnl := nil_of_int ‹¬ (0 < (t.names.length : Int))›); (try have hil := nil_of_int ‹¬ (0 < (t.items.length : Int))›); (try have hnl2 := ne_of_int ‹0 < (t.names.length : Int)›); (try have hil2 := ne_of_int ‹0 < (t.items.length : Int)›); rw [right_node (by first | exact .inl hkt | exact .inr hkt)] <;> first | (simp [node_er, hkt, *]; done) | (simp_all [node_er]; done)) hB ha_)
    | succ m =>
     refine Rg (Pu rfl (Va (dv_T (dx_gtr rfl rfl rfl) (by omega)) rfl rfl (Pu rfl (Pu rfl ?_))))
     refine Ge (dx_cv rfl Tryz.func58 rfl rfl rfl (rightNames_v n t _ w _ hL ⟨hnt, hit, hct⟩ hu ⟨hz1, hz2, hz3, hz4, hz5⟩)) rfl rfl ?_
     rintro _ W73 ⟨rfl, b72⟩
     replace hu := hu.below b72
     replace hnt := hnt.below b72
     replace hit := hit.below b72
     replace hct := hct.below b72
     replace hB := below_then hB b72
     replace hL := LL.below hL b72
     refine Pu rfl (Pu rfl ?_)
     refine WL.split 113 rfl (fun g74 => ?_) (fun g74 => ?_)
     ·
      refine Pu rfl (Pu rfl ?_)
      refine Ge (dx_cv rfl Tryz.func57 rfl rfl rfl (rightItems_v n ih t m _ W73 _ hL ⟨hnt, hit, hct⟩ hu ⟨hz1, hz2, hz3, hz4, hz5⟩ (by omega))) rfl rfl ?_
      rintro _ W76 ⟨rfl, b75⟩
      replace hB := below_then hB b75
      refine Pu rfl (Pu rfl (Ni (hK71 ?_)))
      exact WC.ret fun a_ ha_ => hQ (cv_ret1 rfl (.tmp rfl) (by (try have hnl := nil_of_int ‹¬ (0 < (t.names.length : Int))›); (try have hil := nil_of_int ‹¬ (0 < (t.items.length : Int))›); (try have hnl2 := ne_of_int ‹0 < (t.names.length : Int)›); (try have hil2 := ne_of_int ‹0 < (t.items.length : Int)›); rw [right_node (by first | exact .inl hkt | exact .inr hkt)] <;> first | (simp [node_er, hkt, *]; done) | (simp_all [node_er]; done)) hB ha_)
     ·
      refine Of rfl (Of rfl (Of rfl (Pu rfl (Pu rfl (Ni (hK71 ?_))))))
      exact WC.ret fun a_ ha_ => hQ (cv_ret1 rfl (.tmp rfl) (by (try have hnl := nil_of_int ‹¬ (0 < (t.names.length : Int))›); (try have hil := nil_of_int ‹¬ (0 < (t.items.length : Int))›); (try have hnl2 := ne_of_int ‹0 < (t.names.length : Int)›); (try have hil2 := ne_of_int ‹0 < (t.items.length : Int)›); rw [right_node (by first | exact .inl hkt | exact .inr hkt)] <;> first | (simp [node_er, hkt, *]; done) | (simp_all [node_er]; done)) hB ha_)
   ·
    have hnum0 : t.num = 0 := hA1 (by omega)
    have htx0 : t.text = ⟨#[]⟩ := hA2 (by omega)
    have hnm0 : t.names = [] := hD1 (by omega)
    have hit0 : t.items = [] := hD2 (by omega) (by omega)
    refine Rg (Pu rfl (Va (dx_nilP rfl rfl hu) rfl rfl ?_))
    refine Ge (dx_fldP 1 rfl ty_fld_27_0_0 rfl hu (cs' := [.int .i64 t.kind]) rfl (Nat.succ_pos _)) rfl rfl ?_
    rintro u77 _ ⟨rfl, p78⟩
    refine Va (dx_loadP rfl ty_one_3 rfl p78) rfl rfl (Ni (hK5 (WC.block (Sq fun K79 hK79 => (Sq fun K80 hK80 => (Rg (Va (dv_N (dx_eql rfl rfl rfl) (by omega)) rfl rfl ?_)))))))
    refine Pu rfl (Ni (hK80 (WC.condF rfl (Sq fun K81 hK81 => (Rg (Va (dv_N (dx_eql rfl rfl rfl) (by omega)) rfl rfl (Pu rfl ?_)))))))
    refine Ni (hK81 (WC.condF rfl (Rg (Va (dv_N (dx_eql rfl rfl rfl) (by omega)) rfl rfl (Pu rfl (Ni (hK79 ?_)))))))
    refine WC.condF rfl (Sq fun K82 hK82 => (Rg (Va (dv_N (dx_eql rfl rfl rfl) (by omega)) rfl rfl (Pu rfl (Ni (hK82 (WC.condF rfl ?_)))))))
    refine Sq fun K83 hK83 => (Rg (Va (dv_N (dx_eql rfl rfl rfl) (by omega)) rfl rfl (Pu rfl (Ni (hK83 (WC.condF rfl (Sq fun K84 hK84 => ?_)))))))
    refine Rg (Va (dv_N (dx_eql rfl rfl rfl) (by omega)) rfl rfl (Pu rfl (Ni (hK84 (WC.condF rfl (Sq fun K85 hK85 => (Rg ?_)))))))
    refine Va (dv_N (dx_eql rfl rfl rfl) (by omega)) rfl rfl (Pu rfl (Ni (hK85 (WC.condF rfl (WC.skip (hK4 (Sq fun K86 hK86 => ?_)))))))
    refine Rg (Pu rfl (Ni (hK86 ?_)))
    exact WC.ret fun a_ ha_ => hQ (cv_ret1 rfl (.tmp rfl) (by (try have hnl := nil_of_int ‹¬ (0 < (t.names.length : Int))›); (try have hil := nil_of_int ‹¬ (0 < (t.items.length : Int))›); (try have hnl2 := ne_of_int ‹0 < (t.names.length : Int)›); (try have hil2 := ne_of_int ‹0 < (t.items.length : Int)›); rw [right_leaf (by first | (rw [hkt]; decide) | omega) (by first | (rw [hkt]; decide) | omega), leaf_er]; first | (simp [hkt, *]; done) | (simp_all; done) | (simp_all <;> omega)) hB ha_)
  refine Sq fun K87 hK87 => (Rg (Pu rfl (Va (dx_nilP rfl rfl hu) rfl rfl ?_)))
  refine Ge (dx_fldP 1 rfl ty_fld_27_0_0 rfl hu (cs' := [.int .i64 t.kind]) rfl (Nat.succ_pos _)) rfl rfl ?_
  rintro u88 _ ⟨rfl, p89⟩
  refine Va (dx_loadP rfl ty_one_3 rfl p89) rfl rfl (Va (dx_neq rfl rfl rfl) rfl rfl (Pu rfl ?_))
  refine WL.split 36 rfl (fun g90 => ?_) (fun g90 => ?_)
  ·
   replace g90 := bnot_t g90
   replace g90 := dF g90
   refine Pu rfl (Va (dx_nilP rfl rfl hu) rfl rfl ?_)
   refine Ge (dx_fldP 1 rfl ty_fld_27_3_3 rfl hu (cs' := [t.nv]) rfl (Nat.succ_pos _)) rfl rfl ?_
   rintro u91 _ ⟨rfl, p92⟩
   refine Va (dx_loadP rfl ty_one_24 rfl p92) rfl rfl (Va (dx_lenFM rfl ty_slice_24 rfl hnt) rfl rfl (Va (dx_gtr rfl rfl rfl) rfl rfl (Pu rfl (Pu rfl ?_))))
   refine WL.split 44 rfl (fun g93 => ?_) (fun g93 => ?_)
   ·
    replace g93 := dT g93
    refine Of rfl (Of rfl (Of rfl (Of rfl (Of rfl (Of rfl (Of rfl (Of rfl ?_)))))))
    refine Of rfl (Of rfl (Of rfl (Of rfl (Of rfl (Of rfl (Of rfl (Of rfl ?_)))))))
    refine Of rfl (Of rfl (Of rfl (Of rfl (Pu rfl (Ni (hK87 (WC.condT rfl ?_)))))))
    refine Sq fun K94 hK94 => (Rg (Pu rfl (Ni (hK94 ?_))))
    exact WC.ret fun a_ ha_ => hQ (cv_ret1 rfl (.tmp rfl) (by rw [right_no2 (by first | exact .inl ⟨by omega, ne_of_int (by omega)⟩ | exact .inr ⟨by omega, by omega, ne_of_int (by omega)⟩)]) hB ha_)
   ·
    replace g93 := dF g93
    refine Pu rfl (Va (dx_nilP rfl rfl hu) rfl rfl ?_)
    refine Ge (dx_fldP 1 rfl ty_fld_27_0_0 rfl hu (cs' := [.int .i64 t.kind]) rfl (Nat.succ_pos _)) rfl rfl ?_
    rintro u95 _ ⟨rfl, p96⟩
    refine Va (dx_loadP rfl ty_one_3 rfl p96) rfl rfl (Va (dx_neq rfl rfl rfl) rfl rfl (Pu rfl ?_))
    refine WL.split 50 rfl (fun g97 => ?_) (fun g97 => ?_)
    ·
     replace g97 := bnot_t g97
     replace g97 := dF g97
     refine Pu rfl (Va (dx_nilP rfl rfl hu) rfl rfl ?_)
     refine Ge (dx_fldP 1 rfl ty_fld_27_0_0 rfl hu (cs' := [.int .i64 t.kind]) rfl (Nat.succ_pos _)) rfl rfl ?_
     rintro u98 _ ⟨rfl, p99⟩
     refine Va (dx_loadP rfl ty_one_3 rfl p99) rfl rfl (Va (dx_neq rfl rfl rfl) rfl rfl (Pu rfl (Pu rfl ?_)))
     refine WL.split 57 rfl (fun g100 => ?_) (fun g100 => ?_)
     ·
      replace g100 := bnot_t g100
      replace g100 := dF g100
      refine Pu rfl (Va (dx_nilP rfl rfl hu) rfl rfl ?_)
      refine Ge (dx_fldP 1 rfl ty_fld_27_4_4 rfl hu (cs' := [t.iv]) rfl (Nat.succ_pos _)) rfl rfl ?_
      rintro u101 _ ⟨rfl, p102⟩
      refine Va (dx_loadP rfl ty_one_25 rfl p102) rfl rfl (Va (dx_lenFM rfl ty_slice_25 rfl hit) rfl rfl (Va (dx_gtr rfl rfl rfl) rfl rfl (Pu rfl (Pu rfl (Ni (hK87 ?_))))))
      refine WC.cond rfl (fun c103 => ?_) (fun c103 => ?_)
      ·
       replace c103 := dT c103
       refine Sq fun K104 hK104 => (Rg (Pu rfl (Ni (hK104 ?_))))
       exact WC.ret fun a_ ha_ => hQ (cv_ret1 rfl (.tmp rfl) (by rw [right_no2 (by first | exact .inl ⟨by omega, ne_of_int (by omega)⟩ | exact .inr ⟨by omega, by omega, ne_of_int (by omega)⟩)]) hB ha_)
      ·
       replace c103 := dF c103
       refine WC.skip ?_
       exact hJ3 () _ ⟨fun h_ => List.eq_nil_of_length_eq_zero (by omega), fun h_ h2_ => List.eq_nil_of_length_eq_zero (by omega)⟩ (by repeat first | exact trivial | refine aR ?_)
     ·
      replace g100 := bnot_f g100
      replace g100 := dT g100
      refine Of rfl (Of rfl (Of rfl (Of rfl (Of rfl (Of rfl (Pu rfl (Pu rfl ?_)))))))
      refine Ni (hK87 (WC.condF rfl (WC.skip ?_)))
      exact hJ3 () _ ⟨fun h_ => List.eq_nil_of_length_eq_zero (by omega), fun h_ h2_ => List.eq_nil_of_length_eq_zero (by omega)⟩ (by repeat first | exact trivial | refine aR ?_)
    ·
     replace g97 := bnot_f g97
     replace g97 := dT g97
     refine Of rfl (Of rfl (Of rfl (Of rfl (Of rfl (Pu rfl (Pu rfl (Of rfl ?_)))))))
     refine Of rfl (Of rfl (Of rfl (Of rfl (Of rfl (Pu rfl (Pu rfl (Ni ?_)))))))
     refine hK87 (WC.condF rfl (WC.skip ?_))
     exact hJ3 () _ ⟨fun h_ => List.eq_nil_of_length_eq_zero (by omega), fun h_ h2_ => List.eq_nil_of_length_eq_zero (by omega)⟩ (by repeat first | exact trivial | refine aR ?_)
  ·
   replace g90 := bnot_f g90
   replace g90 := dT g90
   refine Of rfl (Of rfl (Of rfl (Of rfl (Of rfl (Of rfl (Pu rfl (Pu rfl ?_)))))))
   refine Pu rfl (Va (dx_nilP rfl rfl hu) rfl rfl ?_)
   refine Ge (dx_fldP 1 rfl ty_fld_27_0_0 rfl hu (cs' := [.int .i64 t.kind]) rfl (Nat.succ_pos _)) rfl rfl ?_
   rintro u105 _ ⟨rfl, p106⟩
   refine Va (dx_loadP rfl ty_one_3 rfl p106) rfl rfl (Va (dx_neq rfl rfl rfl) rfl rfl (Pu rfl ?_))
   refine WL.split 50 rfl (fun g107 => ?_) (fun g107 => ?_)
   ·
    replace g107 := bnot_t g107
    replace g107 := dF g107
    refine Pu rfl (Va (dx_nilP rfl rfl hu) rfl rfl ?_)
    refine Ge (dx_fldP 1 rfl ty_fld_27_0_0 rfl hu (cs' := [.int .i64 t.kind]) rfl (Nat.succ_pos _)) rfl rfl ?_
    rintro u108 _ ⟨rfl, p109⟩
    refine Va (dx_loadP rfl ty_one_3 rfl p109) rfl rfl (Va (dx_neq rfl rfl rfl) rfl rfl (Pu rfl (Pu rfl ?_)))
    refine WL.split 57 rfl (fun g110 => ?_) (fun g110 => ?_)
    ·
     replace g110 := bnot_t g110
     replace g110 := dF g110
     refine Pu rfl (Va (dx_nilP rfl rfl hu) rfl rfl ?_)
     refine Ge (dx_fldP 1 rfl ty_fld_27_4_4 rfl hu (cs' := [t.iv]) rfl (Nat.succ_pos _)) rfl rfl ?_
     rintro u111 _ ⟨rfl, p112⟩
     refine Va (dx_loadP rfl ty_one_25 rfl p112) rfl rfl (Va (dx_lenFM rfl ty_slice_25 rfl hit) rfl rfl (Va (dx_gtr rfl rfl rfl) rfl rfl (Pu rfl (Pu rfl (Ni (hK87 ?_))))))
     refine WC.cond rfl (fun c113 => ?_) (fun c113 => ?_)
     ·
      replace c113 := dT c113
      refine Sq fun K114 hK114 => (Rg (Pu rfl (Ni (hK114 ?_))))
      exact WC.ret fun a_ ha_ => hQ (cv_ret1 rfl (.tmp rfl) (by rw [right_no2 (by first | exact .inl ⟨by omega, ne_of_int (by omega)⟩ | exact .inr ⟨by omega, by omega, ne_of_int (by omega)⟩)]) hB ha_)
     ·
      replace c113 := dF c113
      refine WC.skip ?_
      exact hJ3 () _ ⟨fun h_ => List.eq_nil_of_length_eq_zero (by omega), fun h_ h2_ => List.eq_nil_of_length_eq_zero (by omega)⟩ (by repeat first | exact trivial | refine aR ?_)
    ·
     replace g110 := bnot_f g110
     replace g110 := dT g110
     refine Of rfl (Of rfl (Of rfl (Of rfl (Of rfl (Of rfl (Pu rfl (Pu rfl ?_)))))))
     refine Ni (hK87 (WC.condF rfl (WC.skip ?_)))
     exact hJ3 () _ ⟨fun h_ => List.eq_nil_of_length_eq_zero (by omega), fun h_ h2_ => List.eq_nil_of_length_eq_zero (by omega)⟩ (by repeat first | exact trivial | refine aR ?_)
   ·
    replace g107 := bnot_f g107
    replace g107 := dT g107
    refine Of rfl (Of rfl (Of rfl (Of rfl (Of rfl (Pu rfl (Pu rfl (Of rfl ?_)))))))
    refine Of rfl (Of rfl (Of rfl (Of rfl (Of rfl (Pu rfl (Pu rfl (Ni ?_)))))))
    refine hK87 (WC.condF rfl (WC.skip ?_))
    exact hJ3 () _ ⟨fun h_ => List.eq_nil_of_length_eq_zero (by omega), fun h_ h2_ => List.eq_nil_of_length_eq_zero (by omega)⟩ (by repeat first | exact trivial | refine aR ?_)
 refine Sq fun K115 hK115 => (Rg (Pu rfl (Va (dx_nilP rfl rfl hu) rfl rfl ?_)))
 refine Ge (dx_fldP 1 rfl ty_fld_27_0_0 rfl hu (cs' := [.int .i64 t.kind]) rfl (Nat.succ_pos _)) rfl rfl ?_
 rintro u116 _ ⟨rfl, p117⟩
 refine Va (dx_loadP rfl ty_one_3 rfl p117) rfl rfl (Va (dx_neq rfl rfl rfl) rfl rfl (Pu rfl ?_))
 refine WL.split 10 rfl (fun g118 => ?_) (fun g118 => ?_)
 ·
  replace g118 := bnot_t g118
  replace g118 := dF g118
  refine Pu rfl (Va (dx_nilP rfl rfl hu) rfl rfl ?_)
  refine Ge (dx_fldP 1 rfl ty_fld_27_1_1 rfl hu (cs' := [.int .i64 t.num]) rfl (Nat.succ_pos _)) rfl rfl ?_
  rintro u119 _ ⟨rfl, p120⟩
  refine Va (dx_loadP rfl ty_one_3 rfl p120) rfl rfl (Va (dx_neq rfl rfl rfl) rfl rfl (Pu rfl (Pu rfl ?_)))
  refine WL.split 17 rfl (fun g121 => ?_) (fun g121 => ?_)
  ·
   replace g121 := bnot_t g121
   replace g121 := dF g121
   refine Of rfl (Of rfl (Of rfl (Of rfl (Of rfl (Of rfl (Of rfl (Of rfl ?_)))))))
   refine Of rfl (Of rfl (Of rfl (Of rfl (Pu rfl (Ni (hK115 (WC.condT rfl ?_)))))))
   refine Sq fun K122 hK122 => (Rg (Pu rfl (Ni (hK122 ?_))))
   exact WC.ret fun a_ ha_ => hQ (cv_ret1 rfl (.tmp rfl) (by rw [right_no1 (by first | exact .inl ⟨by omega, by omega⟩ | exact .inr ⟨by omega, by first | assumption | (simp_all; done)⟩)]) hB ha_)
  ·
   replace g121 := bnot_f g121
   replace g121 := dT g121
   refine Pu rfl (Va (dx_nilP rfl rfl hu) rfl rfl ?_)
   refine Ge (dx_fldP 1 rfl ty_fld_27_0_0 rfl hu (cs' := [.int .i64 t.kind]) rfl (Nat.succ_pos _)) rfl rfl ?_
   rintro u123 _ ⟨rfl, p124⟩
   refine Va (dx_loadP rfl ty_one_3 rfl p124) rfl rfl (Va (dx_neq rfl rfl rfl) rfl rfl (Pu rfl ?_))
   refine WL.split 23 rfl (fun g125 => ?_) (fun g125 => ?_)
   ·
    replace g125 := bnot_t g125
    replace g125 := dF g125
    refine Pu rfl (Va (dx_nilP rfl rfl hu) rfl rfl ?_)
    refine Ge (dx_fldP 1 rfl ty_fld_27_2_2 rfl hu (cs' := [.string t.text]) rfl (Nat.succ_pos _)) rfl rfl ?_
    rintro u126 _ ⟨rfl, p127⟩
    refine Va (dx_loadP rfl ty_one_9 rfl p127) rfl rfl (Va (dx_neqT rfl rfl rfl) rfl rfl (Pu rfl (Pu rfl (Ni (hK115 ?_)))))
    refine WC.cond rfl (fun c128 => ?_) (fun c128 => ?_)
    ·
     replace c128 := bnot_t c128
     replace c128 := dF c128
     refine Sq fun K129 hK129 => (Rg (Pu rfl (Ni (hK129 ?_))))
     exact WC.ret fun a_ ha_ => hQ (cv_ret1 rfl (.tmp rfl) (by rw [right_no1 (by first | exact .inl ⟨by omega, by omega⟩ | exact .inr ⟨by omega, by first | assumption | (simp_all; done)⟩)]) hB ha_)
    ·
     replace c128 := bnot_f c128
     replace c128 := dT c128
     refine WC.skip ?_
     exact hJ1 () _ ⟨fun h_ => by omega, fun h_ => by first | assumption | (exfalso; omega) | (simp_all; done)⟩ (by repeat first | exact trivial | refine aR ?_)
   ·
    replace g125 := bnot_f g125
    replace g125 := dT g125
    refine Of rfl (Of rfl (Of rfl (Of rfl (Of rfl (Pu rfl (Pu rfl (Ni ?_)))))))
    refine hK115 (WC.condF rfl (WC.skip ?_))
    exact hJ1 () _ ⟨fun h_ => by omega, fun h_ => by first | assumption | (exfalso; omega) | (simp_all; done)⟩ (by repeat first | exact trivial | refine aR ?_)
 ·
  replace g118 := bnot_f g118
  replace g118 := dT g118
  refine Of rfl (Of rfl (Of rfl (Of rfl (Of rfl (Pu rfl (Pu rfl (Pu rfl ?_)))))))
  refine Va (dx_nilP rfl rfl hu) rfl rfl ?_
  refine Ge (dx_fldP 1 rfl ty_fld_27_0_0 rfl hu (cs' := [.int .i64 t.kind]) rfl (Nat.succ_pos _)) rfl rfl ?_
  rintro u130 _ ⟨rfl, p131⟩
  refine Va (dx_loadP rfl ty_one_3 rfl p131) rfl rfl (Va (dx_neq rfl rfl rfl) rfl rfl (Pu rfl ?_))
  refine WL.split 23 rfl (fun g132 => ?_) (fun g132 => ?_)
  ·
   replace g132 := bnot_t g132
   replace g132 := dF g132
   refine Pu rfl (Va (dx_nilP rfl rfl hu) rfl rfl ?_)
   refine Ge (dx_fldP 1 rfl ty_fld_27_2_2 rfl hu (cs' := [.string t.text]) rfl (Nat.succ_pos _)) rfl rfl ?_
   rintro u133 _ ⟨rfl, p134⟩
   refine Va (dx_loadP rfl ty_one_9 rfl p134) rfl rfl (Va (dx_neqT rfl rfl rfl) rfl rfl (Pu rfl (Pu rfl (Ni (hK115 ?_)))))
   refine WC.cond rfl (fun c135 => ?_) (fun c135 => ?_)
   ·
    replace c135 := bnot_t c135
    replace c135 := dF c135
    refine Sq fun K136 hK136 => (Rg (Pu rfl (Ni (hK136 ?_))))
    exact WC.ret fun a_ ha_ => hQ (cv_ret1 rfl (.tmp rfl) (by rw [right_no1 (by first | exact .inl ⟨by omega, by omega⟩ | exact .inr ⟨by omega, by first | assumption | (simp_all; done)⟩)]) hB ha_)
   ·
    replace c135 := bnot_f c135
    replace c135 := dT c135
    refine WC.skip ?_
    exact hJ1 () _ ⟨fun h_ => by omega, fun h_ => by first | assumption | (exfalso; omega) | (simp_all; done)⟩ (by repeat first | exact trivial | refine aR ?_)
  ·
   replace g132 := bnot_f g132
   replace g132 := dT g132
   refine Of rfl (Of rfl (Of rfl (Of rfl (Of rfl (Pu rfl (Pu rfl (Ni ?_)))))))
   refine hK115 (WC.condF rfl (WC.skip ?_))
   exact hJ1 () _ ⟨fun h_ => by omega, fun h_ => by first | assumption | (exfalso; omega) | (simp_all; done)⟩ (by repeat first | exact trivial | refine aR ?_)

theorem right_all : ∀ n, RightAt n
 | 0 => fun t _ _ _ _ _ h => h.elim
 | n + 1 => fun t room u w L hL ht hu hz hr => right_step n (right_all n) t room u w L hL ht hu hz hr
end Go.Proofs.YtghpdnfdbhjmpaaGreatDoor
namespace Go.Proofs.YtghpdnfdbhjmpaaGreatDoor
open Go.ChangeShapes Go.WideShapes Go.ChangeAt Go.RowKit
set_option linter.unusedVariables false
set_option maxRecDepth 8000
theorem own : ownKnob Tryz.prog.godebug = none := by kernel_rfl
theorem laidOut : laidOutB Tryz.prog = true := by kernel_rfl
section
variable {H : Type} {enc : TypeId × Value → H} {W : World} {base : Nat} {sp : Nat → Bool} {held : Bool}
end
end Go.Proofs.YtghpdnfdbhjmpaaGreatDoor
namespace Go.Proofs.YtghpdnfdbhjmpaaGreatDoor
open Go.RowKit
set_option linter.unusedVariables false
set_option linter.unusedSimpArgs false
set_option maxRecDepth 8000
set_option maxHeartbeats 2000000

theorem cinfo : (Tryz.prog.info? 45).map (fun i => i.size) = some 2 := by kernel_rfl
theorem clies : liesAt Tryz.prog Tryz.prog.depth 47 (3 / Tryz.prog.cellsOf 47) 0 45 1 = true := by kernel_rfl
theorem cbyte : (Tryz.prog.info? 5).map (fun i => (i.zero, i.size, i.bytes)) = some (some (.int .u8 0), 1, 1) := by kernel_rfl
theorem ccells : Tryz.prog.cellsOf 5 = 1 := by kernel_rfl
abbrev selfP (P : Nat) : Value := .pointer (some ⟨P, 0, none⟩)
def EmbAt (b P : Nat) (p : Value) (bs : List Value) (m : Int) (w : World) : Prop := b ≤ P ∧ ∃ v, w.heap[P]? = some (.cells #[p, v, .int .i64 m] 47 (0, 0)) ∧ w.ownsRow b 5 1 v bs.length bs ∧ v.ownBlock ≠ some P
section
variable {b P : Nat} {p v : Value} {bs : List Value} {m : Int} {w w' : World}
theorem emb_cell {cs : Array Value} {T : TypeId} (h : w.heap[P]? = some (.cells cs T (0, 0))) (k : Nat) : w.cell? ⟨P, k, none⟩ = cs[k]? := by simp [World.cell?, h]
theorem emb_free {cs : Array Value} {T : TypeId} (h : w.heap[P]? = some (.cells cs T (0, 0))) (k : Nat) : w.frozen? ⟨P, k, none⟩ = false := by simp [World.frozen?, h]
theorem emb_lt {cs : Array Value} {T : TypeId} (h : w.heap[P]? = some (.cells cs T (0, 0))) : P < w.heap.size := by
 rcases Nat.lt_or_ge P w.heap.size with h' | h'
 · exact h'
 · simp [Array.getElem?_eq_none h'] at h
theorem EmbAt.self (h : EmbAt b P p bs m w) (q : Value) : EmbAt b P q bs m (w.setCell ⟨P, 0, none⟩ q) := by
 obtain ⟨hB, v, hb, hown, hne⟩ := h
 refine ⟨hB, v, by simp [World.setCell, Array.getElem?_modify, hb], ?_, hne⟩
 exact hown.kept (row := some P) ⟨rfl, rfl, rfl, by simp [World.setCell], fun k _ hk => Below.heap_setCell _ _ _ _ (fun e => hk (by simp [e]))⟩ (.inr hne)
theorem emb_own_ne {n : Nat} {xs : List Value} {cs : Array Value} (hown : w.ownsRow b 5 1 v n xs) (hb : w.heap[P]? = some (.cells cs 47 (0, 0))) : v.ownBlock ≠ some P := by
  rcases hown.2 with ⟨rfl, _⟩ | ⟨g, cap, cur, rfl, _, hg, _⟩
  · simp [Value.ownBlock]
  · intro h
    simp only [Value.ownBlock, Option.some.injEq] at h
    subst h
    rw [hg] at hb
    simp at hb
theorem emb_put {v' : Value} {bs' : List Value} (hB : b ≤ P) (hb : w.heap[P]? = some (.cells #[p, v, .int .i64 m] 47 (0, 0))) (hown : w.ownsRow b 5 1 v' bs'.length bs') : EmbAt b P p bs' m (w.setCell ⟨P, 1, none⟩ v') := by
 have hne := emb_own_ne hown hb
 refine ⟨hB, v', by simp [World.setCell, Array.getElem?_modify, hb], ?_, hne⟩
 exact hown.kept (row := some P) ⟨rfl, rfl, rfl, by simp [World.setCell], fun k _ hk => Below.heap_setCell _ _ _ _ (fun e => hk (by simp [e]))⟩ (.inr hne)
end
set_option maxHeartbeats 1000000 in
theorem copy_used (P : Nat) (w : World) (h0 : w.cell? ⟨P, 0, none⟩ = some (selfP P)) : Calls Tryz.prog 59 #[selfP P] w fun e w' => e = .returned (.tuple #[]) ∧ w' = w := by
 obtain ⟨j, hj, _⟩ := Option.map_eq_some_iff.1 cinfo
 go_enter Tryz.func59, Tryz.ntmps59
 go_wp2
 rw [Lib.run_neq_ptr_same w _ Tryz.underlying43 hj]
 go_wp2
 go_end0
 exact ⟨rfl, rfl⟩
set_option maxHeartbeats 1000000 in
theorem copy_fresh (P : Nat) (w : World) (h0 : w.cell? ⟨P, 0, none⟩ = some (.pointer none)) (hsh : w.shape? P = some (47, 3)) (hfz : w.frozen? ⟨P, 0, none⟩ = false) : Calls Tryz.prog 59 #[selfP P] w fun e w' => e = .returned (.tuple #[]) ∧ w' = w.setCell ⟨P, 0, none⟩ (selfP P) := by
 obtain ⟨j, hj, hjs⟩ := Option.map_eq_some_iff.1 cinfo
 go_enter Tryz.func59, Tryz.ntmps59
 go_wp2
 rw [Lib.run_to_unsafe w ⟨P, 0, none⟩ Tryz.underlying43 Tryz.underlying110 hj (by rw [hjs]; decide) hsh (Nat.zero_lt_succ 2)]
 simp only [Result.andThen]
 rw [Oper.upon_value]
 go_wp2
 rw [run_callFunc_extern Tryz.func74 (by kernel_rfl) (by kernel_rfl) (by kernel_rfl) (e := Extern.AbiNoEscape.same) (by kernel_rfl)]
 rw [Lib.run_noEscape]
 simp only [Result.andThen]
 rw [Oper.upon_value]
 go_wp2
 rw [Lib.run_from_unsafe w ⟨P, 0, none⟩ Tryz.underlying110 Tryz.underlying43 hj hsh clies]
 simp only [Result.andThen]
 rw [Oper.upon_value]
 go_wp2
 go_end0
 exact ⟨rfl, rfl⟩
def PrS (b P : Nat) (l : List Int) (m : Int) (w : World) : Prop := Bytes l ∧ ((EmbAt b P (.pointer none) (l.map fun n => Value.int .u8 n) m w) ∨ EmbAt b P (selfP P) (l.map fun n => Value.int .u8 n) m w)
theorem copy_v {b P : Nat} {bs : List Value} {m : Int} {w : World} (h : EmbAt b P (.pointer none) bs m w ∨ EmbAt b P (selfP P) bs m w) : Calls Tryz.prog 59 #[selfP P] w fun e w' => e = .returned (.tuple #[]) ∧ EmbAt b P (selfP P) bs m w' ∧ Go.RowKit.Below b w w' := by
  rcases h with h | h
  · have h' := h
    obtain ⟨hB, v, hb, hown, hne⟩ := h
    refine (copy_fresh P w (by rw [emb_cell hb]; rfl) (by simp [World.shape?, hb]) (emb_free hb 0)).mono ?_
    rintro e w' ⟨rfl, rfl⟩
    exact ⟨rfl, h'.self _, (Below.refl b w).setCell (p := ⟨P, 0, none⟩) hB _⟩
  · have h' := h
    obtain ⟨hB, v, hb, hown, hne⟩ := h
    refine (copy_used P w (by rw [emb_cell hb]; rfl)).mono ?_
    rintro e w' ⟨rfl, rfl⟩
    exact ⟨rfl, h', Below.refl b _⟩
set_option maxHeartbeats 2000000 in
theorem wbyte_e {b P : Nat} {bs : List Value} {m : Int} (c : Int) {w : World} (h : EmbAt b P (.pointer none) bs m w ∨ EmbAt b P (selfP P) bs m w) (hlen : bs.length + 1 ≤ 140737488355328) (hbw : b ≤ w.heap.size) : Calls Tryz.prog 61 #[selfP P, .int .u8 c] w fun e w' => e = .returned .nilIface ∧ EmbAt b P (selfP P) (bs ++ [.int .u8 c]) m w' ∧ Go.RowKit.Below b w w' := by
 obtain ⟨i0, hi, hz0, hz1, hz2⟩ := info_parts cbyte
 go_enter Tryz.func61, Tryz.ntmps61
 go_wp2_with (go_at_call 59; refine (copy_v h).mono ?_)
 rintro e w1 ⟨rfl, ⟨hB, v, hbk, hown, hne⟩, hb1⟩
 have c0 : w1.cell? ⟨P, 0, none⟩ = some (selfP P) := by rw [emb_cell hbk]; rfl
 have c1 : w1.cell? ⟨P, 1, none⟩ = some v := by rw [emb_cell hbk]; rfl
 go_wp2_with (at_builtin; refine wpList_append_own _ rfl _ _ 34 rfl b 5 i0 (.int .u8 0) 1 1 Tryz.underlying34 hi hz0 hz1 hz2 rfl (by decide) _ _ _ rfl (hown.alloc _) ⟨w1.heap.size, 0, none⟩ 1 1 [.int .u8 c] rfl rfl ?c1 ?c2 ?c3 ?c4 ?c5 ?_)
 case c1 =>
  intro j u hj
  match j, hj with
  | 0, hj => simp at hj; subst hj; simp [Addr.add]
 case c2 => intro u hu; simp at hu; subst hu; rfl
 case c3 => unfold maxLen; omega
 case c4 => omega
 case c5 => have := hb1.size; simp; omega
 intro v' w2 hown' hgrow _
 have hlt := emb_lt hbk
 have hb2 : w2.heap[P]? = some (.cells #[selfP P, v, .int .i64 m] 47 (0, 0)) := by
  rw [hgrow.block P (by simp; omega) (fun e => hne e.symm), Lib.alloc_old w1 _ P hlt]
  exact hbk
 have d0 : w2.cell? ⟨P, 0, none⟩ = some (selfP P) := by rw [emb_cell hb2]; rfl
 have d1 : w2.cell? ⟨P, 1, none⟩ = some v := by rw [emb_cell hb2]; rfl
 have f1 : w2.frozen? ⟨P, 1, none⟩ = false := emb_free hb2 1
 obtain ⟨g, cap, rfl⟩ : ∃ g cap, v' = .slice (some ⟨g, 0, none⟩) (bs.length + 1) cap := by
  rcases hown'.2 with ⟨_, h0⟩ | ⟨g, cap, cur, hv, _⟩
  · omega
  · exact ⟨g, cap, hv⟩
 go_wp2
 go_ret
 refine ⟨rfl, ?_, ?_⟩
 · exact emb_put hB hb2 (bs' := bs ++ [.int .u8 c]) (by simpa using hown')
 · exact ((hb1.alloc (by have := hb1.size; omega) _).grown hgrow (by have := hb1.size; simp; omega) (fun k hk => (hown.lt k hk).1)).setCell (p := ⟨P, 1, none⟩) hB _
set_option maxHeartbeats 2000000 in
theorem wstr_e {b P : Nat} {bs : List Value} {m : Int} (s : ByteArray) {w : World} (h : EmbAt b P (.pointer none) bs m w ∨ EmbAt b P (selfP P) bs m w) (hlen : bs.length + s.size ≤ 140737488355328) (hbw : b ≤ w.heap.size) : Calls Tryz.prog 34 #[selfP P, .string s] w fun e w' => e = .returned (.tuple #[.int .i64 s.size, .nilIface]) ∧ EmbAt b P (selfP P) (bs ++ Lib.strCells s) m w' ∧ Go.RowKit.Below b w w' := by
 obtain ⟨i0, hi, hz0, hz1, hz2⟩ := info_parts cbyte
 go_enter Tryz.func34, Tryz.ntmps34
 go_wp2_with (go_at_call 59; refine (copy_v h).mono ?_)
 rintro e w1 ⟨rfl, ⟨hB, v, hbk, hown, hne⟩, hb1⟩
 have c0 : w1.cell? ⟨P, 0, none⟩ = some (selfP P) := by rw [emb_cell hbk]; rfl
 have c1 : w1.cell? ⟨P, 1, none⟩ = some v := by rw [emb_cell hbk]; rfl
 go_wp2_with (at_builtin; refine Lib.wpList_append_own_string _ rfl _ _ 34 9 rfl b 5 i0 Tryz.underlying34 Tryz.underlying9 hi hz0 hz1 hz2 _ _ _ rfl hown s rfl ?c3 ?c4 ?c5 ?_)
 case c3 => unfold maxLen; omega
 case c4 => omega
 case c5 => have := hb1.size; omega
 intro v' w2 hown' hgrow _
 have hlt := emb_lt hbk
 have hb2 : w2.heap[P]? = some (.cells #[selfP P, v, .int .i64 m] 47 (0, 0)) := by
  rw [hgrow.block P hlt (fun e => hne e.symm)]
  exact hbk
 have d0 : w2.cell? ⟨P, 0, none⟩ = some (selfP P) := by rw [emb_cell hb2]; rfl
 have d1 : w2.cell? ⟨P, 1, none⟩ = some v := by rw [emb_cell hb2]; rfl
 have f1 : w2.frozen? ⟨P, 1, none⟩ = false := emb_free hb2 1
 obtain ⟨ao, n', cap, rfl⟩ : ∃ ao n' cap, v' = .slice ao n' cap := by
  rcases hown'.2 with ⟨hv, _⟩ | ⟨g, cap, cur, hv, _⟩
  · exact ⟨_, _, _, hv⟩
  · exact ⟨_, _, _, hv⟩
 go_wp2
 go_ret2
 refine ⟨rfl, ?_, ?_⟩
 · exact emb_put hB hb2 (bs' := bs ++ Lib.strCells s) (by simpa [Lib.strCells_length] using hown')
 · exact (hb1.grown hgrow (by have := hb1.size; omega) (fun k hk => (hown.lt k hk).1)).setCell (p := ⟨P, 1, none⟩) hB _
set_option maxHeartbeats 1000000 in
theorem blen_e {b P : Nat} {p : Value} {bs : List Value} {m : Int} {w : World} (h : EmbAt b P p bs m w) : Calls Tryz.prog 38 #[selfP P] w fun e w' => e = .returned (.int .i64 bs.length) ∧ w' = w := by
 obtain ⟨hB, v, hbk, hown, hne⟩ := h
 obtain ⟨ao, cap, rfl⟩ : ∃ ao cap, v = .slice ao bs.length cap := by
  rcases hown.2 with ⟨hv, h0⟩ | ⟨g, cap, cur, hv, _⟩
  · exact ⟨none, 0, by rw [hv, h0]⟩
  · exact ⟨_, _, hv⟩
 have c1 : w.cell? ⟨P, 1, none⟩ = some (.slice ao bs.length cap) := by rw [emb_cell hbk]; rfl
 go_enter Tryz.func38, Tryz.ntmps38
 go_wp2
 go_ret
 exact ⟨rfl, rfl⟩
set_option maxHeartbeats 1000000 in
theorem bstr_e {b P : Nat} {p : Value} {m : Int} (l : List UInt8) {w : World} (h : EmbAt b P p (Lib.byteCells l) m w) (h0 : l ≠ []) : Calls Tryz.prog 18 #[selfP P] w fun e w' => e = .returned (.string ⟨l.toArray⟩) ∧ Go.RowKit.Below b w w' := by
 obtain ⟨hB, v, hbk, hown, hne⟩ := h
 have hl0 : l.length ≠ 0 := by simpa using h0
 rw [Lib.byteCells_length] at hown
 obtain ⟨g, cap, cur, rfl, hbg, hg, hnc, hcm, hcs, htake⟩ : ∃ g cap cur, v = .slice (some ⟨g, 0, none⟩) l.length cap ∧ b ≤ g ∧ w.heap[g]? = some (.cells cur 5 (0, 0)) ∧ l.length ≤ cap ∧ cap ≤ maxLen ∧ cur.size = cap * 1 ∧ cur.toList.take (l.length * 1) = Lib.byteCells l := by
  rcases hown.2 with ⟨_, hz⟩ | ⟨g, cap, cur, hv, r⟩
  · exact absurd hz hl0
  · exact ⟨g, cap, cur, hv, r⟩
 have c1 : w.drew.cell? ⟨P, 1, none⟩ = some (.slice (some ⟨g, 0, none⟩) l.length cap) := by
  have : w.drew.heap[P]? = some (.cells #[p, .slice (some ⟨g, 0, none⟩) l.length cap, .int .i64 m] 47 (0, 0)) := hbk
  rw [emb_cell this]; rfl
 have hSD : (Builtin.unsafeSliceData_ #[34] 72 #[.slice (some ⟨g, 0, none⟩) l.length cap]).run Tryz.prog w.drew = .ok (.pointer (some ⟨g, 0, none⟩)) w.drew := Lib.run_unsafeSliceData_row _ _ _ _ _ _ (by omega)
 have hUS : (Builtin.unsafeString_ #[72, 3] 9 #[.pointer (some ⟨g, 0, none⟩), .int .i64 l.length]).run Tryz.prog w.drew = .ok (.string ⟨l.toArray⟩) (w.drew.freeze ⟨g, 0, none⟩ l.length) := by
  refine Lib.run_unsafeString_row w.drew 72 3 9 5 Tryz.underlying72 ccells g cur.size (by have hg' : w.drew.heap[g]? = some (.cells cur 5 (0, 0)) := hg; simp [World.shape?, hg']) l h0 (by omega) (by unfold maxLen at hcm; omega) ?_
  intro j x hx
  exact hown.cells (g := g) rfl j (.int .u8 x.toNat) (by simp [Lib.byteCells, hx])
 have mixed : Tryz.prog.follows Departure.mixedOrders = true := by kernel_rfl
 go_enter Tryz.func18, Tryz.ntmps18
 go_wp2
 go_region_o
 all_goals (go_wp2; go_ret; exact ⟨rfl, Lib.below_freeze (Below.drew (Below.refl b w)) (p := ⟨g, 0, none⟩) hbg _⟩)
theorem Chg.both {B : Nat} {w W W' : World} (h : Chg B w W) (k : Chg B W W') : Chg B w W' :=
 ⟨by rw [k.os, h.os], by rw [k.tape, h.tape], by rw [k.output, h.output], Nat.le_trans h.size k.size, fun j hj hn => by rw [k.block j (Nat.lt_of_lt_of_le hj h.size) hn, h.block j hj hn]⟩
theorem Agree.of_chg {L : List Nat} {B : Nat} {w w' : World} (h : Chg B w w') (hB : B ∈ L) : Agree L w w' := ⟨h.size, fun k hk hlt => h.block k hlt (fun e => hk (e ▸ hB))⟩
theorem RdF.chgL {s : Nat} {L : List Nat} {w w' : World} {v : Value} {rs : List (List Value)} (h : RdF s L w v rs) {B : Nat} (g : Chg B w w') (hB : B ∈ L) : RdF s L w' v rs := h.agree (.of_chg g hB)
theorem RdT.chgL {n : Nat} {L : List Nat} {w w' : World} {t : Tr} (h : RdT n L w t) {B : Nat} (g : Chg B w w') (hB : B ∈ L) : RdT n L w' t := h.agree (.of_chg g hB)
theorem RdTs.chgL {n : Nat} {L : List Nat} {w w' : World} {ts : List Tr} (h : RdTs n L w ts) {B : Nat} (g : Chg B w w') (hB : B ∈ L) : RdTs n L w' ts := fun c hc => (h c hc).chgL g hB
theorem LL.chg {L : List Nat} {w w' : World} (h : LL L w) {B : Nat} (g : Chg B w w') : LL L w' := fun x hx => Nat.lt_of_lt_of_le (h x hx) g.size
theorem OwS.chgL {s : Nat} {w w' : World} {v : Value} {rs : List (List Value)} {C B : Nat} (h : OwS s w v rs C) (g : Chg B w w') (hn : C ≠ B) : OwS s w' v rs C := by
 obtain ⟨h0, hl, cap, sp, h1, h2, h3, h4, h5⟩ := h
 exact ⟨h0, hl, cap, sp, h1, h2, h3, h4, h5.chg g hn⟩
section
variable {P : Program} {ops : Array Oper} {o : Oper} {N : Nat} {f : Fl} {w : World} {R : Value → World → Prop} {fn : Func}
theorem cw_ret0 {B : Nat} {w0 : World} (h : fn.results = #[]) (hR : R (.tuple #[]) w) (hb : Chg B w0 w) {a : Act} (ha : Fr N a f) : finW P fn R B w0 a w := by
 obtain ⟨x, v, hv, v', he, h1, h2⟩ := fn0 (P := P) (Rr := fun e w' => ∃ v, e = .returned v ∧ R v w' ∧ Chg B w0 w') h ⟨_, rfl, hR, hb⟩ ha
 cases he
 exact ⟨x, _, hv, h1, h2⟩
theorem cw_ret2 {B : Nat} {w0 : World} {r0 r1 : ResultVar} {v0 v1 : Value} (h : fn.results = #[r0, r1]) (h0 : RV P f w r0 v0) (h1 : RV P f w r1 v1) (hR : R (.tuple #[v0, v1]) w) (hb : Chg B w0 w) {a : Act} (ha : Fr N a f) : finW P fn R B w0 a w := by
 obtain ⟨x, v, hv, v', he, h1, h2⟩ := fn2 (Rr := fun e w' => ∃ v, e = .returned v ∧ R v w' ∧ Chg B w0 w') h h0 h1 ⟨_, rfl, hR, hb⟩ ha
 cases he
 exact ⟨x, _, hv, h1, h2⟩
theorem dx_cw {F : FuncId} {fn : Func} {xs : List Operand} {ts : Array TypeId} {vs : List Value} {B : Nat} (ho : o.op = .call { callee := .value (.func F), args := xs.toArray, argTypes := ts }) (hf : P.funcs[F]? = some fn) (hn : (fn.name == "runtime.NumGoroutine") = false) (hb : fn.body.isNone = false)
  (hx : evl f xs = some vs) (hc : CW P F vs w B R) (hw : wantF ops o f = some true := by rfl) : DR P ops o N f w fun v W => R v W ∧ Chg B w W :=
 dx_call (cap := #[]) ho rfl hf hn hb hx (by rw [Array.append_empty]; exact Calls.mono hc fun e w' ⟨v, he, h⟩ => ⟨v, he, h⟩) hw
def FW (P : Program) (g : Value) (args : List Value) (w : World) (B : Nat) (R : Value → World → Prop) : Prop := ∃ F fs cs fn, g = .func (.func F) fs cs ∧ P.funcs[F]? = some fn ∧ (fn.name == "runtime.NumGoroutine") = false ∧ fn.body.isNone = false ∧ CW P F (fs.toList ++ args ++ cs.toList) w B R
theorem dx_fw {c : Operand} {g : Value} {xs : List Operand} {ts : Array TypeId} {vs : List Value} {B : Nat} (ho : o.op = .call { callee := .value c, args := xs.toArray, argTypes := ts }) (hcv : ev f c = some g)
  (hx : evl f xs = some vs) (hc : FW P g vs w B R) (hw : wantF ops o f = some true := by rfl) : DR P ops o N f w fun v W => R v W ∧ Chg B w W := fun a ha => by
 obtain ⟨F, fs, cs, fn, rfl, hf, hn, hb, hc⟩ := hc
 have he := evl_args (ha.evl hx)
 have hc' := ha.ev hcv
 exact Does.call (wantF_of ha hw) F (fs ++ vs.toArray ++ cs) (by
  unfold execOp
  simp only [ho, resolve, he, hc', Deferred.ofValue, Sem.run_bind, Sem.run_pure, Result.andThen_ok, invoke]
  simp only [callFunc, Sem.run_bind, run_program, Result.andThen_ok, hf, hn, hb]
  rfl) (by
  unfold CW at hc
  rw [show (fs.toList ++ vs ++ cs.toList).toArray = fs ++ vs.toArray ++ cs from by apply Array.ext'; simp] at hc
  exact Calls.mono hc fun e w' ⟨v, he, h⟩ => ⟨v, he, h⟩)
end
section
variable {P : Program} {ops : Array Oper} {o : Oper} {N : Nat} {f : Fl} {w : World}
theorem dx_slTL {t : TypeId} {x y : Operand} {s : ByteArray} {K : IntKind} {i : Int} (l : Nat) (ho : o.op = .slice t x (some y) none none) (ht : P.underlying t = some .string) (hx : ev f x = some (.string s)) (hy : ev f y = some (.int K i)) (hi : i = (l : Int)) (hl : l ≤ s.size) (hw : wantF ops o f = some true := by rfl) : DV P ops o N f w (.string (s.extract l s.size)) := fun a ha => by
 subst hi
 have hx := ha.ev hx
 have hy := ha.ev hy
 refine Does.pure (wantF_of ha hw) _ ?_ ⟨rfl, rfl⟩
 have h1 : ((l : Int) ≤ (s.size : Int)) := by omega
 have h3 : (0 : Int) ≤ (l : Int) := by omega
 unfold execOp
 simp only [ho, Option.map_none, Option.map_some, hx, hy, Instr.sliceAt, Sem.run_bind, run_underlying ht, Result.andThen_ok, Instr.slice, Instr.sliceBounds, Instr.sliceBound, asIntOf, Sem.run_pure]
 simp [h1, h3]
 intro hh
 omega
end
section
variable {P : Program} {ops : Array Oper} {o : Oper} {N : Nat} {f : Fl} {w : World}
theorem dx_slTLH {t : TypeId} {x y z : Operand} {s : ByteArray} {K K' : IntKind} {i j : Int} (l h : Nat) (ho : o.op = .slice t x (some y) (some z) none) (ht : P.underlying t = some .string) (hx : ev f x = some (.string s)) (hy : ev f y = some (.int K i)) (hz : ev f z = some (.int K' j)) (hi : i = (l : Int)) (hj : j = (h : Int)) (hl : l ≤ h) (hh : h ≤ s.size) (hw : wantF ops o f = some true := by rfl) : DV P ops o N f w (.string (s.extract l h)) := fun a ha => by
 subst hi hj
 have hx := ha.ev hx
 have hy := ha.ev hy
 have hz := ha.ev hz
 refine Does.pure (wantF_of ha hw) _ ?_ ⟨rfl, rfl⟩
 have h1 : ((h : Int) ≤ (s.size : Int)) := by omega
 have h2 : ((l : Int) ≤ (h : Int)) := by omega
 have h3 : (0 : Int) ≤ (l : Int) := by omega
 have h4 : (0 : Int) ≤ (h : Int) := by omega
 unfold execOp
 simp only [ho, Option.map_none, Option.map_some, hx, hy, hz, Instr.sliceAt, Sem.run_bind, run_underlying ht, Result.andThen_ok, Instr.slice, Instr.sliceBounds, Instr.sliceBound, asIntOf, Sem.run_pure]
 simp [h1, h2, h3, h4, hl, hh]
end
def takeS (s : ByteArray) (k : Nat) (c : Int) : Bool := decide (k < s.size) && decide (atS s k = c)
def isBlank (c : Int) : Bool := decide (c = 32) || (decide (c = 9) || (decide (c = 10) || decide (c = 13)))
def blankN (s : ByteArray) : Nat → Nat → Nat
 | 0, k => k
 | f + 1, k => if (decide (k < s.size) && isBlank (atS s k)) = true then blankN s f (k + 1) else k
def blankS (s : ByteArray) (k : Nat) : Nat := blankN s (s.size - k) k
theorem blank_go {s : ByteArray} {k : Nat} (h : k < s.size) (hb : isBlank (atS s k) = true) : blankS s k = blankS s (k + 1) := by
 unfold blankS
 obtain ⟨f, hf⟩ : ∃ f, s.size - k = f + 1 := ⟨s.size - k - 1, by omega⟩
 rw [hf, blankN, decide_eq_true h, hb, show (true && true) = true from rfl, if_pos rfl, show s.size - (k + 1) = f by omega]
theorem blank_stop {s : ByteArray} {k : Nat} (h : ¬ (k < s.size ∧ isBlank (atS s k) = true)) : blankS s k = k := by
 unfold blankS
 cases hf : s.size - k with
 | zero => rfl
 | succ f =>
  rw [blankN, if_neg]
  intro hc
  rw [Bool.and_eq_true, decide_eq_true_eq] at hc
  exact h hc
theorem blank_le (s : ByteArray) : ∀ (f k : Nat), k ≤ s.size → k ≤ blankN s f k ∧ blankN s f k ≤ s.size
  | 0, k, h => ⟨Nat.le_refl _, h⟩
  | f + 1, k, h => by
    unfold blankN
    split
    · rename_i hc
      rw [Bool.and_eq_true, decide_eq_true_eq] at hc
      have := blank_le s f (k + 1) hc.1
      omega
    · exact ⟨Nat.le_refl _, h⟩
theorem blankS_le {s : ByteArray} {k : Nat} (h : k ≤ s.size) : k ≤ blankS s k ∧ blankS s k ≤ s.size := blank_le s _ k h
def wordS (s w : ByteArray) (k : Nat) : Bool := (List.range w.size).all fun i => takeS s (k + i) (atS w i)
def isDig (c : Int) : Bool := decide (48 ≤ c) && decide (c ≤ 57)
def digN (s : ByteArray) : Nat → Nat → Nat
 | 0, k => k
 | f + 1, k => if (decide (k < s.size) && isDig (atS s k)) = true then digN s f (k + 1) else k
def digS (s : ByteArray) (k : Nat) : Nat := digN s (s.size - k) k
theorem dig_go {s : ByteArray} {k : Nat} (h : k < s.size) (hb : isDig (atS s k) = true) : digS s k = digS s (k + 1) := by
 unfold digS
 obtain ⟨f, hf⟩ : ∃ f, s.size - k = f + 1 := ⟨s.size - k - 1, by omega⟩
 rw [hf, digN, decide_eq_true h, hb, show (true && true) = true from rfl, if_pos rfl, show s.size - (k + 1) = f by omega]
theorem dig_stop {s : ByteArray} {k : Nat} (h : ¬ (k < s.size ∧ isDig (atS s k) = true)) : digS s k = k := by
 unfold digS
 cases hf : s.size - k with
 | zero => rfl
 | succ f =>
  rw [digN, if_neg]
  intro hc
  rw [Bool.and_eq_true, decide_eq_true_eq] at hc
  exact h hc
theorem dig_le (s : ByteArray) : ∀ (f k : Nat), k ≤ s.size → k ≤ digN s f k ∧ digN s f k ≤ s.size
  | 0, k, h => ⟨Nat.le_refl _, h⟩
  | f + 1, k, h => by
    unfold digN
    split
    · rename_i hc
      rw [Bool.and_eq_true, decide_eq_true_eq] at hc
      have := dig_le s f (k + 1) hc.1
      omega
    · exact ⟨Nat.le_refl _, h⟩
theorem digS_le {s : ByteArray} {k : Nat} (h : k ≤ s.size) : k ≤ digS s k ∧ digS s k ≤ s.size := dig_le s _ k h
theorem take_t {s : ByteArray} {k : Nat} {c : Int} (h : takeS s k c = true) : k < s.size ∧ atS s k = c := by
 unfold takeS at h
 rwa [Bool.and_eq_true, decide_eq_true_eq, decide_eq_true_eq] at h
theorem take_f {s : ByteArray} {k : Nat} {c : Int} (h : takeS s k c = false) (hk : k < s.size) : atS s k ≠ c := fun e => by
 unfold takeS at h
 rw [decide_eq_true hk, decide_eq_true e] at h
 cases h
abbrev psC (s : ByteArray) (k dp : Nat) : List Value := [.string s, .int .i64 (k : Int), .int .i64 (dp : Int)]
set_option maxHeartbeats 1000000 in
theorem peek_v  (s : ByteArray) (P ka dp : Nat) (w : World) (L : List Nat) (hL : LL L w) (hPL : P ∈ L) (hs : s.size ≤ 1000000) (hk : ka ≤ s.size) (hp : Blk w P (psC s ka dp))   : CV Tryz.prog 26 [.pointer (some ⟨P, 0, none⟩)] w fun v W => v = .int .u8 (if ka < s.size then atS s ka else 0) := by
 refine cv_enter (N := 22) (f := [(0, .pointer (some ⟨P, 0, none⟩))]) Tryz.func26 rfl rfl rfl rfl fun Q hQ hE => ?_
 have hB := Below.refl w.heap.size w
 have hL0 := hL
 refine Sq fun K1 hK1 => (Rg (Pu rfl (Ni (hK1 (Sq fun K2 hK2 => (Sq fun K3 hK3 => ?_))))))
 refine dM 9 [(some 3, .is (.pointer (some ⟨P, 0, none⟩))), (some 4, .is (.pointer (some ⟨P, 0, none⟩))), (some 5, .is (.pointer (some ⟨P, 1, none⟩))), (some 6, .is (.int .i64 (ka : Int))), (some 7, .is (.pointer (some ⟨P, 0, none⟩))), (some 8, .is (.pointer (some ⟨P, 0, none⟩))), (some 9, .is (.pointer (some ⟨P, 0, none⟩))), (some 10, .is (.string s)), (some 11, .is (.int .i64 (s.size : Int)))] [[], [0], [1], [2], [], [4], [5], [6], [7]] (by exact trivial) ?_ ?_
 ·
  refine Dc (fun Wd hd => ?_) ?_
  ·
   exact Dd (dx_move rfl rfl) rfl
  refine Dc (fun Wd hd => ?_) ?_
  ·
   exact Dd (dx_nilCheck rfl rfl) rfl
  refine Dc (fun Wd hd => ?_) ?_
  ·
   exact Dd (dx_fld (o1 := 1) rfl ty_fld_37_1_1 rfl rfl) rfl
  refine Dc (fun Wd hd => ?_) ?_
  ·
   have hp := hp.below hd
   exact Dd (dx_load rfl ty_one_3 rfl (hp.cell (k := 1) rfl)) rfl
  refine Dc (fun Wd hd => ?_) ?_
  ·
   exact Dd (dx_move rfl rfl) rfl
  refine Dc (fun Wd hd => ?_) ?_
  ·
   exact Dd (dx_nilCheck rfl rfl) rfl
  refine Dc (fun Wd hd => ?_) ?_
  ·
   exact Dd (dx_fld (o1 := 0) rfl ty_fld_37_0_0 rfl rfl) rfl
  refine Dc (fun Wd hd => ?_) ?_
  ·
   have hp := hp.below hd
   exact Dd (dx_load rfl ty_one_9 rfl (hp.cell (k := 0) rfl)) rfl
  refine Dc (fun Wd hd => ?_) ?_
  ·
   exact Dd (dx_lenT rfl Tryz.underlying9 rfl) rfl
  exact trivial
 ·
  intro W4 b5
  replace hp := hp.below b5
  replace hB := below_then hB b5
  refine Va (dx_geq rfl rfl rfl) rfl rfl (Ni (hK3 ?_))
  refine WC.cond rfl (fun c6 => ?_) (fun c6 => ?_)
  ·
   replace c6 := dT c6
   refine Sq fun K7 hK7 => (Rg (Pu rfl (Ni (hK7 ?_))))
   exact WC.ret fun a_ ha_ => hQ (cv_ret1 rfl (.tmp rfl) (by rw [if_neg (by omega)]) hB ha_)
  ·
   replace c6 := dF c6
   refine WC.skip (hK2 (Sq fun K8 hK8 => ?_))
   refine dM 8 [(some 13, .is (.pointer (some ⟨P, 0, none⟩))), (some 14, .is (.pointer (some ⟨P, 0, none⟩))), (some 15, .is (.pointer (some ⟨P, 0, none⟩))), (some 16, .is (.string s)), (some 17, .is (.pointer (some ⟨P, 0, none⟩))), (some 18, .is (.pointer (some ⟨P, 0, none⟩))), (some 19, .is (.pointer (some ⟨P, 1, none⟩))), (some 20, .is (.int .i64 (ka : Int)))] [[], [0], [1], [2], [], [4], [5], [6]] (by exact trivial) ?_ ?_
   ·
    refine Dc (fun Wd hd => ?_) ?_
    ·
     exact Dd (dx_move rfl rfl) rfl
    refine Dc (fun Wd hd => ?_) ?_
    ·
     exact Dd (dx_nilCheck rfl rfl) rfl
    refine Dc (fun Wd hd => ?_) ?_
    ·
     exact Dd (dx_fld (o1 := 0) rfl ty_fld_37_0_0 rfl rfl) rfl
    refine Dc (fun Wd hd => ?_) ?_
    ·
     have hp := hp.below hd
     exact Dd (dx_load rfl ty_one_9 rfl (hp.cell (k := 0) rfl)) rfl
    refine Dc (fun Wd hd => ?_) ?_
    ·
     exact Dd (dx_move rfl rfl) rfl
    refine Dc (fun Wd hd => ?_) ?_
    ·
     exact Dd (dx_nilCheck rfl rfl) rfl
    refine Dc (fun Wd hd => ?_) ?_
    ·
     exact Dd (dx_fld (o1 := 1) rfl ty_fld_37_1_1 rfl rfl) rfl
    refine Dc (fun Wd hd => ?_) ?_
    ·
     have hp := hp.below hd
     exact Dd (dx_load rfl ty_one_3 rfl (hp.cell (k := 1) rfl)) rfl
    exact trivial
   ·
    intro W9 b10
    replace hB := below_then hB b10
    refine Va (dx_at ka rfl Tryz.underlying9 rfl rfl (by omega) (by omega)) rfl rfl (Pu rfl (Ni (hK8 ?_)))
    exact WC.ret fun a_ ha_ => hQ (cv_ret1 rfl (.tmp rfl) (by rw [if_pos (by omega)]) hB ha_)

set_option maxHeartbeats 1000000 in
theorem ended_v  (s : ByteArray) (P ka dp : Nat) (w : World) (L : List Nat) (hL : LL L w) (hPL : P ∈ L) (hs : s.size ≤ 1000000) (hk : ka ≤ s.size) (hp : Blk w P (psC s ka dp))   : CV Tryz.prog 14 [.pointer (some ⟨P, 0, none⟩)] w fun v W => v = .bool (decide (s.size ≤ ka)) := by
 refine cv_enter (N := 13) (f := [(0, .pointer (some ⟨P, 0, none⟩))]) Tryz.func14 rfl rfl rfl rfl fun Q hQ hE => ?_
 have hB := Below.refl w.heap.size w
 have hL0 := hL
 refine Sq fun K1 hK1 => (Rg (Pu rfl (Ni (hK1 (Sq fun K2 hK2 => ?_)))))
 refine dM 9 [(some 3, .is (.pointer (some ⟨P, 0, none⟩))), (some 4, .is (.pointer (some ⟨P, 0, none⟩))), (some 5, .is (.pointer (some ⟨P, 1, none⟩))), (some 6, .is (.int .i64 (ka : Int))), (some 7, .is (.pointer (some ⟨P, 0, none⟩))), (some 8, .is (.pointer (some ⟨P, 0, none⟩))), (some 9, .is (.pointer (some ⟨P, 0, none⟩))), (some 10, .is (.string s)), (some 11, .is (.int .i64 (s.size : Int)))] [[], [0], [1], [2], [], [4], [5], [6], [7]] (by exact trivial) ?_ ?_
 ·
  refine Dc (fun Wd hd => ?_) ?_
  ·
   exact Dd (dx_move rfl rfl) rfl
  refine Dc (fun Wd hd => ?_) ?_
  ·
   exact Dd (dx_nilCheck rfl rfl) rfl
  refine Dc (fun Wd hd => ?_) ?_
  ·
   exact Dd (dx_fld (o1 := 1) rfl ty_fld_37_1_1 rfl rfl) rfl
  refine Dc (fun Wd hd => ?_) ?_
  ·
   have hp := hp.below hd
   exact Dd (dx_load rfl ty_one_3 rfl (hp.cell (k := 1) rfl)) rfl
  refine Dc (fun Wd hd => ?_) ?_
  ·
   exact Dd (dx_move rfl rfl) rfl
  refine Dc (fun Wd hd => ?_) ?_
  ·
   exact Dd (dx_nilCheck rfl rfl) rfl
  refine Dc (fun Wd hd => ?_) ?_
  ·
   exact Dd (dx_fld (o1 := 0) rfl ty_fld_37_0_0 rfl rfl) rfl
  refine Dc (fun Wd hd => ?_) ?_
  ·
   have hp := hp.below hd
   exact Dd (dx_load rfl ty_one_9 rfl (hp.cell (k := 0) rfl)) rfl
  refine Dc (fun Wd hd => ?_) ?_
  ·
   exact Dd (dx_lenT rfl Tryz.underlying9 rfl) rfl
  exact trivial
 ·
  intro W3 b4
  replace hB := below_then hB b4
  refine Va (dx_geq rfl rfl rfl) rfl rfl (Pu rfl (Ni (hK2 ?_)))
  exact WC.ret fun a_ ha_ => hQ (cv_ret1 rfl (.tmp rfl) (by congr 1; rw [decide_eq_decide]; omega) hB ha_)

set_option maxHeartbeats 1000000 in
theorem take_v (c : Int) (s : ByteArray) (P ka dp : Nat) (w : World) (L : List Nat) (hL : LL L w) (hPL : P ∈ L) (hs : s.size ≤ 1000000) (hk : ka ≤ s.size) (hp : Blk w P (psC s ka dp))   : CW Tryz.prog 25 [.pointer (some ⟨P, 0, none⟩), .int .u8 c] w P fun v W => ∃ k', v = .bool (takeS s ka c) ∧ k' = (bif takeS s ka c then ka + 1 else ka) ∧ k' ≤ s.size ∧ Blk W P (psC s k' dp) := by
 refine cw_enter (N := 27) (f := [(0, .pointer (some ⟨P, 0, none⟩)), (1, .int .u8 c)]) Tryz.func25 rfl rfl rfl rfl fun Q hQ hE => ?_
 have hB := Chg.refl P w
 have hL0 := hL
 refine Sq fun K1 hK1 => (Rg (Pu rfl (Ni (hK1 (Sq fun K2 hK2 => (Sq fun K3 hK3 => ?_))))))
 obtain ⟨b4, hb4⟩ : ∃ b, b = (decide (s.size ≤ ka)) := ⟨_, rfl⟩
 refine dM 15 [(some 5, .is (.pointer (some ⟨P, 0, none⟩))), (some 6, .is (.bool (decide (s.size ≤ ka)))), (some 7, .is (.bool b4)), (some 8, .is (bif b4 then undef else .pointer (some ⟨P, 0, none⟩))), (some 9, .is (bif b4 then undef else .pointer (some ⟨P, 0, none⟩))), (some 10, .is (bif b4 then undef else .pointer (some ⟨P, 0, none⟩))), (some 11, .is (bif b4 then undef else .string s)), (some 12, .is (bif b4 then undef else .pointer (some ⟨P, 0, none⟩))), (some 13, .is (bif b4 then undef else .pointer (some ⟨P, 0, none⟩))), (some 14, .is (bif b4 then undef else .pointer (some ⟨P, 1, none⟩))), (some 15, .is (bif b4 then undef else .int .i64 (ka : Int))), (some 16, .is (bif b4 then undef else .int .u8 (atS s ka))), (some 17, .is (bif b4 then undef else .int .u8 c)), (some 18, .is (bif b4 then undef else .bool (!(decide (atS s ka = c))))), (some 19, .is (.bool (b4 || (!(decide (atS s ka = c))))))] [[], [0], [1, 1], [2], [3, 2], [4, 2], [5, 2], [2], [7, 2], [8, 2], [9, 2], [6, 10, 2], [2], [11, 12, 2], [2, 13]] (by exact trivial) ?_ ?_
 ·
  refine Dc (fun Wd hd => ?_) ?_
  ·
   exact Dd (dx_move rfl rfl) rfl
  refine Dc (fun Wd hd => ?_) ?_
  ·
   have hp := hp.below hd
   exact DR.mono (dx_cv rfl Tryz.func14 rfl rfl rfl (ended_v s P ka dp Wd _ (LL.below hL hd) hPL hs (by omega) hp)) (fun v W' ⟨h, hb⟩ => ⟨hb, (by rw [h]; exact rfl)⟩)
  refine Dc (fun Wd hd => ?_) ?_
  ·
   exact DV.dr (dx_move rfl rfl) ⟨Below.refl _ _, by rw [hb4]; rfl⟩
  refine Dc (fun Wd hd => ?_) ?_
  ·
   cases b4
   ·
    exact Dd (dx_move rfl rfl) rfl
   ·
    exact Dd (dv_off rfl) rfl
  refine Dc (fun Wd hd => ?_) ?_
  ·
   cases b4
   ·
    exact Dd (dx_nilCheck rfl rfl) rfl
   ·
    exact Dd (dv_off rfl) rfl
  refine Dc (fun Wd hd => ?_) ?_
  ·
   cases b4
   ·
    exact Dd (dx_fld (o1 := 0) rfl ty_fld_37_0_0 rfl rfl) rfl
   ·
    exact Dd (dv_off rfl) rfl
  refine Dc (fun Wd hd => ?_) ?_
  ·
   cases b4
   ·
    have hp := hp.below hd
    exact Dd (dx_load rfl ty_one_9 rfl (hp.cell (k := 0) rfl)) rfl
   ·
    exact Dd (dv_off rfl) rfl
  refine Dc (fun Wd hd => ?_) ?_
  ·
   cases b4
   ·
    exact Dd (dx_move rfl rfl) rfl
   ·
    exact Dd (dv_off rfl) rfl
  refine Dc (fun Wd hd => ?_) ?_
  ·
   cases b4
   ·
    exact Dd (dx_nilCheck rfl rfl) rfl
   ·
    exact Dd (dv_off rfl) rfl
  refine Dc (fun Wd hd => ?_) ?_
  ·
   cases b4
   ·
    exact Dd (dx_fld (o1 := 1) rfl ty_fld_37_1_1 rfl rfl) rfl
   ·
    exact Dd (dv_off rfl) rfl
  refine Dc (fun Wd hd => ?_) ?_
  ·
   cases b4
   ·
    have hp := hp.below hd
    exact Dd (dx_load rfl ty_one_3 rfl (hp.cell (k := 1) rfl)) rfl
   ·
    exact Dd (dv_off rfl) rfl
  refine Dc (fun Wd hd => ?_) ?_
  ·
   cases b4
   ·
    exact Dd (dx_at ka rfl Tryz.underlying9 rfl rfl (by omega) (by first | omega | (have hq_ := of_decide_eq_false hb4.symm; omega))) rfl
   ·
    exact Dd (dv_off rfl) rfl
  refine Dc (fun Wd hd => ?_) ?_
  ·
   cases b4
   ·
    exact Dd (dx_move rfl rfl) rfl
   ·
    exact Dd (dv_off rfl) rfl
  refine Dc (fun Wd hd => ?_) ?_
  ·
   cases b4
   ·
    exact Dd (dx_neq rfl rfl rfl) rfl
   ·
    exact Dd (dv_off rfl) rfl
  refine Dc (fun Wd hd => ?_) ?_
  ·
   cases b4
   ·
    exact Dd (dx_pick rfl rfl rfl) rfl
   ·
    exact Dd (dx_pick rfl rfl rfl) rfl
  exact trivial
 ·
  intro W5 b6
  replace hp := hp.below b6
  replace hB := Chg.thenB hB b6
  refine Ni (hK3 ?_)
  refine WC.cond rfl (fun c7 => ?_) (fun c7 => ?_)
  ·
   refine Sq fun K8 hK8 => (Rg (Pu rfl (Ni (hK8 ?_))))
   exact WC.ret fun a_ ha_ => hQ (cw_ret1 rfl (.tmp rfl) (by have e : takeS s ka c = false := (by unfold takeS; cases hlt : decide (ka < s.size) with | false => rfl | true => (rw [Bool.true_and]; have hlt := of_decide_eq_true hlt; refine decide_eq_false ?_; have hcc : ¬ (s.size ≤ ka) := (by omega); simp_all)); rw [e]; exact ⟨ka, rfl, rfl, by omega, hp⟩) hB ha_)
  ·
   obtain ⟨g9, g10⟩ := bor_f c7
   replace g9 := bvar_f g9
   replace g10 := bnot_f g10
   replace g10 := dT g10
   refine WC.skip (hK2 (Sq fun K11 hK11 => (Rg (Pu rfl (Va (dx_nilCheck rfl rfl) rfl rfl (Va (dx_fld (o1 := 1) rfl ty_fld_37_1_1 rfl rfl) rfl rfl (Va (dx_load rfl ty_one_3 rfl (hp.cell (k := 1) rfl)) rfl rfl ?_)))))))
   refine Va (dx_add (r := ((ka + 1 : Nat) : Int)) rfl rfl rfl (by rw [wrap64_id (by omega)]; omega)) rfl rfl (Va (dx_nilCheck rfl rfl) rfl rfl (Va (dx_fld (o1 := 1) rfl ty_fld_37_1_1 rfl rfl) rfl rfl ?_))
   refine WL.do (dx_store (cs' := [.string s, .int .i64 ((ka + 1 : Nat) : Int), .int .i64 (dp : Int)]) (vs := [.int .i64 ((ka + 1 : Nat) : Int)]) rfl ty_size_3_1 rfl rfl rfl (oC rfl oc_nil) hp rfl (nB rfl) rfl) rfl ?_
   rintro _ W12 ⟨k14, o13⟩
   clear hp
   replace hB := Chg.only hB o13 (.inl rfl)
   refine Ni (hK11 (Sq fun K15 hK15 => (Rg (Pu rfl (Ni (hK15 ?_))))))
   exact WC.ret fun a_ ha_ => hQ (cw_ret1 rfl (.tmp rfl) (by have hnb : ¬ (s.size ≤ ka) := (fun hc_ => by have := decide_eq_true hc_; simp_all); have e : takeS s ka c = true := (by unfold takeS; rw [decide_eq_true (by omega), Bool.true_and]; exact decide_eq_true (by first | assumption | exact Classical.not_not.1 (by assumption) | simp_all)); rw [e]; exact ⟨ka + 1, rfl, rfl, by omega, k14⟩) hB ha_)

set_option maxHeartbeats 1000000 in
theorem blanks_v  (s : ByteArray) (P ka dp : Nat) (w : World) (L : List Nat) (hL : LL L w) (hPL : P ∈ L) (hs : s.size ≤ 1000000) (hk : ka ≤ s.size) (hp : Blk w P (psC s ka dp))   : CW Tryz.prog 12 [.pointer (some ⟨P, 0, none⟩)] w P fun v W => Blk W P (psC s (blankS s ka) dp) := by
 refine cw_enter (N := 16) (f := [(0, .pointer (some ⟨P, 0, none⟩))]) Tryz.func12 rfl rfl rfl rfl fun Q hQ hE => ?_
 have hB := Chg.refl P w
 have hL0 := hL
 refine WC.block ?_
 refine WC.loop (fun (kb : Nat) => [(0, .pointer (some ⟨P, 0, none⟩))]) (fun (kb : Nat) W => kb ≤ s.size ∧ blankS s ka = blankS s kb ∧ Chg P w W ∧ LL (L) W ∧ Blk W P [.string s, .int .i64 (kb : Int), .int .i64 (dp : Int)]) (fun (kb : Nat) => s.size - kb) ka (by repeat first | exact trivial | refine aR ?_ | refine aI (by omega) ?_) ⟨hk, rfl, hB, hL, hp⟩ ?_
 clear hp hB hL
 rintro K1 kb W2 ⟨hkb, hv, hB, hL, hp⟩ hK1
 refine Sq fun K3 hK3 => (Sq fun K4 hK4 => (Rg (Pu rfl ?_)))
 refine Ge (dx_cw rfl Tryz.func25 rfl rfl rfl (take_v 32 s P kb dp W2 _ hL hPL hs (by omega) hp)) rfl rfl ?_
 rintro _ W9 ⟨⟨k5, rfl, hk6, hk7, hp10⟩, g8⟩
 replace hB := Chg.both hB g8
 replace hL := hL.chg g8
 cases hT11 : takeS s kb 32 with
 | false =>
  rw [hT11] at hk6
  replace hk6 : kb = k5 := Eq.symm hk6
  subst hk6
  refine Pu rfl (Pu rfl ?_)
  refine Ge (dx_cw rfl Tryz.func25 rfl rfl rfl (take_v 9 s P kb dp W9 _ hL hPL hs (by omega) hp10)) rfl rfl ?_
  rintro _ W16 ⟨⟨k12, rfl, hk13, hk14, hp17⟩, g15⟩
  replace hB := Chg.both hB g15
  replace hL := hL.chg g15
  cases hT18 : takeS s kb 9 with
  | false =>
   rw [hT18] at hk13
   replace hk13 : kb = k12 := Eq.symm hk13
   subst hk13
   refine Pu rfl (Pu rfl (Pu rfl ?_))
   refine Ge (dx_cw rfl Tryz.func25 rfl rfl rfl (take_v 10 s P kb dp W16 _ hL hPL hs (by omega) hp17)) rfl rfl ?_
   rintro _ W23 ⟨⟨k19, rfl, hk20, hk21, hp24⟩, g22⟩
   replace hB := Chg.both hB g22
   replace hL := hL.chg g22
   cases hT25 : takeS s kb 10 with
   | false =>
    rw [hT25] at hk20
    replace hk20 : kb = k19 := Eq.symm hk20
    subst hk20
    refine Pu rfl (Pu rfl (Pu rfl ?_))
    refine Ge (dx_cw rfl Tryz.func25 rfl rfl rfl (take_v 13 s P kb dp W23 _ hL hPL hs (by omega) hp24)) rfl rfl ?_
    rintro _ W30 ⟨⟨k26, rfl, hk27, hk28, hp31⟩, g29⟩
    replace hB := Chg.both hB g29
    replace hL := hL.chg g29
    cases hT32 : takeS s kb 13 with
    | false =>
     rw [hT32] at hk27
     replace hk27 : kb = k26 := Eq.symm hk27
     subst hk27
     refine Pu rfl (Ni (hK4 (WC.condF rfl ?_)))
     refine WC.exit ?_
     intro a_ ha_
     exact hE (cw_ret0 rfl  (by have e : blankS s ka = kb := (by rw [hv]; exact blank_stop (fun ⟨h1, h2⟩ => by unfold isBlank at h2; have q1 := take_f ‹takeS s kb 32 = false› h1; have q2 := take_f ‹takeS s kb 9 = false› h1; have q3 := take_f ‹takeS s kb 10 = false› h1; have q4 := take_f ‹takeS s kb 13 = false› h1; simp_all)); rw [e]; exact hp31) hB ha_)
    | true =>
     rw [hT32] at hk27
     have hthT32 := take_t hT32
     replace hk27 : k26 = kb + 1 := hk27
     refine Pu rfl (Ni (hK4 (WC.condT rfl (WC.skip (hK3 (WC.block (WC.skip ?_)))))))
     have hkk : k26 = kb + 1 := by omega
     subst hkk
     exact hK1 (kb + 1) ⟨(by omega), (hv.trans (blank_go hthT32.1 (by rw [hthT32.2]; decide))), hB, hL, hp31⟩ (by omega) (by repeat first | exact trivial | refine aR ?_ | refine aI (by omega) ?_)
   | true =>
    rw [hT25] at hk20
    have hthT25 := take_t hT25
    replace hk20 : k19 = kb + 1 := hk20
    refine Pu rfl (Pu rfl (Of rfl (Of rfl (Pu rfl (Ni (hK4 (WC.condT rfl ?_)))))))
    refine WC.skip (hK3 (WC.block (WC.skip ?_)))
    have hkk : k19 = kb + 1 := by omega
    subst hkk
    exact hK1 (kb + 1) ⟨(by omega), (hv.trans (blank_go hthT25.1 (by rw [hthT25.2]; decide))), hB, hL, hp24⟩ (by omega) (by repeat first | exact trivial | refine aR ?_ | refine aI (by omega) ?_)
  | true =>
   rw [hT18] at hk13
   have hthT18 := take_t hT18
   replace hk13 : k12 = kb + 1 := hk13
   refine Pu rfl (Pu rfl (Of rfl (Of rfl (Pu rfl (Pu rfl (Of rfl (Of rfl ?_)))))))
   refine Pu rfl (Ni (hK4 (WC.condT rfl (WC.skip (hK3 (WC.block (WC.skip ?_)))))))
   have hkk : k12 = kb + 1 := by omega
   subst hkk
   exact hK1 (kb + 1) ⟨(by omega), (hv.trans (blank_go hthT18.1 (by rw [hthT18.2]; decide))), hB, hL, hp17⟩ (by omega) (by repeat first | exact trivial | refine aR ?_ | refine aI (by omega) ?_)
 | true =>
  rw [hT11] at hk6
  have hthT11 := take_t hT11
  replace hk6 : k5 = kb + 1 := hk6
  refine Pu rfl (Of rfl (Of rfl (Pu rfl (Pu rfl (Of rfl (Of rfl (Pu rfl ?_)))))))
  refine Pu rfl (Of rfl (Of rfl (Pu rfl (Ni (hK4 (WC.condT rfl (WC.skip ?_)))))))
  refine hK3 (WC.block (WC.skip ?_))
  have hkk : k5 = kb + 1 := by omega
  subst hkk
  exact hK1 (kb + 1) ⟨(by omega), (hv.trans (blank_go hthT11.1 (by rw [hthT11.2]; decide))), hB, hL, hp10⟩ (by omega) (by repeat first | exact trivial | refine aR ?_ | refine aI (by omega) ?_)

theorem word_t {s wd : ByteArray} {k : Nat} (h : ∀ i, i < wd.size → takeS s (k + i) (atS wd i) = true) : wordS s wd k = true := List.all_eq_true.2 fun i hi => h i (List.mem_range.1 hi)
theorem word_f {s wd : ByteArray} {k i : Nat} (hi : i < wd.size) (h : takeS s (k + i) (atS wd i) = false) : wordS s wd k = false := List.all_eq_false.2 ⟨i, List.mem_range.2 hi, by rw [h]; decide⟩
set_option maxHeartbeats 1000000 in
theorem word_v (wd : ByteArray) (s : ByteArray) (P ka dp : Nat) (w : World) (L : List Nat) (hL : LL L w) (hPL : P ∈ L) (hs : s.size ≤ 1000000) (hk : ka ≤ s.size) (hp : Blk w P (psC s ka dp))  (hwd : wd.size ≤ 1000) : CW Tryz.prog 50 [.pointer (some ⟨P, 0, none⟩), .string wd] w P fun v W => ∃ k', v = .bool (wordS s wd ka) ∧ ka ≤ k' ∧ k' ≤ s.size ∧ (wordS s wd ka = true → k' = ka + wd.size) ∧ Blk W P (psC s k' dp) := by
 refine cw_enter (N := 18) (f := [(0, .pointer (some ⟨P, 0, none⟩)), (1, .string wd)]) Tryz.func50 rfl rfl rfl rfl fun Q hQ hE => ?_
 have hB := Chg.refl P w
 have hL0 := hL
 refine Sq fun K1 hK1 => (Rg (Pu rfl (Ni (hK1 (Sq fun K2 hK2 => (Sq fun K3 hK3 => (Rg ?_)))))))
 refine Pu rfl (Va (dx_lenT rfl Tryz.underlying9 rfl) rfl rfl (Pu rfl (Ni (hK3 (WC.block ?_)))))
 refine WC.loop2 (fun (i : Nat) (kb : Nat) => [(0, .pointer (some ⟨P, 0, none⟩)), (1, .string wd), (7, .int .i64 (wd.size : Int)), (8, .int .i64 (i : Int))]) (fun (i : Nat) (kb : Nat) W => i ≤ wd.size ∧ kb = ka + i ∧ kb ≤ s.size ∧ (∀ j, j < i → takeS s (ka + j) (atS wd j) = true) ∧ Chg P w W ∧ LL (L) W ∧ Blk W P [.string s, .int .i64 (kb : Int), .int .i64 (dp : Int)]) (fun (i : Nat) (kb : Nat) => wd.size - i) 0 ka (by repeat first | exact trivial | refine aR ?_ | refine aI (by omega) ?_) ⟨Nat.zero_le _, rfl, hk, (fun j hj => by omega), hB, hL, hp⟩ ?_
 clear hp hB hL
 rintro K4 i kb W5 ⟨hi, hki, hkb, hv, hB, hL, hp⟩ hK4
 refine Sq fun K6 hK6 => (Rg (Va (dx_lss rfl rfl rfl) rfl rfl (Ni (hK6 (Sq fun K7 hK7 => ?_)))))
 refine WC.cond rfl (fun c8 => ?_) (fun c8 => ?_)
 ·
  replace c8 := dT c8
  refine WC.skip (hK7 (Sq fun K9 hK9 => (WC.block (Sq fun K10 hK10 => (Rg (Pu rfl (Pu rfl ?_)))))))
  refine Ni (hK10 (Sq fun K11 hK11 => ?_))
  have hil : i < wd.size := by omega
  refine Rg (Pu rfl (Pu rfl (Pu rfl (Va (dx_at i rfl Tryz.underlying9 rfl rfl (by omega) (by omega)) rfl rfl ?_))))
  refine Ge (dx_cw rfl Tryz.func25 rfl rfl rfl (take_v (atS wd i) s P kb dp W5 _ hL hPL hs (by omega) hp)) rfl rfl ?_
  rintro _ W16 ⟨⟨k12, rfl, hk13, hk14, hp17⟩, g15⟩
  replace hB := Chg.both hB g15
  replace hL := hL.chg g15
  cases hT18 : takeS s kb (atS wd i) with
  | false =>
   rw [hT18] at hk13
   replace hk13 : kb = k12 := Eq.symm hk13
   subst hk13
   refine Va (dx_not rfl rfl) rfl rfl (Ni (hK11 (WC.condT rfl (Sq fun K19 hK19 => (Rg (Pu rfl (Ni ?_)))))))
   refine hK19 ?_
   exact WC.ret fun a_ ha_ => hQ (cw_ret1 rfl (.tmp rfl) (by have e : wordS s wd ka = false := word_f (i := i) (by omega) (by rw [← hki]; assumption); rw [e]; exact ⟨kb, rfl, by omega, hkb, (fun h => by cases h), hp17⟩) hB ha_)
  | true =>
   rw [hT18] at hk13
   have hthT18 := take_t hT18
   replace hk13 : k12 = kb + 1 := hk13
   refine Va (dx_not rfl rfl) rfl rfl (Ni (hK11 (WC.condF rfl (WC.skip (hK9 (Rg (Va (dx_add (r := (i : Int) + 1) rfl rfl rfl (wrap64_id (by omega))) rfl rfl ?_)))))))
   refine Pu rfl (Ni ?_)
   exact hK4 (i + 1) k12 ⟨(by omega), (by omega), (by omega), (fun j hj => by rcases Nat.lt_or_ge j i with hl | hl; exact hv j hl; obtain rfl : j = i := (by omega); rw [← hki]; exact hT18), hB, hL, hp17⟩ (by omega) (by repeat first | exact trivial | refine aR ?_ | refine aI (by omega) ?_)
 ·
  replace c8 := dF c8
  refine WC.exit ?_
  refine hK2 (Sq fun K20 hK20 => (Rg (Pu rfl (Ni (hK20 ?_)))))
  exact WC.ret fun a_ ha_ => hQ (cw_ret1 rfl (.tmp rfl) (by have hie : i = wd.size := (by omega); have e : wordS s wd ka = true := word_t (fun j hj => hv j (by omega)); rw [e]; exact ⟨kb, rfl, by omega, hkb, fun _ => by omega, hp⟩) hB ha_)

set_option maxHeartbeats 1000000 in
theorem digits_v  (s : ByteArray) (P ka dp : Nat) (w : World) (L : List Nat) (hL : LL L w) (hPL : P ∈ L) (hs : s.size ≤ 1000000) (hk : ka ≤ s.size) (hp : Blk w P (psC s ka dp))   : CW Tryz.prog 51 [.pointer (some ⟨P, 0, none⟩)] w P fun v W => v = .string (s.extract ka (digS s ka)) ∧ Blk W P (psC s (digS s ka) dp) := by
 refine cw_enter (N := 52) (f := [(0, .pointer (some ⟨P, 0, none⟩))]) Tryz.func51 rfl rfl rfl rfl fun Q hQ hE => ?_
 have hB := Chg.refl P w
 have hL0 := hL
 refine Sq fun K1 hK1 => (Rg (Pu rfl (Ni (hK1 (Sq fun K2 hK2 => (Rg (Pu rfl ?_)))))))
 refine Va (dx_nilCheck rfl rfl) rfl rfl (Va (dx_fld (o1 := 1) rfl ty_fld_37_1_1 rfl rfl) rfl rfl (Va (dx_load rfl ty_one_3 rfl (hp.cell (k := 1) rfl)) rfl rfl (Pu rfl (Ni (hK2 (Sq fun K3 hK3 => (WC.block ?_)))))))
 refine WC.loop (fun (kb : Nat) => [(0, .pointer (some ⟨P, 0, none⟩)), (3, .int .i64 (ka : Int))]) (fun (kb : Nat) W => kb ≤ s.size ∧ ka ≤ kb ∧ digS s ka = digS s kb ∧ Chg P w W ∧ LL (L) W ∧ Blk W P [.string s, .int .i64 (kb : Int), .int .i64 (dp : Int)]) (fun (kb : Nat) => s.size - kb) ka (by repeat first | exact trivial | refine aR ?_ | refine aI (by omega) ?_) ⟨hk, Nat.le_refl _, rfl, hB, hL, hp⟩ ?_
 clear hp hB hL
 rintro K4 kb W5 ⟨hkb, hkk, hv, hB, hL, hp⟩ hK4
 refine Sq fun K6 hK6 => (Sq fun K7 hK7 => ?_)
 obtain ⟨b8, hb8⟩ : ∃ b, b = (!(decide (s.size ≤ kb))) := ⟨_, rfl⟩
 obtain ⟨b9, hb9⟩ : ∃ b, b = (b8 && (decide (48 ≤ atS s kb))) := ⟨_, rfl⟩
 refine dM 27 [(some 8, .is (.pointer (some ⟨P, 0, none⟩))), (some 9, .is (.bool (decide (s.size ≤ kb)))), (some 10, .is (.bool (!(decide (s.size ≤ kb))))), (some 11, .is (.bool b8)), (some 12, .is (bif b8 then .pointer (some ⟨P, 0, none⟩) else undef)), (some 13, .is (bif b8 then .pointer (some ⟨P, 0, none⟩) else undef)), (some 14, .is (bif b8 then .pointer (some ⟨P, 0, none⟩) else undef)), (some 15, .is (bif b8 then .string s else undef)), (some 16, .is (bif b8 then .pointer (some ⟨P, 0, none⟩) else undef)), (some 17, .is (bif b8 then .pointer (some ⟨P, 0, none⟩) else undef)), (some 18, .is (bif b8 then .pointer (some ⟨P, 1, none⟩) else undef)), (some 19, .is (bif b8 then .int .i64 (kb : Int) else undef)), (some 20, .is (bif b8 then .int .u8 (atS s kb) else undef)), (some 21, .is (bif b8 then .bool (decide (48 ≤ atS s kb)) else undef)), (some 22, .is (.bool (b8 && (decide (48 ≤ atS s kb))))), (some 23, .is (.bool b9)), (some 24, .is (bif b9 then .pointer (some ⟨P, 0, none⟩) else undef)), (some 25, .is (bif b9 then .pointer (some ⟨P, 0, none⟩) else undef)), (some 26, .is (bif b9 then .pointer (some ⟨P, 0, none⟩) else undef)), (some 27, .is (bif b9 then .string s else undef)), (some 28, .is (bif b9 then .pointer (some ⟨P, 0, none⟩) else undef)), (some 29, .is (bif b9 then .pointer (some ⟨P, 0, none⟩) else undef)), (some 30, .is (bif b9 then .pointer (some ⟨P, 1, none⟩) else undef)), (some 31, .is (bif b9 then .int .i64 (kb : Int) else undef)), (some 32, .is (bif b9 then .int .u8 (atS s kb) else undef)), (some 33, .is (bif b9 then .bool (decide (atS s kb ≤ 57)) else undef)), (some 34, .is (.bool (b9 && (decide (atS s kb ≤ 57)))))] [[], [0], [1], [2, 1], [3], [4, 3], [5, 3], [6, 3], [3], [8, 3], [9, 3], [10, 3], [7, 11, 3], [12, 3], [3, 13], [14, 3], [15], [16, 15], [17, 15], [18, 15], [15], [20, 15], [21, 15], [22, 15], [19, 23, 15], [24, 15], [15, 25]] (by exact trivial) ?_ ?_
 ·
  refine Dc (fun Wd hd => ?_) ?_
  ·
   exact Dd (dx_move rfl rfl) rfl
  refine Dc (fun Wd hd => ?_) ?_
  ·
   have hp := hp.below hd
   exact DR.mono (dx_cv rfl Tryz.func14 rfl rfl rfl (ended_v s P kb dp Wd _ (LL.below hL hd) hPL hs (by omega) hp)) (fun v W' ⟨h, hb⟩ => ⟨hb, (by rw [h]; exact rfl)⟩)
  refine Dc (fun Wd hd => ?_) ?_
  ·
   exact Dd (dx_not rfl rfl) rfl
  refine Dc (fun Wd hd => ?_) ?_
  ·
   exact DV.dr (dx_move rfl rfl) ⟨Below.refl _ _, by rw [hb8]; rfl⟩
  refine Dc (fun Wd hd => ?_) ?_
  ·
   cases b8
   ·
    exact Dd (dv_off rfl) rfl
   ·
    exact Dd (dx_move rfl rfl) rfl
  refine Dc (fun Wd hd => ?_) ?_
  ·
   cases b8
   ·
    exact Dd (dv_off rfl) rfl
   ·
    exact Dd (dx_nilCheck rfl rfl) rfl
  refine Dc (fun Wd hd => ?_) ?_
  ·
   cases b8
   ·
    exact Dd (dv_off rfl) rfl
   ·
    exact Dd (dx_fld (o1 := 0) rfl ty_fld_37_0_0 rfl rfl) rfl
  refine Dc (fun Wd hd => ?_) ?_
  ·
   cases b8
   ·
    exact Dd (dv_off rfl) rfl
   ·
    have hp := hp.below hd
    exact Dd (dx_load rfl ty_one_9 rfl (hp.cell (k := 0) rfl)) rfl
  refine Dc (fun Wd hd => ?_) ?_
  ·
   cases b8
   ·
    exact Dd (dv_off rfl) rfl
   ·
    exact Dd (dx_move rfl rfl) rfl
  refine Dc (fun Wd hd => ?_) ?_
  ·
   cases b8
   ·
    exact Dd (dv_off rfl) rfl
   ·
    exact Dd (dx_nilCheck rfl rfl) rfl
  refine Dc (fun Wd hd => ?_) ?_
  ·
   cases b8
   ·
    exact Dd (dv_off rfl) rfl
   ·
    exact Dd (dx_fld (o1 := 1) rfl ty_fld_37_1_1 rfl rfl) rfl
  refine Dc (fun Wd hd => ?_) ?_
  ·
   cases b8
   ·
    exact Dd (dv_off rfl) rfl
   ·
    have hp := hp.below hd
    exact Dd (dx_load rfl ty_one_3 rfl (hp.cell (k := 1) rfl)) rfl
  refine Dc (fun Wd hd => ?_) ?_
  ·
   cases b8
   ·
    exact Dd (dv_off rfl) rfl
   ·
    exact Dd (dx_at kb rfl Tryz.underlying9 rfl rfl (by omega) (by first | omega | (have hq0 := of_decide_eq_false (bnot_t hb8.symm); omega))) rfl
  refine Dc (fun Wd hd => ?_) ?_
  ·
   cases b8
   ·
    exact Dd (dv_off rfl) rfl
   ·
    exact Dd (dx_geq rfl rfl rfl) rfl
  refine Dc (fun Wd hd => ?_) ?_
  ·
   cases b8
   ·
    exact Dd (dx_pick rfl rfl rfl) rfl
   ·
    exact Dd (dx_pick rfl rfl rfl) rfl
  refine Dc (fun Wd hd => ?_) ?_
  ·
   exact DV.dr (dx_move rfl rfl) ⟨Below.refl _ _, by rw [hb9]; rfl⟩
  refine Dc (fun Wd hd => ?_) ?_
  ·
   cases b9
   ·
    exact Dd (dv_off rfl) rfl
   ·
    exact Dd (dx_move rfl rfl) rfl
  refine Dc (fun Wd hd => ?_) ?_
  ·
   cases b9
   ·
    exact Dd (dv_off rfl) rfl
   ·
    exact Dd (dx_nilCheck rfl rfl) rfl
  refine Dc (fun Wd hd => ?_) ?_
  ·
   cases b9
   ·
    exact Dd (dv_off rfl) rfl
   ·
    exact Dd (dx_fld (o1 := 0) rfl ty_fld_37_0_0 rfl rfl) rfl
  refine Dc (fun Wd hd => ?_) ?_
  ·
   cases b9
   ·
    exact Dd (dv_off rfl) rfl
   ·
    have hp := hp.below hd
    exact Dd (dx_load rfl ty_one_9 rfl (hp.cell (k := 0) rfl)) rfl
  refine Dc (fun Wd hd => ?_) ?_
  ·
   cases b9
   ·
    exact Dd (dv_off rfl) rfl
   ·
    exact Dd (dx_move rfl rfl) rfl
  refine Dc (fun Wd hd => ?_) ?_
  ·
   cases b9
   ·
    exact Dd (dv_off rfl) rfl
   ·
    exact Dd (dx_nilCheck rfl rfl) rfl
  refine Dc (fun Wd hd => ?_) ?_
  ·
   cases b9
   ·
    exact Dd (dv_off rfl) rfl
   ·
    exact Dd (dx_fld (o1 := 1) rfl ty_fld_37_1_1 rfl rfl) rfl
  refine Dc (fun Wd hd => ?_) ?_
  ·
   cases b9
   ·
    exact Dd (dv_off rfl) rfl
   ·
    have hp := hp.below hd
    exact Dd (dx_load rfl ty_one_3 rfl (hp.cell (k := 1) rfl)) rfl
  refine Dc (fun Wd hd => ?_) ?_
  ·
   cases b9
   ·
    exact Dd (dv_off rfl) rfl
   ·
    exact Dd (dx_at kb rfl Tryz.underlying9 rfl rfl (by omega) (by first | omega | (have hq0 := of_decide_eq_false (bnot_t (hb8.symm.trans (band_t hb9.symm).1)); have hq1 := of_decide_eq_true (band_t hb9.symm).2; omega))) rfl
  refine Dc (fun Wd hd => ?_) ?_
  ·
   cases b9
   ·
    exact Dd (dv_off rfl) rfl
   ·
    exact Dd (dx_leq rfl rfl rfl) rfl
  refine Dc (fun Wd hd => ?_) ?_
  ·
   cases b9
   ·
    exact Dd (dx_pick rfl rfl rfl) rfl
   ·
    exact Dd (dx_pick rfl rfl rfl) rfl
  exact trivial
 ·
  intro W10 b11
  replace hp := hp.below b11
  replace hB := Chg.thenB hB b11
  replace hL := LL.below hL b11
  refine Ni (hK7 ?_)
  refine WC.cond rfl (fun c12 => ?_) (fun c12 => ?_)
  ·
   obtain ⟨g13, g14⟩ := band_t c12
   replace g14 := dT g14
   refine WC.skip (hK6 (WC.block ?_))
   have hlt : kb < s.size := by rcases Nat.lt_or_ge kb s.size with h_ | h_; exact h_; exfalso; have := decide_eq_true h_; simp_all
   have hdg : isDig (atS s kb) = true := by unfold isDig; cases h1_ : decide (48 ≤ atS s kb) <;> cases h2_ : decide (atS s kb ≤ 57) <;> first | rfl | (exfalso; simp_all; done) | (exfalso; simp_all; omega)
   refine Rg (Pu rfl (Va (dx_nilCheck rfl rfl) rfl rfl (Va (dx_fld (o1 := 1) rfl ty_fld_37_1_1 rfl rfl) rfl rfl (Va (dx_load rfl ty_one_3 rfl (hp.cell (k := 1) rfl)) rfl rfl (Va (dx_add (r := ((kb + 1 : Nat) : Int)) rfl rfl rfl (by rw [wrap64_id (by omega)]; omega)) rfl rfl (Va (dx_nilCheck rfl rfl) rfl rfl (Va (dx_fld (o1 := 1) rfl ty_fld_37_1_1 rfl rfl) rfl rfl ?_)))))))
   refine WL.do (dx_store (cs' := [.string s, .int .i64 ((kb + 1 : Nat) : Int), .int .i64 (dp : Int)]) (vs := [.int .i64 ((kb + 1 : Nat) : Int)]) rfl ty_size_3_1 rfl rfl rfl (oC rfl oc_nil) hp rfl (nB rfl) rfl) rfl ?_
   rintro _ W15 ⟨k17, o16⟩
   clear hp
   replace hB := Chg.only hB o16 (.inl rfl)
   replace hL := LL.only hL o16
   refine Ni ?_
   exact hK4 (kb + 1) ⟨(by omega), (by omega), (hv.trans (dig_go (by omega) hdg)), hB, hL, k17⟩ (by omega) (by repeat first | exact trivial | refine aR ?_ | refine aI (by omega) ?_)
  ·
   refine WC.exit ?_
   refine hK3 (Sq fun K18 hK18 => ?_)
   refine dM 9 [(some 42, .is (.pointer (some ⟨P, 0, none⟩))), (some 43, .is (.pointer (some ⟨P, 0, none⟩))), (some 44, .is (.pointer (some ⟨P, 0, none⟩))), (some 45, .is (.string s)), (some 46, .is (.int .i64 (ka : Int))), (some 47, .is (.pointer (some ⟨P, 0, none⟩))), (some 48, .is (.pointer (some ⟨P, 0, none⟩))), (some 49, .is (.pointer (some ⟨P, 1, none⟩))), (some 50, .is (.int .i64 (kb : Int)))] [[], [0], [1], [2], [], [], [5], [6], [7]] (by exact trivial) ?_ ?_
   ·
    refine Dc (fun Wd hd => ?_) ?_
    ·
     exact Dd (dx_move rfl rfl) rfl
    refine Dc (fun Wd hd => ?_) ?_
    ·
     exact Dd (dx_nilCheck rfl rfl) rfl
    refine Dc (fun Wd hd => ?_) ?_
    ·
     exact Dd (dx_fld (o1 := 0) rfl ty_fld_37_0_0 rfl rfl) rfl
    refine Dc (fun Wd hd => ?_) ?_
    ·
     have hp := hp.below hd
     exact Dd (dx_load rfl ty_one_9 rfl (hp.cell (k := 0) rfl)) rfl
    refine Dc (fun Wd hd => ?_) ?_
    ·
     exact Dd (dx_move rfl rfl) rfl
    refine Dc (fun Wd hd => ?_) ?_
    ·
     exact Dd (dx_move rfl rfl) rfl
    refine Dc (fun Wd hd => ?_) ?_
    ·
     exact Dd (dx_nilCheck rfl rfl) rfl
    refine Dc (fun Wd hd => ?_) ?_
    ·
     exact Dd (dx_fld (o1 := 1) rfl ty_fld_37_1_1 rfl rfl) rfl
    refine Dc (fun Wd hd => ?_) ?_
    ·
     have hp := hp.below hd
     exact Dd (dx_load rfl ty_one_3 rfl (hp.cell (k := 1) rfl)) rfl
    exact trivial
   ·
    intro W19 b20
    replace hp := hp.below b20
    replace hB := Chg.thenB hB b20
    refine Va (dx_slTLH ka kb rfl Tryz.underlying9 rfl rfl rfl (by omega) (by omega) (by omega) (by omega)) rfl rfl (Pu rfl (Ni (hK18 ?_)))
    exact WC.ret fun a_ ha_ => hQ (cw_ret1 rfl (.tmp rfl) (by have e : digS s ka = kb := (by rw [hv]; exact dig_stop (fun ⟨h1, h2⟩ => by unfold isDig at h2; have h3 : ¬ s.size ≤ kb := (by omega); simp_all)); rw [e]; exact ⟨rfl, hp⟩) hB ha_)

def encI (r : Int) : List Int :=
 if r < 128 then [r] else if r < 2048 then [192 + r / 64, 128 + r % 64] else if r < 65536 then [224 + r / 4096, 128 + r / 64 % 64, 128 + r % 64]
 else [240 + r / 262144, 128 + r / 4096 % 64, 128 + r / 64 % 64, 128 + r % 64]
theorem encI_len (r : Int) : 1 ≤ (encI r).length ∧ (encI r).length ≤ 4 := by
 unfold encI
 split
 · simp
 split
 · simp
 split <;> simp
theorem encI_bytes {r : Int} (h0 : 0 ≤ r) (h1 : r ≤ 1114111) : Bytes (encI r) := by
 intro x hx
 unfold encI at hx
 split at hx
 · simp at hx; omega
 split at hx
 · simp at hx; omega
 split at hx <;> (simp at hx; omega)

set_option maxHeartbeats 1000000 in
theorem put1_any (v : Value) (n : Nat) (xs : List Value) (B : Nat) (r : Int) (w : World) (h1 : 0 ≤ r) (h2 : r ≤ 127) (hown : w.ownsRow B 5 1 v n xs) (hB : B ≤ w.heap.size) (hlen : n ≤ 10000000) :
  Calls Tryz.prog 81 #[v, .int .i32 r] w fun e w' => ∃ v', e = .returned v' ∧ w'.ownsRow B 5 1 v' (n + 1) (xs ++ [.int .u8 (r)]) ∧ Below B w w' := by
 obtain ⟨j0, hj, hy0, hy1, hy2⟩ := info_parts info_u8
 have hw : widthI r = 1 := by unfold widthI; omega
 have hb := Below.refl B w
 go_enter Tryz.func81, Tryz.ntmps81
 go_wp2_with (first | (go_at_call 68; refine (width_any _ _).mono ?_; rintro e w1 ⟨rfl, rfl⟩) | (at_builtin; refine wpList_append_rd rfl _ _ 34 rfl B 5 j0 (.int .u8 0) 1 Tryz.underlying34 hj hy0 hy1 hy2 rfl _ _ _ rfl (hown.alloc _) _ 1 1 [.int .u8 (r)] rfl reads_one (by simp [Value.oneCell']) (by unfold maxLen; omega) (by omega) (by have hs1 := hb.size; simp only [World.size_alloc]; omega) (by simp) ?_; intro v2 w2 hown2 hgr2 hc2; have hb2 := (hb.alloc (by have hs2 := hb.size; omega) _).trans hc2; clear hc2 hgr2))
 go_ret
 exact ⟨_, rfl, by simpa [Nat.add_assoc, List.append_assoc] using hown2, hb2⟩
set_option maxHeartbeats 1000000 in
theorem put2_any (v : Value) (n : Nat) (xs : List Value) (B : Nat) (r : Int) (w : World) (h1 : 128 ≤ r) (h2 : r ≤ 2047) (hown : w.ownsRow B 5 1 v n xs) (hB : B ≤ w.heap.size) (hlen : n ≤ 10000000) :
  Calls Tryz.prog 81 #[v, .int .i32 r] w fun e w' => ∃ v', e = .returned v' ∧ w'.ownsRow B 5 1 v' (n + 2) (xs ++ [.int .u8 (192 + r / 64), .int .u8 (128 + r % 64)]) ∧ Below B w w' := by
 obtain ⟨j0, hj, hy0, hy1, hy2⟩ := info_parts info_u8
 have hw : widthI r = 2 := by unfold widthI; omega
 have hb := Below.refl B w
 go_enter Tryz.func81, Tryz.ntmps81
 go_wp2_with (first | (go_at_call 68; refine (width_any _ _).mono ?_; rintro e w1 ⟨rfl, rfl⟩) | (at_builtin; refine wpList_append_rd rfl _ _ 34 rfl B 5 j0 (.int .u8 0) 1 Tryz.underlying34 hj hy0 hy1 hy2 rfl _ _ _ rfl (hown.alloc _) _ 1 1 [.int .u8 (192 + r / 64)] rfl reads_one (by simp [Value.oneCell']) (by unfold maxLen; omega) (by omega) (by have hs1 := hb.size; simp only [World.size_alloc]; omega) (by simp) ?_; intro v2 w2 hown2 hgr2 hc2; have hb2 := (hb.alloc (by have hs2 := hb.size; omega) _).trans hc2; clear hc2 hgr2))
 refine wp_loop_rounds 2 ?_
 rw [rounds_succ]
 go_wp2_with (at_builtin; refine wpList_append_rd rfl _ _ 34 rfl B 5 j0 (.int .u8 0) 1 Tryz.underlying34 hj hy0 hy1 hy2 rfl _ _ _ rfl (hown2.alloc _) _ 1 1 [.int .u8 (128 + r % 64)] rfl reads_one (by simp [Value.oneCell']) (by unfold maxLen; omega) (by omega) (by have hs1 := hb2.size; simp only [World.size_alloc]; omega) (by simp) ?_; intro v3 w3 hown3 hgr3 hc3; have hb3 := (hb2.alloc (by have hs2 := hb2.size; omega) _).trans hc3; clear hc3 hgr3)
 rw [rounds_succ]
 go_wp2
 go_ret
 exact ⟨_, rfl, by simpa [Nat.add_assoc, List.append_assoc] using hown3, hb3⟩
set_option maxHeartbeats 1000000 in
theorem put3_any (v : Value) (n : Nat) (xs : List Value) (B : Nat) (r : Int) (w : World) (h1 : 2048 ≤ r) (h2 : r ≤ 65535) (hown : w.ownsRow B 5 1 v n xs) (hB : B ≤ w.heap.size) (hlen : n ≤ 10000000) :
  Calls Tryz.prog 81 #[v, .int .i32 r] w fun e w' => ∃ v', e = .returned v' ∧ w'.ownsRow B 5 1 v' (n + 3) (xs ++ [.int .u8 (224 + r / 4096), .int .u8 (128 + r / 64 % 64), .int .u8 (128 + r % 64)]) ∧ Below B w w' := by
 obtain ⟨j0, hj, hy0, hy1, hy2⟩ := info_parts info_u8
 have hw : widthI r = 3 := by unfold widthI; omega
 have hb := Below.refl B w
 go_enter Tryz.func81, Tryz.ntmps81
 go_wp2_with (first | (go_at_call 68; refine (width_any _ _).mono ?_; rintro e w1 ⟨rfl, rfl⟩) | (at_builtin; refine wpList_append_rd rfl _ _ 34 rfl B 5 j0 (.int .u8 0) 1 Tryz.underlying34 hj hy0 hy1 hy2 rfl _ _ _ rfl (hown.alloc _) _ 1 1 [.int .u8 (224 + r / 4096)] rfl reads_one (by simp [Value.oneCell']) (by unfold maxLen; omega) (by omega) (by have hs1 := hb.size; simp only [World.size_alloc]; omega) (by simp) ?_; intro v2 w2 hown2 hgr2 hc2; have hb2 := (hb.alloc (by have hs2 := hb.size; omega) _).trans hc2; clear hc2 hgr2))
 refine wp_loop_rounds 3 ?_
 rw [rounds_succ]
 go_wp2_with (at_builtin; refine wpList_append_rd rfl _ _ 34 rfl B 5 j0 (.int .u8 0) 1 Tryz.underlying34 hj hy0 hy1 hy2 rfl _ _ _ rfl (hown2.alloc _) _ 1 1 [.int .u8 (128 + r / 64 % 64)] rfl reads_one (by simp [Value.oneCell']) (by unfold maxLen; omega) (by omega) (by have hs1 := hb2.size; simp only [World.size_alloc]; omega) (by simp) ?_; intro v3 w3 hown3 hgr3 hc3; have hb3 := (hb2.alloc (by have hs2 := hb2.size; omega) _).trans hc3; clear hc3 hgr3)
 rw [rounds_succ]
 go_wp2_with (at_builtin; refine wpList_append_rd rfl _ _ 34 rfl B 5 j0 (.int .u8 0) 1 Tryz.underlying34 hj hy0 hy1 hy2 rfl _ _ _ rfl (hown3.alloc _) _ 1 1 [.int .u8 (128 + r % 64)] rfl reads_one (by simp [Value.oneCell']) (by unfold maxLen; omega) (by omega) (by have hs1 := hb3.size; simp only [World.size_alloc]; omega) (by simp) ?_; intro v4 w4 hown4 hgr4 hc4; have hb4 := (hb3.alloc (by have hs2 := hb3.size; omega) _).trans hc4; clear hc4 hgr4)
 rw [rounds_succ]
 go_wp2
 go_ret
 exact ⟨_, rfl, by simpa [Nat.add_assoc, List.append_assoc] using hown4, hb4⟩
set_option maxHeartbeats 1000000 in
theorem put4_any (v : Value) (n : Nat) (xs : List Value) (B : Nat) (r : Int) (w : World) (h1 : 65536 ≤ r) (h2 : r ≤ 1114111) (hown : w.ownsRow B 5 1 v n xs) (hB : B ≤ w.heap.size) (hlen : n ≤ 10000000) :
  Calls Tryz.prog 81 #[v, .int .i32 r] w fun e w' => ∃ v', e = .returned v' ∧ w'.ownsRow B 5 1 v' (n + 4) (xs ++ [.int .u8 (240 + r / 262144), .int .u8 (128 + r / 4096 % 64), .int .u8 (128 + r / 64 % 64), .int .u8 (128 + r % 64)]) ∧ Below B w w' := by
 obtain ⟨j0, hj, hy0, hy1, hy2⟩ := info_parts info_u8
 have hw : widthI r = 4 := by unfold widthI; omega
 have hb := Below.refl B w
 go_enter Tryz.func81, Tryz.ntmps81
 go_wp2_with (first | (go_at_call 68; refine (width_any _ _).mono ?_; rintro e w1 ⟨rfl, rfl⟩) | (at_builtin; refine wpList_append_rd rfl _ _ 34 rfl B 5 j0 (.int .u8 0) 1 Tryz.underlying34 hj hy0 hy1 hy2 rfl _ _ _ rfl (hown.alloc _) _ 1 1 [.int .u8 (240 + r / 262144)] rfl reads_one (by simp [Value.oneCell']) (by unfold maxLen; omega) (by omega) (by have hs1 := hb.size; simp only [World.size_alloc]; omega) (by simp) ?_; intro v2 w2 hown2 hgr2 hc2; have hb2 := (hb.alloc (by have hs2 := hb.size; omega) _).trans hc2; clear hc2 hgr2))
 refine wp_loop_rounds 4 ?_
 rw [rounds_succ]
 go_wp2_with (at_builtin; refine wpList_append_rd rfl _ _ 34 rfl B 5 j0 (.int .u8 0) 1 Tryz.underlying34 hj hy0 hy1 hy2 rfl _ _ _ rfl (hown2.alloc _) _ 1 1 [.int .u8 (128 + r / 4096 % 64)] rfl reads_one (by simp [Value.oneCell']) (by unfold maxLen; omega) (by omega) (by have hs1 := hb2.size; simp only [World.size_alloc]; omega) (by simp) ?_; intro v3 w3 hown3 hgr3 hc3; have hb3 := (hb2.alloc (by have hs2 := hb2.size; omega) _).trans hc3; clear hc3 hgr3)
 rw [rounds_succ]
 go_wp2_with (at_builtin; refine wpList_append_rd rfl _ _ 34 rfl B 5 j0 (.int .u8 0) 1 Tryz.underlying34 hj hy0 hy1 hy2 rfl _ _ _ rfl (hown3.alloc _) _ 1 1 [.int .u8 (128 + r / 64 % 64)] rfl reads_one (by simp [Value.oneCell']) (by unfold maxLen; omega) (by omega) (by have hs1 := hb3.size; simp only [World.size_alloc]; omega) (by simp) ?_; intro v4 w4 hown4 hgr4 hc4; have hb4 := (hb3.alloc (by have hs2 := hb3.size; omega) _).trans hc4; clear hc4 hgr4)
 rw [rounds_succ]
 go_wp2_with (at_builtin; refine wpList_append_rd rfl _ _ 34 rfl B 5 j0 (.int .u8 0) 1 Tryz.underlying34 hj hy0 hy1 hy2 rfl _ _ _ rfl (hown4.alloc _) _ 1 1 [.int .u8 (128 + r % 64)] rfl reads_one (by simp [Value.oneCell']) (by unfold maxLen; omega) (by omega) (by have hs1 := hb4.size; simp only [World.size_alloc]; omega) (by simp) ?_; intro v5 w5 hown5 hgr5 hc5; have hb5 := (hb4.alloc (by have hs2 := hb4.size; omega) _).trans hc5; clear hc5 hgr5)
 rw [rounds_succ]
 go_wp2
 go_ret
 exact ⟨_, rfl, by simpa [Nat.add_assoc, List.append_assoc] using hown5, hb5⟩

theorem put_any (v : Value) (n : Nat) (xs : List Value) (B : Nat) (r : Int) (w : World) (h1 : 0 ≤ r) (h2 : r ≤ 1114111) (hown : w.ownsRow B 5 1 v n xs) (hB : B ≤ w.heap.size) (hlen : n ≤ 10000000) :
    Calls Tryz.prog 81 #[v, .int .i32 r] w fun e w' => ∃ v', e = .returned v' ∧ w'.ownsRow B 5 1 v' (n + (encI r).length) (xs ++ (encI r).map (Value.int .u8)) ∧ Below B w w' := by
  by_cases a : r ≤ 127
  · rw [show encI r = [r] by rw [encI, if_pos (by omega)]]
    exact put1_any v n xs B r w h1 a hown hB hlen
  by_cases b : r ≤ 2047
  · rw [show encI r = [192 + r / 64, 128 + r % 64] by rw [encI, if_neg (by omega), if_pos (by omega)]]
    exact put2_any v n xs B r w (by omega) b hown hB hlen
  by_cases c : r ≤ 65535
  · rw [show encI r = [224 + r / 4096, 128 + r / 64 % 64, 128 + r % 64] by rw [encI, if_neg (by omega), if_neg (by omega), if_pos (by omega)]]
    exact put3_any v n xs B r w (by omega) c hown hB hlen
  · rw [show encI r = [240 + r / 262144, 128 + r / 4096 % 64, 128 + r / 64 % 64, 128 + r % 64] by rw [encI, if_neg (by omega), if_neg (by omega), if_neg (by omega)]]
    exact put4_any v n xs B r w (by omega) h2 hown hB hlen

theorem one_any (r : Int) (w : World) (h1 : 0 ≤ r) (h2 : r ≤ 1114111) :
    Calls Tryz.prog 77 #[.int .i32 r] w fun e w' => ∃ x, e = .returned (.slice (some ⟨x, 0, none⟩) (encI r).length (encI r).length) ∧ Below w.heap.size w w' ∧ Reads w' (some ⟨x, 0, none⟩) (encI r).length ((encI r).map (Value.int .u8)) := by
  by_cases a1 : r ≤ 127
  · rw [show encI r = [r] by rw [encI, if_pos (by omega)]]
    refine (one1_any r w (by omega) (by omega)).mono ?_
    rintro e w1 ⟨rfl, hb, n0⟩
    refine ⟨_, rfl, hb, by simp, fun j hj => ⟨_, _, rfl, ?_⟩⟩
    simp only [List.length_cons, List.length_nil, Nat.zero_add] at hj
    have hc : j = 0 := by omega
    rcases hc with rfl
    · rw [n0]; rfl
  by_cases a2 : r ≤ 2047
  · rw [show encI r = [192 + r / 64, 128 + r % 64] by rw [encI, if_neg (by omega), if_pos (by omega)]]
    refine (one2_any r w (by omega) (by omega)).mono ?_
    rintro e w1 ⟨rfl, hb, n0, n1⟩
    refine ⟨_, rfl, hb, by simp, fun j hj => ⟨_, _, rfl, ?_⟩⟩
    simp only [List.length_cons, List.length_nil, Nat.zero_add] at hj
    have hc : j = 0 ∨ j = 1 := by omega
    rcases hc with rfl | rfl
    · rw [n0]; rfl
    · rw [n1]; rfl
  by_cases a3 : r ≤ 65535
  · rw [show encI r = [224 + r / 4096, 128 + r / 64 % 64, 128 + r % 64] by rw [encI, if_neg (by omega), if_neg (by omega), if_pos (by omega)]]
    refine (one3_any r w (by omega) (by omega)).mono ?_
    rintro e w1 ⟨rfl, hb, n0, n1, n2⟩
    refine ⟨_, rfl, hb, by simp, fun j hj => ⟨_, _, rfl, ?_⟩⟩
    simp only [List.length_cons, List.length_nil, Nat.zero_add] at hj
    have hc : j = 0 ∨ j = 1 ∨ j = 2 := by omega
    rcases hc with rfl | rfl | rfl
    · rw [n0]; rfl
    · rw [n1]; rfl
    · rw [n2]; rfl
  rw [show encI r = [240 + r / 262144, 128 + r / 4096 % 64, 128 + r / 64 % 64, 128 + r % 64] by rw [encI, if_neg (by omega), if_neg (by omega), if_neg (by omega)]]
  refine (one4_any r w (by omega) (by omega)).mono ?_
  rintro e w1 ⟨rfl, hb, n0, n1, n2, n3⟩
  refine ⟨_, rfl, hb, by simp, fun j hj => ⟨_, _, rfl, ?_⟩⟩
  simp only [List.length_cons, List.length_nil, Nat.zero_add] at hj
  have hc : j = 0 ∨ j = 1 ∨ j = 2 ∨ j = 3 := by omega
  rcases hc with rfl | rfl | rfl | rfl
  · rw [n0]; rfl
  · rw [n1]; rfl
  · rw [n2]; rfl
  · rw [n3]; rfl

def encS : List Int → Option (List Int)
 | [] => some []
 | r :: t => if isRuneB r then (encS t).map (encI r ++ ·) else none

def EncPost (B : Nat) (w : World) (l : List Int) (e : Ending) (w' : World) : Prop :=
 ∃ v c, e = .returned (.tuple #[v, .int .i64 c]) ∧ Below B w w' ∧
  ((∃ bs, encS l = some bs ∧ c = 0 ∧ bs.length ≤ 4 * l.length ∧ Bytes bs ∧ w'.ownsRow B 5 1 v bs.length (bs.map (Value.int .u8))) ∨ (encS l = none ∧ c = 2 ∧ v = .slice none 0 0))

theorem encS_snoc (l : List Int) (r : Int) (bs : List Int) (h : encS l = some bs) : encS (l ++ [r]) = if isRuneB r then some (bs ++ encI r) else none := by
  induction l generalizing bs with
  | nil =>
    cases h
    simp only [List.nil_append, encS]
    split <;> simp
  | cons x t ih =>
    simp only [encS, List.cons_append] at h ⊢
    split at h
    · rename_i hx
      rw [if_pos hx]
      cases ht : encS t with
      | none => rw [ht] at h; cases h
      | some ts =>
        rw [ht] at h
        cases h
        rw [ih ts ht]
        split <;> simp
    · cases h
theorem encS_none (l t : List Int) (r : Int) (h : isRuneB r = false) : encS (l ++ r :: t) = none := by
 induction l with
 | nil => simp [encS, h]
 | cons x l ih =>
  simp only [List.cons_append, encS]
  split
  · rw [ih]; rfl
  · rfl
theorem isRune_range {r : Int} (h : isRuneB r = true) : 0 ≤ r ∧ r ≤ 1114111 := by
 simp [isRuneB] at h
 omega
theorem take_at0 (l : List Int) (k : Nat) (h : k < l.length) : l.take (k + 1) = l.take k ++ [at0 l k] := by
 rw [List.take_add_one, List.getElem?_eq_getElem h, at0_lt h]; rfl
theorem split_at0 (l : List Int) (k : Nat) (h : k < l.length) : l = l.take k ++ at0 l k :: l.drop (k + 1) := by
 rw [at0_lt h]
 simp

set_option maxHeartbeats 1000000 in
theorem encode_any (v : Value) (l : List Int) (w : World) (h : RdI .i32 w v l) (hlen : l.length ≤ 1000000) :
    Calls Tryz.prog 70 #[v] w (EncPost w.heap.size w l) := by
  obtain ⟨j0, hj, hy0, hy1, hy2⟩ := info_parts info_u8
  obtain ⟨a, ca, rfl, hla, hma, ha, -⟩ := h
  unfold maxLen at hma
  have HA := Lib.hid ha; clear ha
  go_enter Tryz.func70, Tryz.ntmps70
  go_wp2
  go_loopw [4, 9] (fun out i wr => ∃ (k : Nat) (bs : List Int), k ≤ l.length ∧ i = .int .i64 k ∧ encS (l.take k) = some bs ∧ bs.length ≤ 4 * k ∧ Bytes bs ∧ wr.ownsRow w.heap.size 5 1 out bs.length (bs.map (Value.int .u8)) ∧ Below w.heap.size w wr) (fun out i _ => l.length - (intOf i).toNat)
  case atStart => exact ⟨0, [], Nat.zero_le _, rfl, rfl, by simp, (by intro x hx; cases hx), World.ownsRow_nil _ _ _ _, Below.refl _ _⟩
  case round =>
    obtain ⟨k, bs, hk, rfl, henc, hbl, hbb, hown, hbel⟩ := hrel
    have HE := Lib.hid henc; clear henc
    by_cases hlt : k < l.length
    · obtain ⟨x, o, rfl, hc0⟩ := HA.out k hlt
      have hc := (hbel.cell (p := ⟨x, o + k, none⟩) (World.block_lt_of_cell? w _ hc0)).trans hc0
      have hdec : l = l.take k ++ at0 l k :: l.drop (k + 1) := split_at0 l k hlt
      have HD := Lib.hid hdec; clear hdec HA
      by_cases hr : isRuneB (at0 l k) = true
      · obtain ⟨q0, q1⟩ := isRune_range hr
        obtain ⟨q2, q3⟩ := encI_len (at0 l k)
        go_wp2_with (first
          | (go_at_call 67; refine (isRune_any _ _).mono ?_; rintro e w1 ⟨rfl, rfl⟩)
          | (go_at_call 81; refine (put_any _ _ _ _ _ _ q0 q1 hown (by have hs0 := hbel.size; omega) (by omega)).mono ?_; rintro e w2 ⟨v2, rfl, hown2, hb2⟩; have HB := hbel.trans hb2))
        refine ⟨⟨k + 1, bs ++ encI (at0 l k), by omega, by go_num, ?_, by simp; omega, hbb.append (encI_bytes q0 q1), by simpa using hown2, HB⟩, by simp [intOf]; omega⟩
        rw [take_at0 l k hlt, encS_snoc _ _ _ HE.out, if_pos hr]
      · have hr' : isRuneB (at0 l k) = false := by simpa using hr
        clear hr
        go_wp2_with (go_at_call 67; refine (isRune_any _ _).mono ?_; rintro e w1 ⟨rfl, rfl⟩)
        go_ret2
        refine ⟨_, _, rfl, hbel, .inr ⟨?_, rfl, rfl⟩⟩
        rw [HD.out]
        exact encS_none _ _ _ hr'
    · clear HA
      go_wp2
      go_ret2
      refine ⟨_, _, rfl, hbel, .inl ⟨bs, ?_, rfl, by omega, hbb, hown⟩⟩
      have he := HE.out
      rwa [List.take_of_length_le (by omega)] at he
set_option maxHeartbeats 1000000 in
theorem ref_encode_any (v : Value) (l : List Int) (w : World) (h : RdI .i32 w v l) (hlen : l.length ≤ 1000000) :
    Calls Tryz.prog 79 #[v] w (EncPost w.heap.size w l) := by
  obtain ⟨j0, hj, hy0, hy1, hy2⟩ := info_parts info_u8
  obtain ⟨a, ca, rfl, hla, hma, ha, -⟩ := h
  unfold maxLen at hma
  have HA := Lib.hid ha; clear ha
  go_enter Tryz.func79, Tryz.ntmps79
  go_wp2
  go_loopw [4, 5] (fun out i wr => ∃ (k : Nat) (bs : List Int), k ≤ l.length ∧ i = .int .i64 k ∧ encS (l.take k) = some bs ∧ bs.length ≤ 4 * k ∧ Bytes bs ∧ wr.ownsRow w.heap.size 5 1 out bs.length (bs.map (Value.int .u8)) ∧ Below w.heap.size w wr) (fun out i _ => l.length - (intOf i).toNat)
  case atStart => exact ⟨0, [], Nat.zero_le _, rfl, rfl, by simp, (by intro x hx; cases hx), World.ownsRow_nil _ _ _ _, Below.refl _ _⟩
  case round =>
    obtain ⟨k, bs, hk, rfl, henc, hbl, hbb, hown, hbel⟩ := hrel
    have HE := Lib.hid henc; clear henc
    by_cases hlt : k < l.length
    · obtain ⟨x, o, rfl, hc0⟩ := HA.out k hlt
      have hc := (hbel.cell (p := ⟨x, o + k, none⟩) (World.block_lt_of_cell? w _ hc0)).trans hc0
      have hdec : l = l.take k ++ at0 l k :: l.drop (k + 1) := split_at0 l k hlt
      have HD := Lib.hid hdec; clear hdec HA
      by_cases hr : isRuneB (at0 l k) = true
      · obtain ⟨q0, q1⟩ := isRune_range hr
        obtain ⟨q2, q3⟩ := encI_len (at0 l k)
        go_wp2_with (first
          | (go_at_call 76; refine (rune_any _ _).mono ?_; rintro e w1 ⟨rfl, rfl⟩)
          | (go_at_call 77; refine (one_any _ _ q0 q1).mono ?_; rintro e w1 ⟨x1, rfl, hb1, hr1⟩) | (at_builtin; refine wpList_append_rd rfl _ _ 34 rfl w.heap.size 5 j0 (.int .u8 0) 1 Tryz.underlying34 hj hy0 hy1 hy2 rfl _ _ _ rfl (own_below hown hb1) _ _ _ _ rfl hr1 (by simp [Value.oneCell']) (by unfold maxLen; omega) (by omega) (by have hs0 := hbel.size; have hs1 := hb1.size; omega) (by simp) ?_; intro v2 w2 hown2 hgr hc2; have HB := (hbel.trans (hb1.mono hbel.size)).trans hc2))
        refine ⟨⟨k + 1, bs ++ encI (at0 l k), by omega, by go_num, ?_, by simp; omega, hbb.append (encI_bytes q0 q1), by simpa using hown2, HB⟩, by simp [intOf]; omega⟩
        rw [take_at0 l k hlt, encS_snoc _ _ _ HE.out, if_pos hr]
      · have hr' : isRuneB (at0 l k) = false := by simpa using hr
        clear hr
        go_wp2_with (go_at_call 76; refine (rune_any _ _).mono ?_; rintro e w1 ⟨rfl, rfl⟩)
        go_ret2
        refine ⟨_, _, rfl, hbel, .inr ⟨?_, rfl, rfl⟩⟩
        rw [HD.out]
        exact encS_none _ _ _ hr'
    · clear HA
      go_wp2
      go_ret2
      refine ⟨_, _, rfl, hbel, .inl ⟨bs, ?_, rfl, by omega, hbb, hown⟩⟩
      have he := HE.out
      rwa [List.take_of_length_le (by omega)] at he
end Go.Proofs.YtghpdnfdbhjmpaaGreatDoor
