/- A region whose order is drawn, of which one operation writes in place to what stood there ahead of it. No program stands here. Fields of an element of -/
import Derived.Deep.Strs
import Derived.Lib.IndexMore
import Derived.Lib.IndexBytes
import Derived.Lib.IndexLaws
import Derived.Laws.BytesString
import Derived.Test.YtpinidlfcifeeaaWA
namespace Go.Proofs.Ytpinidlfcifeeaa
open Go.RowKit
set_option linter.unusedVariables false
set_option linter.unusedSimpArgs false
set_option maxRecDepth 8000
set_option maxHeartbeats 2000000

section
variable {P : Program} {ops : Array Oper} {md : Region.Mode}
theorem wpAny_factsD {Q : Exit → Act → World → Prop} (hb : ordB md ops = true) (a : Act) (G : (Nat → Bool) → World → Prop) (F : Facts) (R : Nat → (Nat → Value) → World → World → Prop)
    (hF : ∀ i f w w' j g, R i f w w' → j ≠ i → i ∉ depsAt md ops j → F j g w → F j g w')
    (hstep : ∀ i o, ops[i]? = some o → ∀ L f w, L i = false → (∀ j, i ∈ depsAt md ops j → L j = false) → G L w → (∀ j ∈ depsOf md o, F j (restr f (j :: depsAt md ops j)) w) →
      Does P ops o (putDeps ops f (depsOf md o) a) w fun v w' => R i (restr f (depsOf md o)) w w' ∧ G (upd L i true) w' ∧ F i (restr (upd f i v) (i :: depsOf md o)) w')
    (hend : ∀ L f w, (∀ j, L j = decide (j < ops.size)) → G L w → (∀ j, j < ops.size → F j (restr f (j :: depsAt md ops j)) w) → Q .normal (putDeps ops f (List.range ops.size) a) w) :
    ∀ (fuel : Nat) (listed : Array Bool) (f : Nat → Value) (a' : Act) (w : World), listed.size = ops.size → (listed.toList.countP (fun b => !b) ≤ fuel) →
      (∀ j, listed.getD j false = true → ∀ k ∈ depsAt md ops j, listed.getD k false = true) →
      Agrees ops (fun j => listed.getD j false = true) f a a' → G (fun j => listed.getD j false) w → (∀ j, listed.getD j false = true → F j (restr f (j :: depsAt md ops j)) w) → wpAny P md ops Q fuel listed a' w := by
  have ho := ordB_own hb
  have fin : ∀ (listed : Array Bool) (f : Nat → Value) (a' : Act) (w : World), listed.size = ops.size → Region.ready md ops listed = [] →
      Agrees ops (fun j => listed.getD j false = true) f a a' → G (fun j => listed.getD j false) w → (∀ j, listed.getD j false = true → F j (restr f (j :: depsAt md ops j)) w) → Q .normal a' w := by
    intro listed f a' w hsz hr hag hg hf
    have hl := all_listed hb hsz hr
    have hout : ∀ j, listed.getD j false = true → j < ops.size := by
      intro j h
      rcases Nat.lt_or_ge j ops.size with h' | h'
      · exact h'
      · simp [Array.getElem?_eq_none (by omega : listed.size ≤ j)] at h
    have e : a' = putDeps ops f (List.range ops.size) a := by
      refine hag.unique ((Agrees.of ho f a (List.range ops.size)).congr (fun j => ?_) (fun _ _ => rfl))
      rw [List.mem_range]
      exact ⟨hl j, hout j⟩
    rw [e]
    refine hend _ f w (fun j => ?_) hg fun j hj => hf j (hl j hj)
    by_cases hj : j < ops.size
    · rw [hl j hj]; simp [hj]
    · have : ¬ listed.getD j false = true := fun h => hj (hout j h)
      rw [Bool.not_eq_true] at this
      rw [this]; simp [hj]
  intro fuel
  induction fuel with
  | zero =>
    intro listed f a' w hsz hc hcl hag hg hf
    have hr : Region.ready md ops listed = [] := by
      rw [List.eq_nil_iff_forall_not_mem]
      intro j hj
      obtain ⟨h0, o, hoj, _⟩ := mem_ready.1 hj
      have hjs : j < ops.size := (Array.getElem?_eq_some_iff.1 hoj).1
      have hc0 : listed.toList.countP (fun b => !b) = 0 := by omega
      rw [List.countP_eq_zero] at hc0
      have h1 := hc0 listed[j] (by simp)
      rw [Array.getD_eq_getD_getElem?, Array.getElem?_eq_getElem (by omega)] at h0
      simp only [Option.getD_some] at h0
      rw [h0] at h1
      exact h1 rfl
    exact ⟨hr, fin listed f a' w hsz hr hag hg hf⟩
  | succ fuel ih =>
    intro listed f a' w hsz hc hcl hag hg hf
    refine ⟨fun hr => fin listed f a' w hsz hr hag hg hf, fun i hi => ?_⟩
    obtain ⟨h0, o, hoi, hdep⟩ := mem_ready.1 hi
    have his : i < ops.size := (Array.getElem?_eq_some_iff.1 hoi).1
    obtain ⟨hsel, hlt, hlook⟩ := ordB_deps hb hoi
    have hdl : ∀ j ∈ depsOf md o, listed.getD j false = true := by
      intro j hj
      obtain ⟨e, he, rfl⟩ := List.mem_map.1 hj
      obtain ⟨he1, he2⟩ := List.mem_filter.1 he
      exact hdep e (by simpa using he1) he2
    have hun : ¬ listed.getD i false = true := by
      intro h
      rw [Array.getD_eq_getD_getElem?, Array.getElem?_eq_getElem (by omega)] at h0 h
      simp only [Option.getD_some] at h0 h
      rw [h0] at h
      cases h
    have hA := Agrees.of ho f a (depsOf md o)
    have hdst : o.dst = dstAt ops i := by simp [dstAt, hoi]
    have hset : ∀ j, (listed.setIfInBounds i true).getD j false = upd (fun j => listed.getD j false) i true j := by
      intro j
      unfold upd
      by_cases e : j = i
      · subst e
        simp [Array.getD_eq_getD_getElem?, hsz, his]
      · rw [getD_set_ne false (fun h => e h.symm), if_neg e]
    refine Does.wpOp hoi hsel (a := putDeps ops f (depsOf md o) a) (by rw [hag.size, hA.size]) (fun t ht => ?_)
      (hstep i o hoi (fun j => listed.getD j false) f w (by simpa using hun) (fun j hj => by
        rw [← Bool.not_eq_true]
        exact fun h => hun (hcl j h i hj)) hg fun j hj => hf j (hdl j hj)) fun v w' hR => ?_
    · by_cases hts : t < a.tmps.size
      · by_cases e : ∃ j, dstAt ops j = some t
        · obtain ⟨j, hd⟩ := e
          have hj' : j < ops.size := by
            rcases Nat.lt_or_ge j ops.size with h | h
            · exact h
            · simp [dstAt, Array.getElem?_eq_none h] at hd
          have hl := hlook j t hj' hd
          by_cases hjd : j ∈ depsOf md o
          · rw [hag.put j t (hdl j hjd) hd hts, hA.put j t hjd hd hts]
          · have hjl : ¬ listed.getD j false = true := by
              intro hjl
              rcases hl.1 ht with h | h | h
              · exact hun (h ▸ hjl)
              · exact hjd h
              · exact hun (hcl j hjl i h)
            rw [hag.same t (fun k hk hkd => hjl (ho k j t hkd hd ▸ hk)), hA.same t (fun k hk hkd => hjd (ho k j t hkd hd ▸ hk))]
        · have hn : ∀ j, dstAt ops j ≠ some t := fun j hj => e ⟨j, hj⟩
          rw [hag.same t (fun j _ => hn j), hA.same t (fun j _ => hn j)]
      · rw [Array.getElem?_eq_none (by rw [hag.size]; exact Nat.le_of_not_lt hts), Array.getElem?_eq_none (by rw [hA.size]; exact Nat.le_of_not_lt hts)]
    · obtain ⟨hR1, hR3, hR2⟩ := hR
      have hset' : ∀ j, (listed.setIfInBounds i true).getD j false = true ↔ (j = i ∨ listed.getD j false = true) := by
        intro j
        rw [hset j]
        unfold upd
        by_cases e : j = i <;> simp [e]
      rw [hdst]
      refine ih (listed.setIfInBounds i true) (upd f i v) _ w' (by simp [hsz]) ?_ ?_ ?_ (by rw [show (fun j => (listed.setIfInBounds i true).getD j false) = upd (fun j => listed.getD j false) i true from funext hset]; exact hR3) ?_
      · have hc2 : (listed.setIfInBounds i true).toList.countP (fun b => !b) + 1 ≤ listed.toList.countP (fun b => !b) := by
          rw [Array.toList_setIfInBounds]
          have hlen : i < listed.toList.length := by simpa [hsz] using his
          have hli : listed.toList[i] = false := by
            rw [Array.getD_eq_getD_getElem?, Array.getElem?_eq_getElem (by omega)] at h0
            simpa using h0
          rw [List.countP_set hlen, hli]
          have : 0 < listed.toList.countP (fun b => !b) := List.countP_pos_iff.2 ⟨false, by rw [← hli]; exact List.getElem_mem _, rfl⟩
          simp only [Bool.not_false, Bool.not_true, if_true, Bool.false_eq_true, if_false]
          omega
        omega
      · intro j hj k hk
        rw [hset'] at hj ⊢
        rcases hj with rfl | hj
        · rw [depsAt_eq hoi] at hk
          exact .inr (hdl k hk)
        · exact .inr (hcl j hj k hk)
      · exact hag.step ho i v hset' (fun j hji _ => by simp [upd, hji]) (by simp [upd])
      · intro j hj
        rw [hset'] at hj
        by_cases e : j = i
        · subst e
          rw [depsAt_eq hoi]
          exact hR2
        · have hjl := hj.resolve_left e
          have hnc : (j :: depsAt md ops j).contains i = false := by
            rw [← Bool.not_eq_true, List.contains_iff_mem, List.mem_cons]
            rintro (h | h)
            · exact e h.symm
            · exact hun (hcl j hjl i h)
          rw [restr_upd hnc]
          exact hF i _ w w' j _ hR1 e (fun h => hun (hcl j hjl i h)) (hf j hjl)
end
def DStepsG (P : Program) (ops : Array Oper) (N : Nat) (G : Bool → World → Prop) (sd : List (Option Tmp × VS)) (dl : List (List Nat)) (f : Fl) (s : Nat) (rel : World → World → Prop) : Nat → List Oper → Prop
 | _, [] => True
 | k, o :: l => (∀ d W, G d W → (k = s → d = false) → DStep P ops o N W sd (fun v W' => (if k = s then rel W W' ∧ G true W' else Below W.heap.size W W') ∧ okAt sd k v W') ((dl[k]?).getD []) f) ∧ DStepsG P ops N G sd dl f s rel (k + 1) l
section
variable {P : Program} {N : Nat} {sd : List (Option Tmp × VS)} {dl : List (List Nat)} {G : Bool → World → Prop}
theorem DStepsG.cons {ops : Array Oper} {f : Fl} {k s : Nat} {rel : World → World → Prop} {o : Oper} {l : List Oper} (hk : k ≠ s) (h : ∀ d W, G d W → DStep P ops o N W sd (fun v W' => Below W.heap.size W W' ∧ okAt sd k v W') ((dl[k]?).getD []) f) (hl : DStepsG P ops N G sd dl f s rel (k + 1) l) : DStepsG P ops N G sd dl f s rel k (o :: l) := ⟨by simp only [if_neg hk]; exact fun d W hG _ => h d W hG, hl⟩
theorem DStepsG.hit {ops : Array Oper} {f : Fl} {s : Nat} {rel : World → World → Prop} {o : Oper} {l : List Oper} (h : ∀ W, G false W → DStep P ops o N W sd (fun v W' => (rel W W' ∧ G true W') ∧ okAt sd s v W') ((dl[s]?).getD []) f) (hl : DStepsG P ops N G sd dl f s rel (s + 1) l) : DStepsG P ops N G sd dl f s rel s (o :: l) := ⟨by simp only [if_true]; exact fun d W hG hd => by cases hd trivial; exact h W hG, hl⟩
end
theorem Blk.chg {w w' : World} {B C : Nat} {cs : List Value} (h : Blk w C cs) (g : Chg B w w') (hn : C ≠ B) : Blk w' C cs := by
 obtain ⟨t, h'⟩ := h
 exact ⟨t, by rw [g.block C (Blk.lt ⟨t, h'⟩) hn]; exact h'⟩
theorem Chg.of_below {B : Nat} {w w' : World} (h : Below w.heap.size w w') : Chg B w w' := ⟨h.os, h.tape, h.output, h.size, fun k hk _ => h.block k hk⟩
theorem NewS.chg {s base B : Nat} {rs : List (List Value)} {u : Value} {w w' : World} (h : NewS s base rs u w) (g : Chg B w w') (hB : B < base) : NewS s base rs u w' := by
  rcases h with h | ⟨C, sp, h1, h2, h3, h4⟩
  · exact .inl h
  · obtain ⟨q1, q2, q3, q4⟩ := h3
    exact .inr ⟨C, sp, h1, h2, ⟨q1, q2, q3, q4.chg g (by omega)⟩, h4⟩
def SinceB (w1 : World) (L : List Nat) (w : World) : Prop := Below w1.heap.size w1 w
theorem SinceB.below {w1 w w' : World} {L : List Nat} (h : SinceB w1 L w) (hb : Below w.heap.size w w') : SinceB w1 L w' := Below.trans h (hb.mono (Below.size h))
theorem SinceB.more {w1 w w' : World} {L : List Nat} (h : SinceB w1 L w) (hb : Below w.heap.size w w') {B : Nat} (hB : w.heap.size ≤ B) : SinceB w1 (B :: L) w' := h.below hb
theorem SinceB.less {w1 w : World} {L L' : List Nat} (h : SinceB w1 L w) (hl : ∀ x, x ∈ L' → x ∈ L) : SinceB w1 L' w := h
section
variable {P : Program} {ops : Array Oper} {o : Oper} {N : Nat} {f : Fl} {w : World}
theorem dv_Fz {p : Prop} [Decidable p] (h : DV P ops o N f w (.bool (!decide p))) (hp : p) : DV P ops o N f w (.bool false) := by rw [decide_eq_true hp] at h; exact h
theorem dv_N {p : Prop} [Decidable p] (h : DV P ops o N f w (.bool (decide p))) (hp : ¬ p) : DV P ops o N f w (.bool false) := by rwa [decide_eq_false hp] at h
theorem dx_nilCheck {x : Operand} {a : Addr} (ho : o.op = .nilCheck x) (hx : ev f x = some (.pointer (some a))) (hw : wantF ops o f = some true := by rfl) : DV P ops o N f w (.pointer (some a)) := fun k ha => by
 have hx := ha.ev hx
 exact Does.pure (wantF_of ha hw) _ (by unfold execOp; simp [ho, hx, Sem.run_bind, Sem.run_pure]) ⟨rfl, rfl⟩
end
end Go.Proofs.Ytpinidlfcifeeaa
namespace Go.Proofs.Ytpinidlfcifeeaa
set_option linter.unusedVariables false
set_option maxRecDepth 8000
theorem ty_one_3 : oneB Try.prog 3 = true := by kernel_rfl
theorem ty_size_3_1 : sizeB Try.prog 3 1 = true := by kernel_rfl
theorem ty_one_9 : oneB Try.prog 9 = true := by kernel_rfl
theorem ty_one_23 : oneB Try.prog 23 = true := by kernel_rfl
theorem ty_size_23_1 : sizeB Try.prog 23 1 = true := by kernel_rfl
theorem ty_slice_23 : sliceB Try.prog 23 1 = true := by kernel_rfl
theorem ty_ap_23 : apB Try.prog 23 1 16 = true := by kernel_rfl
theorem ty_one_24 : oneB Try.prog 24 = true := by kernel_rfl
theorem ty_size_24_1 : sizeB Try.prog 24 1 = true := by kernel_rfl
theorem ty_slice_24 : sliceB Try.prog 24 5 = true := by kernel_rfl
theorem ty_ap_24 : apB Try.prog 24 5 80 = true := by kernel_rfl
theorem ty_agg_26_5 : aggB Try.prog 26 5 = true := by kernel_rfl
theorem ty_size_26_5 : sizeB Try.prog 26 5 = true := by kernel_rfl
theorem ty_fld_26_0_0 : fldB Try.prog 26 0 0 = true := by kernel_rfl
theorem ty_fld_26_1_1 : fldB Try.prog 26 1 1 = true := by kernel_rfl
theorem ty_fld_26_2_2 : fldB Try.prog 26 2 2 = true := by kernel_rfl
theorem ty_fld_26_3_3 : fldB Try.prog 26 3 3 = true := by kernel_rfl
theorem ty_fld_26_4_4 : fldB Try.prog 26 4 4 = true := by kernel_rfl
theorem ty_zero_26 : (Try.prog.info? 26).bind (·.zero) = some (.agg #[.int .i64 0, .int .i64 0, .string ⟨#[]⟩, .slice none 0 0, .slice none 0 0]) := by kernel_rfl
theorem ty_ap_50 : apB Try.prog 50 1 1 = true := by kernel_rfl
theorem ty_fld_53_0_0 : fldB Try.prog 53 0 0 = true := by kernel_rfl
theorem ty_fld_53_1_1 : fldB Try.prog 53 1 1 = true := by kernel_rfl
theorem ty_fld_55_0_0 : fldB Try.prog 55 0 0 = true := by kernel_rfl
theorem ty_fld_55_1_2 : fldB Try.prog 55 1 2 = true := by kernel_rfl
theorem ty_ap_86 : apB Try.prog 86 1 4 = true := by kernel_rfl
end Go.Proofs.Ytpinidlfcifeeaa
--@optional
namespace Go.Proofs.Ytpinidlfcifeeaa
open Go.RowKit
set_option linter.unusedVariables false
set_option maxRecDepth 8000

theorem info_u8 : (Try.prog.info? 5).map (fun i => (i.zero, i.size, i.bytes)) = some (some (.int .u8 0), 1, 1) := by kernel_rfl

end Go.Proofs.Ytpinidlfcifeeaa
namespace Go.Proofs.Ytpinidlfcifeeaa
open Go.RowKit
set_option linter.unusedVariables false
set_option linter.unusedSimpArgs false
set_option maxRecDepth 8000
set_option maxHeartbeats 2000000

def isRuneB (r : Int) : Bool := decide (0 ≤ r) && decide (r ≤ 1114111) && (decide (r < 55296) || decide (57343 < r))
def widthI (r : Int) : Int := if r ≤ 127 then 1 else if r ≤ 2047 then 2 else if r ≤ 65535 then 3 else 4
def leadR (c : Int) : Int := if c < 128 then c else if c < 192 then 0 else if c < 224 then c - 192 else if c < 240 then c - 224 else if c < 248 then c - 240 else 0
def leadN (c : Int) : Int := if c < 128 then 1 else if c < 192 then 0 else if c < 224 then 2 else if c < 240 then 3 else if c < 248 then 4 else 0

set_option maxHeartbeats 400000 in
theorem isRune_any (r : Int) (w : World) :
  Calls Try.prog 116 #[.int .i32 r] w fun e w' => e = .returned (.bool (isRuneB r)) ∧ w' = w := by
 go_enter Try.func116, Try.ntmps116
 go_wp2
 all_goals go_ret
 all_goals refine ⟨?_, rfl⟩
 all_goals (simp [isRuneB]; omega)
theorem width_any (r : Int) (w : World) :
  Calls Try.prog 117 #[.int .i32 r] w fun e w' => e = .returned (.int .i64 (widthI r)) ∧ w' = w := by
 go_enter Try.func117, Try.ntmps117
 go_wp2
 all_goals go_ret
 all_goals refine ⟨?_, rfl⟩
 all_goals (simp [widthI]; omega)
theorem lead_any (c : Int) (w : World) (h0 : 0 ≤ c) (h1 : c ≤ 255) :
  Calls Try.prog 115 #[.int .u8 c] w fun e w' => e = .returned (.tuple #[.int .i32 (leadR c), .int .i64 (leadN c)]) ∧ w' = w := by
 go_enter Try.func115, Try.ntmps115
 go_wp2
 all_goals go_ret2
 all_goals refine ⟨?_, rfl⟩
 all_goals (simp [leadR, leadN]; omega)
def contB (c : Int) : Bool := decide (128 ≤ c) && decide (c < 192)
def okS (r : Int) (n : Nat) : Option (Int × Nat) := if isRuneB r && widthI r == n then some (r, n) else none
def fstS (l : List Int) : Option (Int × Nat) :=
 if l.length = 0 then none
 else if at0 l 0 < 128 then some (at0 l 0, 1)
 else if at0 l 0 < 192 then none
 else if at0 l 0 < 224 then (if 2 ≤ l.length && contB (at0 l 1) then okS ((at0 l 0 - 192) * 64 + (at0 l 1 - 128)) 2 else none)
 else if at0 l 0 < 240 then (if 3 ≤ l.length && (contB (at0 l 1) && contB (at0 l 2)) then okS (((at0 l 0 - 224) * 64 + (at0 l 1 - 128)) * 64 + (at0 l 2 - 128)) 3 else none)
 else if at0 l 0 < 248 then (if 4 ≤ l.length && (contB (at0 l 1) && (contB (at0 l 2) && contB (at0 l 3))) then okS ((((at0 l 0 - 240) * 64 + (at0 l 1 - 128)) * 64 + (at0 l 2 - 128)) * 64 + (at0 l 3 - 128)) 4 else none)
 else none
def firstV : Option (Int × Nat) → Value
 | some (r, n) => .tuple #[.int .i32 r, .int .i64 n, .int .i64 0]
 | none => .tuple #[.int .i32 0, .int .i64 0, .int .i64 2]

theorem okS_yes {r : Int} {n : Nat} (h : 0 ≤ r ∧ r ≤ 1114111 ∧ (r < 55296 ∨ 57343 < r)) (hw : widthI r = n) : okS r n = some (r, n) := by
 obtain ⟨a, b, c⟩ := h
 rw [okS, if_pos]
 simp [isRuneB, hw, a, b, c]
theorem okS_no {r : Int} {n : Nat} (h : ¬ (0 ≤ r ∧ r ≤ 1114111 ∧ (r < 55296 ∨ 57343 < r)) ∨ widthI r ≠ n) : okS r n = none := by
 rw [okS, if_neg]
 intro hc
 simp [isRuneB] at hc
 omega
theorem mask192 (x : Int) (h0 : 0 ≤ x) (h1 : x ≤ 255) : (bits BinOp.and IntKind.u8 x 192 != 128) = !contB x := by
 have key : ∀ n : Fin 256, (bits BinOp.and IntKind.u8 (n.val : Int) 192 != 128) = !contB (n.val : Int) := by decide +kernel
 have := key ⟨x.toNat, by omega⟩
 simpa [Int.toNat_of_nonneg h0] using this
theorem mask_yes {x : Int} (h0 : 0 ≤ x) (h1 : x ≤ 255) (h : contB x = true) : (bits BinOp.and IntKind.u8 x 192 != 128) = false := by rw [mask192 x h0 h1, h]; rfl
theorem mask_no {x : Int} (h0 : 0 ≤ x) (h1 : x ≤ 255) (h : contB x = false) : (bits BinOp.and IntKind.u8 x 192 != 128) = true := by rw [mask192 x h0 h1, h]; rfl
theorem contB_iff {x : Int} : contB x = true ↔ 128 ≤ x ∧ x < 192 := by simp [contB]
theorem firstV_eq {r r' : Int} {n : Nat} (h : r = r') : Ending.returned (.tuple #[.int .i32 r, .int .i64 n, .int .i64 0]) = .returned (firstV (some (r', n))) := by subst h; rfl
theorem beq_no {a b : Int} (h : a ≠ b) : (a == b) = false := beq_eq_false_iff_ne.2 h
theorem beq_yes {a b : Int} (h : a = b) : (a == b) = true := beq_iff_eq.2 h

set_option maxHeartbeats 2000000 in
theorem first_any (v : Value) (l : List Int) (w : World) (h : RdI .u8 w v l) (hb : Bytes l) :
    Calls Try.prog 84 #[v] w fun e w' => e = .returned (firstV (fstS l)) ∧ Below w.heap.size w w' := by
  obtain ⟨a, ca, rfl, hla, hma, ha, -⟩ := h
  unfold maxLen at hma
  by_cases h0 : l.length = 0
  · have hne : ((l.length : Int) == 0) = true := beq_yes (by omega)
    have HF := Lib.hid (show fstS l = none by simp [fstS, h0])
    clear ha h0
    go_enter Try.func84, Try.ntmps84
    go_wp2
    go_ret3
    exact ⟨by rw [HF.out]; rfl, Below.refl _ _⟩
  have hne : ((l.length : Int) == 0) = false := beq_no (by omega)
  obtain ⟨x, o, rfl, hc⟩ := ha 0 (by omega)
  rw [Nat.add_zero] at hc
  obtain ⟨hz1, hz2⟩ := hb.at 0
  have hpos : 0 < l.length := by omega
  have hcell : ∀ k, k < l.length → w.cell? ⟨x, o + k, none⟩ = some (.int .u8 (at0 l k)) := fun k hk => by
    obtain ⟨x', o', e, h⟩ := ha k hk; cases e; exact h
  have HC := Lib.hid hcell; clear hcell ha
  by_cases c1 : at0 l 0 < 128
  · have HF := Lib.hid (show fstS l = some (at0 l 0, 1) by rw [fstS, if_neg h0, if_pos c1])
    have hr : leadR (at0 l 0) = at0 l 0 := by unfold leadR; omega
    have hn : leadN (at0 l 0) = 1 := by unfold leadN; omega
    go_enter Try.func84, Try.ntmps84
    go_wp2_with (go_at_call 115; refine (lead_any _ _ (by assumption) (by assumption)).mono ?_; rintro e w' ⟨rfl, rfl⟩)
    go_rounds 1
    all_goals go_ret3
    all_goals refine ⟨?_, Below.refl _ _⟩
    all_goals rw [HF.out]
    all_goals rfl
  by_cases c2 : at0 l 0 < 192
  · have HF := Lib.hid (show fstS l = none by rw [fstS, if_neg h0, if_neg c1, if_pos c2])
    have hr : leadR (at0 l 0) = 0 := by unfold leadR; omega
    have hn : leadN (at0 l 0) = 0 := by unfold leadN; omega
    go_enter Try.func84, Try.ntmps84
    go_wp2_with (go_at_call 115; refine (lead_any _ _ (by assumption) (by assumption)).mono ?_; rintro e w' ⟨rfl, rfl⟩)
    all_goals go_ret3
    all_goals refine ⟨?_, Below.refl _ _⟩
    all_goals rw [HF.out]
    all_goals rfl
  by_cases c3 : at0 l 0 < 224
  · have hr : leadR (at0 l 0) = at0 l 0 - 192 := by unfold leadR; omega
    have hn : leadN (at0 l 0) = 2 := by unfold leadN; omega
    by_cases hl : 2 ≤ l.length
    · have HL := Lib.hid hl
      have d1 := HC.out 1 (by omega)
      obtain ⟨e1, f1⟩ := hb.at 1
      have lt1 : 1 < l.length := by omega
      by_cases q1 : contB (at0 l 1) = true
      rotate_left
      · have q1' : contB (at0 l 1) = false := by simpa using q1
        have HF := Lib.hid (show fstS l = none by rw [fstS, if_neg h0, if_neg c1, if_neg c2, if_pos c3]; simp [q1'])
        have m1 := mask_no e1 f1 q1'
        have Q := Lib.hid q1'; clear q1 q1'
        go_enter Try.func84, Try.ntmps84
        go_wp2_with (go_at_call 115; refine (lead_any _ _ (by assumption) (by assumption)).mono ?_; rintro e w' ⟨rfl, rfl⟩)
        go_rounds 2
        all_goals go_ret3
        all_goals refine ⟨?_, Below.refl _ _⟩
        all_goals rw [HF.out]
        all_goals rfl
      have m1 := mask_yes e1 f1 q1
      obtain ⟨g1, i1⟩ := contB_iff.1 q1
      have x1 : at0 l 1 % 64 = at0 l 1 - 128 := by omega
      have HF := Lib.hid (show fstS l = okS ((at0 l 0 - 192) * 64 + (at0 l 1 - 128)) 2 by rw [fstS, if_neg h0, if_neg c1, if_neg c2, if_pos c3]; simp [hl, q1])
      clear q1
      go_enter Try.func84, Try.ntmps84
      go_wp2_with (go_at_call 115; refine (lead_any _ _ (by assumption) (by assumption)).mono ?_; rintro e w' ⟨rfl, rfl⟩)
      go_rounds 2
      all_goals go_ret3
      all_goals refine ⟨?_, Below.refl _ _⟩
      all_goals first
        | (rw [HF.out, okS_yes (by omega) (by unfold widthI; omega)]; exact firstV_eq (by omega))
        | (rw [HF.out, okS_no (by unfold widthI; omega)]; rfl)
        | (exfalso; simp only [Bool.not_eq_true', decide_eq_false_iff_not] at *; omega)
    · have HF := Lib.hid (show fstS l = none by rw [fstS, if_neg h0, if_neg c1, if_neg c2, if_pos c3]; simp [hl])
      go_enter Try.func84, Try.ntmps84
      go_wp2_with (go_at_call 115; refine (lead_any _ _ (by assumption) (by assumption)).mono ?_; rintro e w' ⟨rfl, rfl⟩)
      all_goals go_ret3
      all_goals refine ⟨?_, Below.refl _ _⟩
      all_goals rw [HF.out]
      all_goals rfl
  by_cases c4 : at0 l 0 < 240
  · have hr : leadR (at0 l 0) = at0 l 0 - 224 := by unfold leadR; omega
    have hn : leadN (at0 l 0) = 3 := by unfold leadN; omega
    by_cases hl : 3 ≤ l.length
    · have HL := Lib.hid hl
      have d1 := HC.out 1 (by omega)
      obtain ⟨e1, f1⟩ := hb.at 1
      have lt1 : 1 < l.length := by omega
      have d2 := HC.out 2 (by omega)
      obtain ⟨e2, f2⟩ := hb.at 2
      have lt2 : 2 < l.length := by omega
      by_cases q1 : contB (at0 l 1) = true
      rotate_left
      · have q1' : contB (at0 l 1) = false := by simpa using q1
        have HF := Lib.hid (show fstS l = none by rw [fstS, if_neg h0, if_neg c1, if_neg c2, if_neg c3, if_pos c4]; simp [q1'])
        have m1 := mask_no e1 f1 q1'
        have Q := Lib.hid q1'; clear q1 q1'
        go_enter Try.func84, Try.ntmps84
        go_wp2_with (go_at_call 115; refine (lead_any _ _ (by assumption) (by assumption)).mono ?_; rintro e w' ⟨rfl, rfl⟩)
        go_rounds 3
        all_goals go_ret3
        all_goals refine ⟨?_, Below.refl _ _⟩
        all_goals rw [HF.out]
        all_goals rfl
      have m1 := mask_yes e1 f1 q1
      obtain ⟨g1, i1⟩ := contB_iff.1 q1
      have x1 : at0 l 1 % 64 = at0 l 1 - 128 := by omega
      by_cases q2 : contB (at0 l 2) = true
      rotate_left
      · have q2' : contB (at0 l 2) = false := by simpa using q2
        have HF := Lib.hid (show fstS l = none by rw [fstS, if_neg h0, if_neg c1, if_neg c2, if_neg c3, if_pos c4]; simp [q1, q2'])
        have m2 := mask_no e2 f2 q2'
        have Q := Lib.hid q2'; clear q2 q2'
        go_enter Try.func84, Try.ntmps84
        go_wp2_with (go_at_call 115; refine (lead_any _ _ (by assumption) (by assumption)).mono ?_; rintro e w' ⟨rfl, rfl⟩)
        go_rounds 3
        all_goals go_ret3
        all_goals refine ⟨?_, Below.refl _ _⟩
        all_goals rw [HF.out]
        all_goals rfl
      have m2 := mask_yes e2 f2 q2
      obtain ⟨g2, i2⟩ := contB_iff.1 q2
      have x2 : at0 l 2 % 64 = at0 l 2 - 128 := by omega
      have HF := Lib.hid (show fstS l = okS (((at0 l 0 - 224) * 64 + (at0 l 1 - 128)) * 64 + (at0 l 2 - 128)) 3 by rw [fstS, if_neg h0, if_neg c1, if_neg c2, if_neg c3, if_pos c4]; simp [hl, q1, q2])
      clear q1 q2
      go_enter Try.func84, Try.ntmps84
      go_wp2_with (go_at_call 115; refine (lead_any _ _ (by assumption) (by assumption)).mono ?_; rintro e w' ⟨rfl, rfl⟩)
      go_rounds 3
      all_goals go_ret3
      all_goals refine ⟨?_, Below.refl _ _⟩
      all_goals first
        | (rw [HF.out, okS_yes (by omega) (by unfold widthI; omega)]; exact firstV_eq (by omega))
        | (rw [HF.out, okS_no (by unfold widthI; omega)]; rfl)
        | (exfalso; simp only [Bool.not_eq_true', decide_eq_false_iff_not] at *; omega)
    · have HF := Lib.hid (show fstS l = none by rw [fstS, if_neg h0, if_neg c1, if_neg c2, if_neg c3, if_pos c4]; simp [hl])
      go_enter Try.func84, Try.ntmps84
      go_wp2_with (go_at_call 115; refine (lead_any _ _ (by assumption) (by assumption)).mono ?_; rintro e w' ⟨rfl, rfl⟩)
      all_goals go_ret3
      all_goals refine ⟨?_, Below.refl _ _⟩
      all_goals rw [HF.out]
      all_goals rfl
  by_cases c5 : at0 l 0 < 248
  · have hr : leadR (at0 l 0) = at0 l 0 - 240 := by unfold leadR; omega
    have hn : leadN (at0 l 0) = 4 := by unfold leadN; omega
    by_cases hl : 4 ≤ l.length
    · have HL := Lib.hid hl
      have d1 := HC.out 1 (by omega)
      obtain ⟨e1, f1⟩ := hb.at 1
      have lt1 : 1 < l.length := by omega
      have d2 := HC.out 2 (by omega)
      obtain ⟨e2, f2⟩ := hb.at 2
      have lt2 : 2 < l.length := by omega
      have d3 := HC.out 3 (by omega)
      obtain ⟨e3, f3⟩ := hb.at 3
      have lt3 : 3 < l.length := by omega
      by_cases q1 : contB (at0 l 1) = true
      rotate_left
      · have q1' : contB (at0 l 1) = false := by simpa using q1
        have HF := Lib.hid (show fstS l = none by rw [fstS, if_neg h0, if_neg c1, if_neg c2, if_neg c3, if_neg c4, if_pos c5]; simp [q1'])
        have m1 := mask_no e1 f1 q1'
        have Q := Lib.hid q1'; clear q1 q1'
        go_enter Try.func84, Try.ntmps84
        go_wp2_with (go_at_call 115; refine (lead_any _ _ (by assumption) (by assumption)).mono ?_; rintro e w' ⟨rfl, rfl⟩)
        go_rounds 4
        all_goals go_ret3
        all_goals refine ⟨?_, Below.refl _ _⟩
        all_goals rw [HF.out]
        all_goals rfl
      have m1 := mask_yes e1 f1 q1
      obtain ⟨g1, i1⟩ := contB_iff.1 q1
      have x1 : at0 l 1 % 64 = at0 l 1 - 128 := by omega
      by_cases q2 : contB (at0 l 2) = true
      rotate_left
      · have q2' : contB (at0 l 2) = false := by simpa using q2
        have HF := Lib.hid (show fstS l = none by rw [fstS, if_neg h0, if_neg c1, if_neg c2, if_neg c3, if_neg c4, if_pos c5]; simp [q1, q2'])
        have m2 := mask_no e2 f2 q2'
        have Q := Lib.hid q2'; clear q2 q2'
        go_enter Try.func84, Try.ntmps84
        go_wp2_with (go_at_call 115; refine (lead_any _ _ (by assumption) (by assumption)).mono ?_; rintro e w' ⟨rfl, rfl⟩)
        go_rounds 4
        all_goals go_ret3
        all_goals refine ⟨?_, Below.refl _ _⟩
        all_goals rw [HF.out]
        all_goals rfl
      have m2 := mask_yes e2 f2 q2
      obtain ⟨g2, i2⟩ := contB_iff.1 q2
      have x2 : at0 l 2 % 64 = at0 l 2 - 128 := by omega
      by_cases q3 : contB (at0 l 3) = true
      rotate_left
      · have q3' : contB (at0 l 3) = false := by simpa using q3
        have HF := Lib.hid (show fstS l = none by rw [fstS, if_neg h0, if_neg c1, if_neg c2, if_neg c3, if_neg c4, if_pos c5]; simp [q1, q2, q3'])
        have m3 := mask_no e3 f3 q3'
        have Q := Lib.hid q3'; clear q3 q3'
        go_enter Try.func84, Try.ntmps84
        go_wp2_with (go_at_call 115; refine (lead_any _ _ (by assumption) (by assumption)).mono ?_; rintro e w' ⟨rfl, rfl⟩)
        go_rounds 4
        all_goals go_ret3
        all_goals refine ⟨?_, Below.refl _ _⟩
        all_goals rw [HF.out]
        all_goals rfl
      have m3 := mask_yes e3 f3 q3
      obtain ⟨g3, i3⟩ := contB_iff.1 q3
      have x3 : at0 l 3 % 64 = at0 l 3 - 128 := by omega
      have HF := Lib.hid (show fstS l = okS ((((at0 l 0 - 240) * 64 + (at0 l 1 - 128)) * 64 + (at0 l 2 - 128)) * 64 + (at0 l 3 - 128)) 4 by rw [fstS, if_neg h0, if_neg c1, if_neg c2, if_neg c3, if_neg c4, if_pos c5]; simp [hl, q1, q2, q3])
      clear q1 q2 q3
      go_enter Try.func84, Try.ntmps84
      go_wp2_with (go_at_call 115; refine (lead_any _ _ (by assumption) (by assumption)).mono ?_; rintro e w' ⟨rfl, rfl⟩)
      go_rounds 4
      all_goals go_ret3
      all_goals refine ⟨?_, Below.refl _ _⟩
      all_goals first
        | (rw [HF.out, okS_yes (by omega) (by unfold widthI; omega)]; exact firstV_eq (by omega))
        | (rw [HF.out, okS_no (by unfold widthI; omega)]; rfl)
        | (exfalso; simp only [Bool.not_eq_true', decide_eq_false_iff_not] at *; omega)
    · have HF := Lib.hid (show fstS l = none by rw [fstS, if_neg h0, if_neg c1, if_neg c2, if_neg c3, if_neg c4, if_pos c5]; simp [hl])
      go_enter Try.func84, Try.ntmps84
      go_wp2_with (go_at_call 115; refine (lead_any _ _ (by assumption) (by assumption)).mono ?_; rintro e w' ⟨rfl, rfl⟩)
      all_goals go_ret3
      all_goals refine ⟨?_, Below.refl _ _⟩
      all_goals rw [HF.out]
      all_goals rfl
  have HF := Lib.hid (show fstS l = none by rw [fstS, if_neg h0, if_neg c1, if_neg c2, if_neg c3, if_neg c4, if_neg c5])
  have hr : leadR (at0 l 0) = 0 := by unfold leadR; omega
  have hn : leadN (at0 l 0) = 0 := by unfold leadN; omega
  go_enter Try.func84, Try.ntmps84
  go_wp2_with (go_at_call 115; refine (lead_any _ _ (by assumption) (by assumption)).mono ?_; rintro e w' ⟨rfl, rfl⟩)
  all_goals go_ret3
  all_goals refine ⟨?_, Below.refl _ _⟩
  all_goals rw [HF.out]
  all_goals rfl
theorem fst2_yes {l : List Int} (h0 : 192 ≤ at0 l 0 ∧ at0 l 0 < 224) (hl : 2 ≤ l.length) (hc : (128 ≤ at0 l 1 ∧ at0 l 1 < 192))
  (hr : 128 ≤ (at0 l 0 - 192) * 64 + at0 l 1 - 128 ∧ (at0 l 0 - 192) * 64 + at0 l 1 - 128 ≤ 2047 ∧ ((at0 l 0 - 192) * 64 + at0 l 1 - 128 < 55296 ∨ 57343 < (at0 l 0 - 192) * 64 + at0 l 1 - 128)) :
  fstS l = some ((at0 l 0 - 192) * 64 + at0 l 1 - 128, 2) := by
 obtain ⟨hc1, hc1b⟩ := hc
 have hd1 := contB_iff.2 ⟨hc1, hc1b⟩
 rw [fstS, if_neg (by omega), if_neg (by omega), if_neg (by omega), if_pos (by omega), if_pos (by simp [hl, hd1]), okS_yes (by omega) (by unfold widthI; omega)]
 have e : ∀ r r' : Int, r = r' → (some (r, 2) : Option (Int × Nat)) = some (r', 2) := fun r r' h => by rw [h]
 exact e _ _ (by omega)
theorem fst3_yes {l : List Int} (h0 : 224 ≤ at0 l 0 ∧ at0 l 0 < 240) (hl : 3 ≤ l.length) (hc : (128 ≤ at0 l 1 ∧ at0 l 1 < 192) ∧ (128 ≤ at0 l 2 ∧ at0 l 2 < 192))
  (hr : 2048 ≤ ((at0 l 0 - 224) * 64 + at0 l 1 - 128) * 64 + at0 l 2 - 128 ∧ ((at0 l 0 - 224) * 64 + at0 l 1 - 128) * 64 + at0 l 2 - 128 ≤ 65535 ∧ (((at0 l 0 - 224) * 64 + at0 l 1 - 128) * 64 + at0 l 2 - 128 < 55296 ∨ 57343 < ((at0 l 0 - 224) * 64 + at0 l 1 - 128) * 64 + at0 l 2 - 128)) :
  fstS l = some (((at0 l 0 - 224) * 64 + at0 l 1 - 128) * 64 + at0 l 2 - 128, 3) := by
 obtain ⟨hc1, hc2⟩ := hc
 have hd1 := contB_iff.2 hc1
 have hd2 := contB_iff.2 hc2
 rw [fstS, if_neg (by omega), if_neg (by omega), if_neg (by omega), if_neg (by omega), if_pos (by omega), if_pos (by simp [hl, hd1, hd2]), okS_yes (by omega) (by unfold widthI; omega)]
 have e : ∀ r r' : Int, r = r' → (some (r, 3) : Option (Int × Nat)) = some (r', 3) := fun r r' h => by rw [h]
 exact e _ _ (by omega)
theorem fst4_yes {l : List Int} (h0 : 240 ≤ at0 l 0 ∧ at0 l 0 < 248) (hl : 4 ≤ l.length) (hc : (128 ≤ at0 l 1 ∧ at0 l 1 < 192) ∧ (128 ≤ at0 l 2 ∧ at0 l 2 < 192) ∧ (128 ≤ at0 l 3 ∧ at0 l 3 < 192))
  (hr : 65536 ≤ (((at0 l 0 - 240) * 64 + at0 l 1 - 128) * 64 + at0 l 2 - 128) * 64 + at0 l 3 - 128 ∧ (((at0 l 0 - 240) * 64 + at0 l 1 - 128) * 64 + at0 l 2 - 128) * 64 + at0 l 3 - 128 ≤ 1114111 ∧ ((((at0 l 0 - 240) * 64 + at0 l 1 - 128) * 64 + at0 l 2 - 128) * 64 + at0 l 3 - 128 < 55296 ∨ 57343 < (((at0 l 0 - 240) * 64 + at0 l 1 - 128) * 64 + at0 l 2 - 128) * 64 + at0 l 3 - 128)) :
  fstS l = some ((((at0 l 0 - 240) * 64 + at0 l 1 - 128) * 64 + at0 l 2 - 128) * 64 + at0 l 3 - 128, 4) := by
 obtain ⟨hc1, hc2, hc3⟩ := hc
 have hd1 := contB_iff.2 hc1
 have hd2 := contB_iff.2 hc2
 have hd3 := contB_iff.2 hc3
 rw [fstS, if_neg (by omega), if_neg (by omega), if_neg (by omega), if_neg (by omega), if_neg (by omega), if_pos (by omega), if_pos (by simp [hl, hd1, hd2, hd3]), okS_yes (by omega) (by unfold widthI; omega)]
 have e : ∀ r r' : Int, r = r' → (some (r, 4) : Option (Int × Nat)) = some (r', 4) := fun r r' h => by rw [h]
 exact e _ _ (by omega)
theorem fst1_yes {l : List Int} (h : at0 l 0 < 128) (hl : 1 ≤ l.length) : fstS l = some (at0 l 0, 1) := by
 rw [fstS, if_neg (by omega), if_pos h]
theorem fstS_bounds {l : List Int} {r : Int} {n : Nat} (h : fstS l = some (r, n)) : 1 ≤ n ∧ n ≤ 4 ∧ n ≤ l.length ∧ (at0 l 0 ≥ 0 → 0 ≤ r ∧ r ≤ 1114111 ∧ (r < 55296 ∨ 57343 < r)) := by
  unfold fstS at h
  have key : ∀ (x : Int) (k : Nat), okS x k = some (r, n) → (0 ≤ r ∧ r ≤ 1114111 ∧ (r < 55296 ∨ 57343 < r)) ∧ n = k := by
    intro x k hk
    unfold okS at hk
    split at hk
    · rename_i hq
      simp only [Option.some.injEq, Prod.mk.injEq] at hk
      obtain ⟨rfl, rfl⟩ := hk
      simp [isRuneB] at hq
      omega
    · cases hk
  split at h
  · cases h
  split at h
  · simp only [Option.some.injEq, Prod.mk.injEq] at h
    omega
  split at h
  · cases h
  split at h
  · split at h
    · rename_i hq
      have := key _ _ h
      simp at hq
      omega
    · cases h
  split at h
  · split at h
    · rename_i hq
      have := key _ _ h
      simp at hq
      omega
    · cases h
  split at h
  · split at h
    · rename_i hq
      have := key _ _ h
      simp at hq
      omega
    · cases h
  · cases h

def decS (l : List Int) : Option (List Int) :=
 if h : l = [] then some [] else
  match fstS l with
  | none => none
  | some (r, n) => if 0 < n then (decS (l.drop n)).map (r :: ·) else none
termination_by l.length
decreasing_by
 have : 0 < l.length := List.length_pos_iff.2 h
 simp only [List.length_drop]
 omega

theorem decS_nil : decS [] = some [] := by rw [decS]; rfl
theorem decS_none {l : List Int} (h : l ≠ []) (hf : fstS l = none) : decS l = none := by rw [decS, dif_neg h, hf]
theorem decS_some {l : List Int} {r : Int} {n : Nat} (h : l ≠ []) (hf : fstS l = some (r, n)) : decS l = (decS (l.drop n)).map (r :: ·) := by
 rw [decS, dif_neg h, hf]
 simp only []
 rw [if_pos (by have := fstS_bounds hf; omega)]

def lenOf : Value → Nat | .slice _ n _ => n | _ => 0


theorem firstV_some (r : Int) (n : Nat) : firstV (some (r, n)) = .tuple #[.int .i32 r, .int .i64 n, .int .i64 0] := rfl
theorem firstV_none : firstV none = .tuple #[.int .i32 0, .int .i64 0, .int .i64 2] := rfl

def plainN (l : List Int) : Nat := (l.takeWhile (fun x => decide (x ≤ 127))).length
theorem plainN_le (l : List Int) : plainN l ≤ l.length := by
 have := (List.takeWhile_prefix (fun x => decide ((x : Int) ≤ 127)) (l := l)).length_le
 exact this
theorem plainN_at (l : List Int) : ∀ k, k < l.length → (∀ j, j < k → at0 l j ≤ 127) → 127 < at0 l k → plainN l = k := by
 induction l with
 | nil => intro k hk; simp at hk
 | cons x t ih =>
  intro k hk hall hgt
  cases k with
  | zero =>
   rw [at0_cons_zero] at hgt
   simp [plainN, show ¬ x ≤ 127 by omega]
  | succ k =>
   have h0 := hall 0 (by omega)
   rw [at0_cons_zero] at h0
   rw [at0_cons_succ] at hgt
   have := ih k (by simpa using hk) (fun j hj => by have := hall (j + 1) (by omega); rwa [at0_cons_succ] at this) hgt
   simp only [plainN, List.takeWhile_cons, h0, decide_true, if_true, List.length_cons]
   simp only [plainN] at this
   omega
theorem plainN_all (l : List Int) (h : ∀ j, j < l.length → at0 l j ≤ 127) : plainN l = l.length := by
 induction l with
 | nil => rfl
 | cons x t ih =>
  have h0 := h 0 (by simp)
  rw [at0_cons_zero] at h0
  have := ih (fun j hj => by have := h (j + 1) (by simp; omega); rwa [at0_cons_succ] at this)
  simp only [plainN, List.takeWhile_cons, h0, decide_true, if_true, List.length_cons]
  simp only [plainN] at this
  omega
theorem plainN_lt (l : List Int) : ∀ j, j < plainN l → at0 l j ≤ 127 := by
  induction l with
  | nil => intro j hj; simp [plainN] at hj
  | cons x t ih =>
    intro j hj
    by_cases hx : x ≤ 127
    · cases j with
      | zero => rw [at0_cons_zero]; exact hx
      | succ j =>
        rw [at0_cons_succ]
        apply ih
        simp only [plainN, List.takeWhile_cons, hx, decide_true, if_true, List.length_cons] at hj
        simp only [plainN]
        omega
    · simp [plainN, hx] at hj

theorem decS_plain (k : Nat) : ∀ l : List Int, k ≤ l.length → (∀ j, j < k → at0 l j ≤ 127) → decS l = (decS (l.drop k)).map (l.take k ++ ·) := by
 induction k with
 | zero => intro l _ _; simp
 | succ k ih =>
  intro l hk h
  cases l with
  | nil => simp at hk
  | cons x t =>
   have h0 := h 0 (by omega)
   rw [at0_cons_zero] at h0
   have hf : fstS (x :: t) = some (x, 1) := by
    rw [fst1_yes (by rw [at0_cons_zero]; omega) (by simp)]
    rfl
   rw [decS_some (by simp) hf]
   rw [show List.drop 1 (x :: t) = t from rfl, ih t (by simpa using hk) (fun j hj => by have := h (j + 1) (by omega); rwa [at0_cons_succ] at this), Option.map_map]
   rfl

set_option maxHeartbeats 400000 in
theorem plain_any (v : Value) (l : List Int) (w : World) (h : RdI .u8 w v l) (hb : Bytes l) :
    Calls Try.prog 83 #[v] w fun e w' => e = .returned (.int .i64 (plainN l)) ∧ w' = w := by
  obtain ⟨a, ca, rfl, hla, hma, ha, -⟩ := h
  unfold maxLen at hma
  have HA := Lib.hid ha; clear ha
  go_enter Try.func83, Try.ntmps83
  go_wp2
  go_loop [3, 6] (fun _ i => ∃ k : Nat, k ≤ l.length ∧ i = .int .i64 k ∧ ∀ j, j < k → at0 l j ≤ 127) (fun _ i => l.length - (intOf i).toNat)
  case atStart => exact ⟨0, Nat.zero_le _, rfl, fun j hj => by omega⟩
  case round =>
    obtain ⟨k, hk, rfl, hall⟩ := hrel
    have H := Lib.hid hall; clear hall
    by_cases hlt : k < l.length
    · obtain ⟨x, o, rfl, hc⟩ := HA.out k hlt
      clear HA
      obtain ⟨z0, z1⟩ := hb.at k
      go_wp2
      · go_ret
        refine ⟨?_, rfl⟩
        rw [plainN_at l k hlt H.out (by assumption)]
        rfl
      · go_round
        case rel =>
          refine ⟨k + 1, by omega, by go_num, fun j hj => ?_⟩
          by_cases e : j = k
          · subst e; assumption
          · exact H.out j (by omega)
        case measure => simp [intOf]; omega
    · clear HA
      go_wp2
      go_ret
      refine ⟨?_, rfl⟩
      rw [plainN_all l (fun j hj => H.out j (by omega))]
      rfl

def cntV (l : List Int) : Value := match decS l with
 | some rs => .tuple #[.int .i64 rs.length, .int .i64 0]
 | none => .tuple #[.int .i64 0, .int .i64 2]

set_option maxHeartbeats 1000000 in
theorem count_any (v : Value) (l : List Int) (w : World) (h : RdI .u8 w v l) (hb : Bytes l) (hlen : l.length ≤ 1000000) :
    Calls Try.prog 57 #[v] w fun e w' => e = .returned (cntV l) ∧ Below w.heap.size w w' := by
  go_enter Try.func57, Try.ntmps57
  go_wp2
  go_loopw [0, 4] (fun b n wr => ∃ (rest : List Int) (c : Nat), RdI .u8 w b rest ∧ Bytes rest ∧ n = .int .i64 c ∧ Below w.heap.size w wr ∧ (decS l).map List.length = (decS rest).map (fun x => c + x.length) ∧ c + rest.length ≤ l.length) (fun b _ _ => lenOf b)
  case atStart => exact ⟨l, 0, h, hb, rfl, Below.refl _ _, by simp, by simp⟩
  case round =>
    obtain ⟨rest, c, hrd, hbt, rfl, hbel, hdec, hsum⟩ := hrel
    have hrd0 := hrd
    obtain ⟨a, ca, rfl, hla, hma, ha, hn⟩ := hrd
    have HD := Lib.hid hdec; clear hdec ha hn
    have hple := plainN_le rest
    by_cases hpos : 0 < rest.length
    · by_cases hpl : 0 < plainN rest
      · go_wp2_with (go_at_call 83; refine (plain_any _ _ _ (hrd0.below hbel) hbt).mono ?_; rintro e w1 ⟨rfl, rfl⟩)
        refine ⟨⟨rest.drop (plainN rest), c + plainN rest, rd_cut hrd0 hple, hbt.drop _, by go_num, hbel, ?_, by simp; omega⟩, by simp [lenOf]; omega⟩
        rw [HD.out, decS_plain (plainN rest) rest hple (plainN_lt rest), Option.map_map]
        congr 1
        funext x
        simp [Nat.min_eq_left hple]
        omega
      · rcases hf : fstS rest with _ | ⟨r, n⟩
        · have HF := Lib.hid hf; clear hf
          go_wp2_with (first
            | (go_at_call 83; refine (plain_any _ _ _ (hrd0.below hbel) hbt).mono ?_; rintro e w1 ⟨rfl, rfl⟩)
            | (go_at_call 84; refine (first_any _ _ _ (hrd0.below hbel) hbt).mono ?_; rintro e w1 ⟨rfl, hb1⟩; rw [HF.out, firstV_none]))
          go_ret2
          refine ⟨?_, hbel.trans (hb1.mono hbel.size)⟩
          have hd := HD.out
          rw [decS_none (by intro e; simp [e] at hpos) HF.out] at hd
          have : decS l = none := by
            cases h : decS l with
            | none => rfl
            | some y => rw [h] at hd; simp at hd
          rw [cntV, this]
          rfl
        · obtain ⟨q1, q2, q3, q4⟩ := fstS_bounds hf
          have q5 := q4 (hbt.at 0).1
          clear q4
          have HF := Lib.hid hf; clear hf
          go_wp2_with (first
            | (go_at_call 83; refine (plain_any _ _ _ (hrd0.below hbel) hbt).mono ?_; rintro e w1 ⟨rfl, rfl⟩)
            | (go_at_call 84; refine (first_any _ _ _ (hrd0.below hbel) hbt).mono ?_; rintro e w1 ⟨rfl, hb1⟩; rw [HF.out, firstV_some]))
          refine ⟨⟨rest.drop n, c + 1, rd_cut hrd0 q3, hbt.drop n, by go_num, hbel.trans (hb1.mono hbel.size), ?_, by simp; omega⟩, by simp [lenOf]; omega⟩
          rw [HD.out, decS_some (by intro e; simp [e] at hpos) HF.out, Option.map_map]
          congr 1
          funext x
          simp
          omega
    · go_wp2
      go_ret2
      obtain rfl : rest = [] := List.eq_nil_of_length_eq_zero (by omega)
      refine ⟨?_, hbel⟩
      have hd := HD.out
      rw [decS_nil] at hd
      rw [cntV]
      cases h : decS l with
      | none => rw [h] at hd; simp at hd
      | some y =>
        rw [h] at hd
        simp at hd
        subst hd
        rfl

set_option maxHeartbeats 400000 in
theorem right_any (v : Value) (l : List Int) (w : World) (h : RdI .u8 w v l) (hb : Bytes l) (hlen : l.length ≤ 1000000) :
  Calls Try.prog 32 #[v] w fun e w' => e = .returned (.bool (decS l).isSome) ∧ Below w.heap.size w w' := by
 cases hd : decS l with
 | none =>
  have hc : cntV l = .tuple #[.int .i64 0, .int .i64 2] := by rw [cntV, hd]
  have HC := Lib.hid hc; clear hc hd
  go_enter Try.func32, Try.ntmps32
  go_wp2_with (go_at_call 57; refine (count_any _ _ _ h hb hlen).mono ?_; rintro e w1 ⟨rfl, hb1⟩; rw [HC.out])
  go_ret
  exact ⟨rfl, hb1⟩
 | some rs =>
  have hc : cntV l = .tuple #[.int .i64 rs.length, .int .i64 0] := by rw [cntV, hd]
  have HC := Lib.hid hc; clear hc hd
  go_enter Try.func32, Try.ntmps32
  go_wp2_with (go_at_call 57; refine (count_any _ _ _ h hb hlen).mono ?_; rintro e w1 ⟨rfl, hb1⟩; rw [HC.out])
  go_ret
  exact ⟨rfl, hb1⟩
def upB (s : ByteArray) : Bool := (decS (sb s)).isSome
theorem cv_oldB {P : Program} {F : FuncId} {args : List Value} {u : Value} {w : World} (h : Calls P F args.toArray w fun e w' => e = .returned u ∧ Below w.heap.size w w') : CV P F args w fun v _ => v = u :=
 Calls.mono h fun e w' ⟨h1, h2⟩ => ⟨u, h1, rfl, h2⟩
section
variable {P : Program} {ops : Array Oper} {o : Oper} {N : Nat} {f : Fl} {w : World}
theorem dx_nilP {x : Operand} {u : Value} {L : List Nat} {cs : List Value} (ho : o.op = .nilCheck x) (hx : ev f x = some u) (h : PtR L w u cs) (hw : wantF ops o f = some true := by rfl) : DV P ops o N f w u := by
 obtain ⟨_, X, q, rfl, _⟩ := h
 exact dx_nilCheck ho hx hw
theorem dv_NT {p : Prop} [Decidable p] (h : DV P ops o N f w (.bool (!decide p))) (hp : ¬ p) : DV P ops o N f w (.bool true) := by rw [decide_eq_false hp] at h; exact h
theorem dx_lenFM {α : Type} {enc : α → List Value} {xs : List α} {t s s' : Nat} {L : List Nat} {x : Operand} {v : Value} (ho : o.op = .call { callee := .builtin .len, args := #[x], argTypes := #[t] }) (ht : sliceB P t s' = true) (hx : ev f x = some v) (hr : RdF s L w v (xs.map enc)) (hw : wantF ops o f = some true := by rfl) : DV P ops o N f w (.int .i64 (xs.length : Int)) := by
 have := dx_lenF (N := N) ho ht hx hr hw
 rwa [List.length_map] at this
end
end Go.Proofs.Ytpinidlfcifeeaa
namespace Go.Proofs.Ytpinidlfcifeeaa
open Go.ChangeShapes Go.WideShapes Go.ChangeAt Go.RowKit
set_option linter.unusedVariables false
set_option maxRecDepth 8000
theorem u8_of_wf {n : Int} (h : (Lit.int .u8 n).wf = true) : 0 ≤ n ∧ n ≤ 255 := by
 simp only [Lit.wf, Bool.and_eq_true, decide_eq_true_eq] at h
 have e1 : IntKind.u8.min = 0 := by decide
 have e2 : IntKind.u8.max = 255 := by decide
 rw [e1, e2] at h
 exact h
theorem own : ownKnob Try.prog.godebug = none := by kernel_rfl
theorem laidOut : laidOutB Try.prog = true := by kernel_rfl
section
variable {H : Type} {enc : TypeId × Value → H} {W : World} {base : Nat} {sp : Nat → Bool} {held : Bool}
end
end Go.Proofs.Ytpinidlfcifeeaa
namespace Go.Proofs.Ytpinidlfcifeeaa
open Go.RowKit
set_option linter.unusedVariables false
set_option linter.unusedSimpArgs false
set_option maxRecDepth 8000
set_option maxHeartbeats 2000000

theorem Chg.both {B : Nat} {w W W' : World} (h : Chg B w W) (k : Chg B W W') : Chg B w W' :=
 ⟨by rw [k.os, h.os], by rw [k.tape, h.tape], by rw [k.output, h.output], Nat.le_trans h.size k.size, fun j hj hn => by rw [k.block j (Nat.lt_of_lt_of_le hj h.size) hn, h.block j hj hn]⟩
theorem Agree.of_chg {L : List Nat} {B : Nat} {w w' : World} (h : Chg B w w') (hB : B ∈ L) : Agree L w w' := ⟨h.size, fun k hk hlt => h.block k hlt (fun e => hk (e ▸ hB))⟩
theorem RdF.chgL {s : Nat} {L : List Nat} {w w' : World} {v : Value} {rs : List (List Value)} (h : RdF s L w v rs) {B : Nat} (g : Chg B w w') (hB : B ∈ L) : RdF s L w' v rs := h.agree (.of_chg g hB)
theorem RdT.chgL {n : Nat} {L : List Nat} {w w' : World} {t : Tr} (h : RdT n L w t) {B : Nat} (g : Chg B w w') (hB : B ∈ L) : RdT n L w' t := h.agree (.of_chg g hB)
theorem RdTs.chgL {n : Nat} {L : List Nat} {w w' : World} {ts : List Tr} (h : RdTs n L w ts) {B : Nat} (g : Chg B w w') (hB : B ∈ L) : RdTs n L w' ts := fun c hc => (h c hc).chgL g hB
theorem LL.chg {L : List Nat} {w w' : World} (h : LL L w) {B : Nat} (g : Chg B w w') : LL L w' := fun x hx => Nat.lt_of_lt_of_le (h x hx) g.size
theorem OwS.chgL {s : Nat} {w w' : World} {v : Value} {rs : List (List Value)} {C B : Nat} (h : OwS s w v rs C) (g : Chg B w w') (hn : C ≠ B) : OwS s w' v rs C := by
 obtain ⟨h0, hl, cap, sp, h1, h2, h3, h4, h5⟩ := h
 exact ⟨h0, hl, cap, sp, h1, h2, h3, h4, h5.chg g hn⟩
section
variable {P : Program} {ops : Array Oper} {o : Oper} {N : Nat} {f : Fl} {w : World} {R : Value → World → Prop} {fn : Func}
theorem cw_ret0 {B : Nat} {w0 : World} (h : fn.results = #[]) (hR : R (.tuple #[]) w) (hb : Chg B w0 w) {a : Act} (ha : Fr N a f) : finW P fn R B w0 a w := by
 obtain ⟨x, v, hv, v', he, h1, h2⟩ := fn0 (P := P) (Rr := fun e w' => ∃ v, e = .returned v ∧ R v w' ∧ Chg B w0 w') h ⟨_, rfl, hR, hb⟩ ha
 cases he
 exact ⟨x, _, hv, h1, h2⟩
theorem cw_ret2 {B : Nat} {w0 : World} {r0 r1 : ResultVar} {v0 v1 : Value} (h : fn.results = #[r0, r1]) (h0 : RV P f w r0 v0) (h1 : RV P f w r1 v1) (hR : R (.tuple #[v0, v1]) w) (hb : Chg B w0 w) {a : Act} (ha : Fr N a f) : finW P fn R B w0 a w := by
 obtain ⟨x, v, hv, v', he, h1, h2⟩ := fn2 (Rr := fun e w' => ∃ v, e = .returned v ∧ R v w' ∧ Chg B w0 w') h h0 h1 ⟨_, rfl, hR, hb⟩ ha
 cases he
 exact ⟨x, _, hv, h1, h2⟩
theorem dx_cw {F : FuncId} {fn : Func} {xs : List Operand} {ts : Array TypeId} {vs : List Value} {B : Nat} (ho : o.op = .call { callee := .value (.func F), args := xs.toArray, argTypes := ts }) (hf : P.funcs[F]? = some fn) (hn : (fn.name == "runtime.NumGoroutine") = false) (hb : fn.body.isNone = false)
  (hx : evl f xs = some vs) (hc : CW P F vs w B R) (hw : wantF ops o f = some true := by rfl) : DR P ops o N f w fun v W => R v W ∧ Chg B w W :=
 dx_call (cap := #[]) ho rfl hf hn hb hx (by rw [Array.append_empty]; exact Calls.mono hc fun e w' ⟨v, he, h⟩ => ⟨v, he, h⟩) hw
def FW (P : Program) (g : Value) (args : List Value) (w : World) (B : Nat) (R : Value → World → Prop) : Prop := ∃ F fs cs fn, g = .func (.func F) fs cs ∧ P.funcs[F]? = some fn ∧ (fn.name == "runtime.NumGoroutine") = false ∧ fn.body.isNone = false ∧ CW P F (fs.toList ++ args ++ cs.toList) w B R
theorem dx_fw {c : Operand} {g : Value} {xs : List Operand} {ts : Array TypeId} {vs : List Value} {B : Nat} (ho : o.op = .call { callee := .value c, args := xs.toArray, argTypes := ts }) (hcv : ev f c = some g)
  (hx : evl f xs = some vs) (hc : FW P g vs w B R) (hw : wantF ops o f = some true := by rfl) : DR P ops o N f w fun v W => R v W ∧ Chg B w W := fun a ha => by
 obtain ⟨F, fs, cs, fn, rfl, hf, hn, hb, hc⟩ := hc
 have he := evl_args (ha.evl hx)
 have hc' := ha.ev hcv
 exact Does.call (wantF_of ha hw) F (fs ++ vs.toArray ++ cs) (by
  unfold execOp
  simp only [ho, resolve, he, hc', Deferred.ofValue, Sem.run_bind, Sem.run_pure, Result.andThen_ok, invoke]
  simp only [callFunc, Sem.run_bind, run_program, Result.andThen_ok, hf, hn, hb]
  rfl) (by
  unfold CW at hc
  rw [show (fs.toList ++ vs ++ cs.toList).toArray = fs ++ vs.toArray ++ cs from by apply Array.ext'; simp] at hc
  exact Calls.mono hc fun e w' ⟨v, he, h⟩ => ⟨v, he, h⟩)
end
section
variable {P : Program} {ops : Array Oper} {o : Oper} {N : Nat} {f : Fl} {w : World}
end
section
variable {P : Program} {ops : Array Oper} {o : Oper} {N : Nat} {f : Fl} {w : World}
theorem dx_slTLH {t : TypeId} {x y z : Operand} {s : ByteArray} {K K' : IntKind} {i j : Int} (l h : Nat) (ho : o.op = .slice t x (some y) (some z) none) (ht : P.underlying t = some .string) (hx : ev f x = some (.string s)) (hy : ev f y = some (.int K i)) (hz : ev f z = some (.int K' j)) (hi : i = (l : Int)) (hj : j = (h : Int)) (hl : l ≤ h) (hh : h ≤ s.size) (hw : wantF ops o f = some true := by rfl) : DV P ops o N f w (.string (s.extract l h)) := fun a ha => by
 subst hi hj
 have hx := ha.ev hx
 have hy := ha.ev hy
 have hz := ha.ev hz
 refine Does.pure (wantF_of ha hw) _ ?_ ⟨rfl, rfl⟩
 have h1 : ((h : Int) ≤ (s.size : Int)) := by omega
 have h2 : ((l : Int) ≤ (h : Int)) := by omega
 have h3 : (0 : Int) ≤ (l : Int) := by omega
 have h4 : (0 : Int) ≤ (h : Int) := by omega
 unfold execOp
 simp only [ho, Option.map_none, Option.map_some, hx, hy, hz, Instr.sliceAt, Sem.run_bind, run_underlying ht, Result.andThen_ok, Instr.slice, Instr.sliceBounds, Instr.sliceBound, asIntOf, Sem.run_pure]
 simp [h1, h2, h3, h4, hl, hh]
end
def takeS (s : ByteArray) (k : Nat) (c : Int) : Bool := decide (k < s.size) && decide (atS s k = c)
def isBlank (c : Int) : Bool := decide (c = 32) || (decide (c = 9) || (decide (c = 10) || decide (c = 13)))
def blankN (s : ByteArray) : Nat → Nat → Nat
 | 0, k => k
 | f + 1, k => if (decide (k < s.size) && isBlank (atS s k)) = true then blankN s f (k + 1) else k
def blankS (s : ByteArray) (k : Nat) : Nat := blankN s (s.size - k) k
theorem blank_go {s : ByteArray} {k : Nat} (h : k < s.size) (hb : isBlank (atS s k) = true) : blankS s k = blankS s (k + 1) := by
 unfold blankS
 obtain ⟨f, hf⟩ : ∃ f, s.size - k = f + 1 := ⟨s.size - k - 1, by omega⟩
 rw [hf, blankN, decide_eq_true h, hb, show (true && true) = true from rfl, if_pos rfl, show s.size - (k + 1) = f by omega]
theorem blank_stop {s : ByteArray} {k : Nat} (h : ¬ (k < s.size ∧ isBlank (atS s k) = true)) : blankS s k = k := by
 unfold blankS
 cases hf : s.size - k with
 | zero => rfl
 | succ f =>
  rw [blankN, if_neg]
  intro hc
  rw [Bool.and_eq_true, decide_eq_true_eq] at hc
  exact h hc
theorem blank_le (s : ByteArray) : ∀ (f k : Nat), k ≤ s.size → k ≤ blankN s f k ∧ blankN s f k ≤ s.size
  | 0, k, h => ⟨Nat.le_refl _, h⟩
  | f + 1, k, h => by
    unfold blankN
    split
    · rename_i hc
      rw [Bool.and_eq_true, decide_eq_true_eq] at hc
      have := blank_le s f (k + 1) hc.1
      omega
    · exact ⟨Nat.le_refl _, h⟩
theorem blankS_le {s : ByteArray} {k : Nat} (h : k ≤ s.size) : k ≤ blankS s k ∧ blankS s k ≤ s.size := blank_le s _ k h
def wordS (s w : ByteArray) (k : Nat) : Bool := (List.range w.size).all fun i => takeS s (k + i) (atS w i)
def isDig (c : Int) : Bool := decide (48 ≤ c) && decide (c ≤ 57)
def digN (s : ByteArray) : Nat → Nat → Nat
 | 0, k => k
 | f + 1, k => if (decide (k < s.size) && isDig (atS s k)) = true then digN s f (k + 1) else k
def digS (s : ByteArray) (k : Nat) : Nat := digN s (s.size - k) k
theorem dig_go {s : ByteArray} {k : Nat} (h : k < s.size) (hb : isDig (atS s k) = true) : digS s k = digS s (k + 1) := by
 unfold digS
 obtain ⟨f, hf⟩ : ∃ f, s.size - k = f + 1 := ⟨s.size - k - 1, by omega⟩
 rw [hf, digN, decide_eq_true h, hb, show (true && true) = true from rfl, if_pos rfl, show s.size - (k + 1) = f by omega]
theorem dig_stop {s : ByteArray} {k : Nat} (h : ¬ (k < s.size ∧ isDig (atS s k) = true)) : digS s k = k := by
 unfold digS
 cases hf : s.size - k with
 | zero => rfl
 | succ f =>
  rw [digN, if_neg]
  intro hc
  rw [Bool.and_eq_true, decide_eq_true_eq] at hc
  exact h hc
theorem dig_le (s : ByteArray) : ∀ (f k : Nat), k ≤ s.size → k ≤ digN s f k ∧ digN s f k ≤ s.size
  | 0, k, h => ⟨Nat.le_refl _, h⟩
  | f + 1, k, h => by
    unfold digN
    split
    · rename_i hc
      rw [Bool.and_eq_true, decide_eq_true_eq] at hc
      have := dig_le s f (k + 1) hc.1
      omega
    · exact ⟨Nat.le_refl _, h⟩
theorem digS_le {s : ByteArray} {k : Nat} (h : k ≤ s.size) : k ≤ digS s k ∧ digS s k ≤ s.size := dig_le s _ k h
theorem take_t {s : ByteArray} {k : Nat} {c : Int} (h : takeS s k c = true) : k < s.size ∧ atS s k = c := by
 unfold takeS at h
 rwa [Bool.and_eq_true, decide_eq_true_eq, decide_eq_true_eq] at h
theorem take_f {s : ByteArray} {k : Nat} {c : Int} (h : takeS s k c = false) (hk : k < s.size) : atS s k ≠ c := fun e => by
 unfold takeS at h
 rw [decide_eq_true hk, decide_eq_true e] at h
 cases h
abbrev psC (s : ByteArray) (k dp : Nat) : List Value := [.string s, .int .i64 (k : Int), .int .i64 (dp : Int)]
set_option maxHeartbeats 1000000 in
theorem peek_v  (s : ByteArray) (P ka dp : Nat) (w : World) (L : List Nat) (hL : LL L w) (hPL : P ∈ L) (hs : s.size ≤ 1000000) (hk : ka ≤ s.size) (hp : Blk w P (psC s ka dp))   : CV Try.prog 59 [.pointer (some ⟨P, 0, none⟩)] w fun v W => v = .int .u8 (if ka < s.size then atS s ka else 0) := by
 refine cv_enter (N := 22) (f := [(0, .pointer (some ⟨P, 0, none⟩))]) Try.func59 rfl rfl rfl rfl fun Q hQ hE => ?_
 have hB := Below.refl w.heap.size w
 have hL0 := hL
 refine Sq fun K1 hK1 => (Rg (Pu rfl (Ni (hK1 (Sq fun K2 hK2 => (Sq fun K3 hK3 => ?_))))))
 refine WC.drawM 9 [(some 3, .is (.pointer (some ⟨P, 0, none⟩))), (some 4, .is (.pointer (some ⟨P, 0, none⟩))), (some 5, .is (.pointer (some ⟨P, 1, none⟩))), (some 6, .is (.int .i64 (ka : Int))), (some 7, .is (.pointer (some ⟨P, 0, none⟩))), (some 8, .is (.pointer (some ⟨P, 0, none⟩))), (some 9, .is (.pointer (some ⟨P, 0, none⟩))), (some 10, .is (.string s)), (some 11, .is (.int .i64 (s.size : Int)))] [[], [0], [1], [2], [], [4], [5], [6], [7]] (by kernel_rfl) (by kernel_rfl) (by kernel_rfl) (by kernel_rfl) (by kernel_rfl) (by kernel_rfl) (by kernel_rfl) (by exact trivial) ?_ ?_
 ·
  refine Dc (fun Wd hd => ?_) ?_
  ·
   exact Dd (dx_move rfl rfl) rfl
  refine Dc (fun Wd hd => ?_) ?_
  ·
   exact Dd (dx_nilCheck rfl rfl) rfl
  refine Dc (fun Wd hd => ?_) ?_
  ·
   exact Dd (dx_fld (o1 := 1) rfl ty_fld_53_1_1 rfl rfl) rfl
  refine Dc (fun Wd hd => ?_) ?_
  ·
   have hp := hp.below hd
   exact Dd (dx_load rfl ty_one_3 rfl (hp.cell (k := 1) rfl)) rfl
  refine Dc (fun Wd hd => ?_) ?_
  ·
   exact Dd (dx_move rfl rfl) rfl
  refine Dc (fun Wd hd => ?_) ?_
  ·
   exact Dd (dx_nilCheck rfl rfl) rfl
  refine Dc (fun Wd hd => ?_) ?_
  ·
   exact Dd (dx_fld (o1 := 0) rfl ty_fld_53_0_0 rfl rfl) rfl
  refine Dc (fun Wd hd => ?_) ?_
  ·
   have hp := hp.below hd
   exact Dd (dx_load rfl ty_one_9 rfl (hp.cell (k := 0) rfl)) rfl
  refine Dc (fun Wd hd => ?_) ?_
  ·
   exact Dd (dx_lenT rfl Try.underlying9 rfl) rfl
  exact trivial
 ·
  intro W4 b5
  replace hp := hp.below b5
  replace hB := below_then hB b5
  refine Va (dx_geq rfl rfl rfl) rfl rfl (Ni (hK3 ?_))
  refine WC.cond rfl (fun c6 => ?_) (fun c6 => ?_)
  ·
   replace c6 := dT c6
   refine Sq fun K7 hK7 => (Rg (Pu rfl (Ni (hK7 ?_))))
   exact WC.ret fun a_ ha_ => hQ (cv_ret1 rfl (.tmp rfl) (by rw [if_neg (by omega)]) hB ha_)
  ·
   replace c6 := dF c6
   refine WC.skip (hK2 (Sq fun K8 hK8 => ?_))
   refine WC.drawM 8 [(some 13, .is (.pointer (some ⟨P, 0, none⟩))), (some 14, .is (.pointer (some ⟨P, 0, none⟩))), (some 15, .is (.pointer (some ⟨P, 0, none⟩))), (some 16, .is (.string s)), (some 17, .is (.pointer (some ⟨P, 0, none⟩))), (some 18, .is (.pointer (some ⟨P, 0, none⟩))), (some 19, .is (.pointer (some ⟨P, 1, none⟩))), (some 20, .is (.int .i64 (ka : Int)))] [[], [0], [1], [2], [], [4], [5], [6]] (by kernel_rfl) (by kernel_rfl) (by kernel_rfl) (by kernel_rfl) (by kernel_rfl) (by kernel_rfl) (by kernel_rfl) (by exact trivial) ?_ ?_
   ·
    refine Dc (fun Wd hd => ?_) ?_
    ·
     exact Dd (dx_move rfl rfl) rfl
    refine Dc (fun Wd hd => ?_) ?_
    ·
     exact Dd (dx_nilCheck rfl rfl) rfl
    refine Dc (fun Wd hd => ?_) ?_
    ·
     exact Dd (dx_fld (o1 := 0) rfl ty_fld_53_0_0 rfl rfl) rfl
    refine Dc (fun Wd hd => ?_) ?_
    ·
     have hp := hp.below hd
     exact Dd (dx_load rfl ty_one_9 rfl (hp.cell (k := 0) rfl)) rfl
    refine Dc (fun Wd hd => ?_) ?_
    ·
     exact Dd (dx_move rfl rfl) rfl
    refine Dc (fun Wd hd => ?_) ?_
    ·
     exact Dd (dx_nilCheck rfl rfl) rfl
    refine Dc (fun Wd hd => ?_) ?_
    ·
     exact Dd (dx_fld (o1 := 1) rfl ty_fld_53_1_1 rfl rfl) rfl
    refine Dc (fun Wd hd => ?_) ?_
    ·
     have hp := hp.below hd
     exact Dd (dx_load rfl ty_one_3 rfl (hp.cell (k := 1) rfl)) rfl
    exact trivial
   ·
    intro W9 b10
    replace hB := below_then hB b10
    refine Va (dx_at ka rfl Try.underlying9 rfl rfl (by omega) (by omega)) rfl rfl (Pu rfl (Ni (hK8 ?_)))
    exact WC.ret fun a_ ha_ => hQ (cv_ret1 rfl (.tmp rfl) (by rw [if_pos (by omega)]) hB ha_)

set_option maxHeartbeats 1000000 in
theorem ended_v  (s : ByteArray) (P ka dp : Nat) (w : World) (L : List Nat) (hL : LL L w) (hPL : P ∈ L) (hs : s.size ≤ 1000000) (hk : ka ≤ s.size) (hp : Blk w P (psC s ka dp))   : CV Try.prog 35 [.pointer (some ⟨P, 0, none⟩)] w fun v W => v = .bool (decide (s.size ≤ ka)) := by
 refine cv_enter (N := 13) (f := [(0, .pointer (some ⟨P, 0, none⟩))]) Try.func35 rfl rfl rfl rfl fun Q hQ hE => ?_
 have hB := Below.refl w.heap.size w
 have hL0 := hL
 refine Sq fun K1 hK1 => (Rg (Pu rfl (Ni (hK1 (Sq fun K2 hK2 => ?_)))))
 refine WC.drawM 9 [(some 3, .is (.pointer (some ⟨P, 0, none⟩))), (some 4, .is (.pointer (some ⟨P, 0, none⟩))), (some 5, .is (.pointer (some ⟨P, 1, none⟩))), (some 6, .is (.int .i64 (ka : Int))), (some 7, .is (.pointer (some ⟨P, 0, none⟩))), (some 8, .is (.pointer (some ⟨P, 0, none⟩))), (some 9, .is (.pointer (some ⟨P, 0, none⟩))), (some 10, .is (.string s)), (some 11, .is (.int .i64 (s.size : Int)))] [[], [0], [1], [2], [], [4], [5], [6], [7]] (by kernel_rfl) (by kernel_rfl) (by kernel_rfl) (by kernel_rfl) (by kernel_rfl) (by kernel_rfl) (by kernel_rfl) (by exact trivial) ?_ ?_
 ·
  refine Dc (fun Wd hd => ?_) ?_
  ·
   exact Dd (dx_move rfl rfl) rfl
  refine Dc (fun Wd hd => ?_) ?_
  ·
   exact Dd (dx_nilCheck rfl rfl) rfl
  refine Dc (fun Wd hd => ?_) ?_
  ·
   exact Dd (dx_fld (o1 := 1) rfl ty_fld_53_1_1 rfl rfl) rfl
  refine Dc (fun Wd hd => ?_) ?_
  ·
   have hp := hp.below hd
   exact Dd (dx_load rfl ty_one_3 rfl (hp.cell (k := 1) rfl)) rfl
  refine Dc (fun Wd hd => ?_) ?_
  ·
   exact Dd (dx_move rfl rfl) rfl
  refine Dc (fun Wd hd => ?_) ?_
  ·
   exact Dd (dx_nilCheck rfl rfl) rfl
  refine Dc (fun Wd hd => ?_) ?_
  ·
   exact Dd (dx_fld (o1 := 0) rfl ty_fld_53_0_0 rfl rfl) rfl
  refine Dc (fun Wd hd => ?_) ?_
  ·
   have hp := hp.below hd
   exact Dd (dx_load rfl ty_one_9 rfl (hp.cell (k := 0) rfl)) rfl
  refine Dc (fun Wd hd => ?_) ?_
  ·
   exact Dd (dx_lenT rfl Try.underlying9 rfl) rfl
  exact trivial
 ·
  intro W3 b4
  replace hB := below_then hB b4
  refine Va (dx_geq rfl rfl rfl) rfl rfl (Pu rfl (Ni (hK2 ?_)))
  exact WC.ret fun a_ ha_ => hQ (cv_ret1 rfl (.tmp rfl) (by congr 1; rw [decide_eq_decide]; omega) hB ha_)

set_option maxHeartbeats 1000000 in
theorem take_v (c : Int) (s : ByteArray) (P ka dp : Nat) (w : World) (L : List Nat) (hL : LL L w) (hPL : P ∈ L) (hs : s.size ≤ 1000000) (hk : ka ≤ s.size) (hp : Blk w P (psC s ka dp))   : CW Try.prog 58 [.pointer (some ⟨P, 0, none⟩), .int .u8 c] w P fun v W => ∃ k', v = .bool (takeS s ka c) ∧ k' = (bif takeS s ka c then ka + 1 else ka) ∧ k' ≤ s.size ∧ Blk W P (psC s k' dp) := by
 refine cw_enter (N := 27) (f := [(0, .pointer (some ⟨P, 0, none⟩)), (1, .int .u8 c)]) Try.func58 rfl rfl rfl rfl fun Q hQ hE => ?_
 have hB := Chg.refl P w
 have hL0 := hL
 refine Sq fun K1 hK1 => (Rg (Pu rfl (Ni (hK1 (Sq fun K2 hK2 => (Sq fun K3 hK3 => ?_))))))
 obtain ⟨b4, hb4⟩ : ∃ b, b = (decide (s.size ≤ ka)) := ⟨_, rfl⟩
 refine WC.drawM 15 [(some 5, .is (.pointer (some ⟨P, 0, none⟩))), (some 6, .is (.bool (decide (s.size ≤ ka)))), (some 7, .is (.bool b4)), (some 8, .is (bif b4 then undef else .pointer (some ⟨P, 0, none⟩))), (some 9, .is (bif b4 then undef else .pointer (some ⟨P, 0, none⟩))), (some 10, .is (bif b4 then undef else .pointer (some ⟨P, 0, none⟩))), (some 11, .is (bif b4 then undef else .string s)), (some 12, .is (bif b4 then undef else .pointer (some ⟨P, 0, none⟩))), (some 13, .is (bif b4 then undef else .pointer (some ⟨P, 0, none⟩))), (some 14, .is (bif b4 then undef else .pointer (some ⟨P, 1, none⟩))), (some 15, .is (bif b4 then undef else .int .i64 (ka : Int))), (some 16, .is (bif b4 then undef else .int .u8 (atS s ka))), (some 17, .is (bif b4 then undef else .int .u8 c)), (some 18, .is (bif b4 then undef else .bool (!(decide (atS s ka = c))))), (some 19, .is (.bool (b4 || (!(decide (atS s ka = c))))))] [[], [0], [1, 1], [2], [3, 2], [4, 2], [5, 2], [2], [7, 2], [8, 2], [9, 2], [6, 10, 2], [2], [11, 12, 2], [2, 13]] (by kernel_rfl) (by kernel_rfl) (by kernel_rfl) (by kernel_rfl) (by kernel_rfl) (by kernel_rfl) (by kernel_rfl) (by exact trivial) ?_ ?_
 ·
  refine Dc (fun Wd hd => ?_) ?_
  ·
   exact Dd (dx_move rfl rfl) rfl
  refine Dc (fun Wd hd => ?_) ?_
  ·
   have hp := hp.below hd
   exact DR.mono (dx_cv rfl Try.func35 rfl rfl rfl (ended_v s P ka dp Wd _ (LL.below hL hd) hPL hs (by omega) hp)) (fun v W' ⟨h, hb⟩ => ⟨hb, (by rw [h]; exact rfl)⟩)
  refine Dc (fun Wd hd => ?_) ?_
  ·
   exact DV.dr (dx_move rfl rfl) ⟨Below.refl _ _, by rw [hb4]; rfl⟩
  refine Dc (fun Wd hd => ?_) ?_
  ·
   cases b4
   ·
    exact Dd (dx_move rfl rfl) rfl
   ·
    exact Dd (dv_off rfl) rfl
  refine Dc (fun Wd hd => ?_) ?_
  ·
   cases b4
   ·
    exact Dd (dx_nilCheck rfl rfl) rfl
   ·
    exact Dd (dv_off rfl) rfl
  refine Dc (fun Wd hd => ?_) ?_
  ·
   cases b4
   ·
    exact Dd (dx_fld (o1 := 0) rfl ty_fld_53_0_0 rfl rfl) rfl
   ·
    exact Dd (dv_off rfl) rfl
  refine Dc (fun Wd hd => ?_) ?_
  ·
   cases b4
   ·
    have hp := hp.below hd
    exact Dd (dx_load rfl ty_one_9 rfl (hp.cell (k := 0) rfl)) rfl
   ·
    exact Dd (dv_off rfl) rfl
  refine Dc (fun Wd hd => ?_) ?_
  ·
   cases b4
   ·
    exact Dd (dx_move rfl rfl) rfl
   ·
    exact Dd (dv_off rfl) rfl
  refine Dc (fun Wd hd => ?_) ?_
  ·
   cases b4
   ·
    exact Dd (dx_nilCheck rfl rfl) rfl
   ·
    exact Dd (dv_off rfl) rfl
  refine Dc (fun Wd hd => ?_) ?_
  ·
   cases b4
   ·
    exact Dd (dx_fld (o1 := 1) rfl ty_fld_53_1_1 rfl rfl) rfl
   ·
    exact Dd (dv_off rfl) rfl
  refine Dc (fun Wd hd => ?_) ?_
  ·
   cases b4
   ·
    have hp := hp.below hd
    exact Dd (dx_load rfl ty_one_3 rfl (hp.cell (k := 1) rfl)) rfl
   ·
    exact Dd (dv_off rfl) rfl
  refine Dc (fun Wd hd => ?_) ?_
  ·
   cases b4
   ·
    exact Dd (dx_at ka rfl Try.underlying9 rfl rfl (by omega) (by first | omega | (have hq_ := of_decide_eq_false hb4.symm; omega))) rfl
   ·
    exact Dd (dv_off rfl) rfl
  refine Dc (fun Wd hd => ?_) ?_
  ·
   cases b4
   ·
    exact Dd (dx_move rfl rfl) rfl
   ·
    exact Dd (dv_off rfl) rfl
  refine Dc (fun Wd hd => ?_) ?_
  ·
   cases b4
   ·
    exact Dd (dx_neq rfl rfl rfl) rfl
   ·
    exact Dd (dv_off rfl) rfl
  refine Dc (fun Wd hd => ?_) ?_
  ·
   cases b4
   ·
    exact Dd (dx_pick rfl rfl rfl) rfl
   ·
    exact Dd (dx_pick rfl rfl rfl) rfl
  exact trivial
 ·
  intro W5 b6
  replace hp := hp.below b6
  replace hB := Chg.thenB hB b6
  refine Ni (hK3 ?_)
  refine WC.cond rfl (fun c7 => ?_) (fun c7 => ?_)
  ·
   refine Sq fun K8 hK8 => (Rg (Pu rfl (Ni (hK8 ?_))))
   exact WC.ret fun a_ ha_ => hQ (cw_ret1 rfl (.tmp rfl) (by have e : takeS s ka c = false := (by unfold takeS; cases hlt : decide (ka < s.size) with | false => rfl | true => (rw [Bool.true_and]; have hlt := of_decide_eq_true hlt; refine decide_eq_false ?_; have hcc : ¬ (s.size ≤ ka) := (by omega); simp_all)); rw [e]; exact ⟨ka, rfl, rfl, by omega, hp⟩) hB ha_)
  ·
   obtain ⟨g9, g10⟩ := bor_f c7
   replace g9 := bvar_f g9
   replace g10 := bnot_f g10
   replace g10 := dT g10
   refine WC.skip (hK2 (Sq fun K11 hK11 => (Rg (Pu rfl (Va (dx_nilCheck rfl rfl) rfl rfl (Va (dx_fld (o1 := 1) rfl ty_fld_53_1_1 rfl rfl) rfl rfl (Va (dx_load rfl ty_one_3 rfl (hp.cell (k := 1) rfl)) rfl rfl ?_)))))))
   refine Va (dx_add (r := ((ka + 1 : Nat) : Int)) rfl rfl rfl (by rw [wrap64_id (by omega)]; omega)) rfl rfl (Va (dx_nilCheck rfl rfl) rfl rfl (Va (dx_fld (o1 := 1) rfl ty_fld_53_1_1 rfl rfl) rfl rfl ?_))
   refine WL.do (dx_store (cs' := [.string s, .int .i64 ((ka + 1 : Nat) : Int), .int .i64 (dp : Int)]) (vs := [.int .i64 ((ka + 1 : Nat) : Int)]) rfl ty_size_3_1 rfl rfl rfl (oc_cons rfl oc_nil) hp rfl (Nat.le_of_ble_eq_true rfl) rfl) rfl ?_
   rintro _ W12 ⟨k14, o13⟩
   clear hp
   replace hB := Chg.only hB o13 (.inl rfl)
   refine Ni (hK11 (Sq fun K15 hK15 => (Rg (Pu rfl (Ni (hK15 ?_))))))
   exact WC.ret fun a_ ha_ => hQ (cw_ret1 rfl (.tmp rfl) (by have hnb : ¬ (s.size ≤ ka) := (fun hc_ => by have := decide_eq_true hc_; simp_all); have e : takeS s ka c = true := (by unfold takeS; rw [decide_eq_true (by omega), Bool.true_and]; exact decide_eq_true (by first | assumption | exact Classical.not_not.1 (by assumption) | simp_all)); rw [e]; exact ⟨ka + 1, rfl, rfl, by omega, k14⟩) hB ha_)

set_option maxHeartbeats 1000000 in
theorem blanks_v  (s : ByteArray) (P ka dp : Nat) (w : World) (L : List Nat) (hL : LL L w) (hPL : P ∈ L) (hs : s.size ≤ 1000000) (hk : ka ≤ s.size) (hp : Blk w P (psC s ka dp))   : CW Try.prog 33 [.pointer (some ⟨P, 0, none⟩)] w P fun v W => Blk W P (psC s (blankS s ka) dp) := by
 refine cw_enter (N := 16) (f := [(0, .pointer (some ⟨P, 0, none⟩))]) Try.func33 rfl rfl rfl rfl fun Q hQ hE => ?_
 have hB := Chg.refl P w
 have hL0 := hL
 refine WC.block ?_
 refine WC.loop (fun (kb : Nat) => [(0, .pointer (some ⟨P, 0, none⟩))]) (fun (kb : Nat) W => kb ≤ s.size ∧ blankS s ka = blankS s kb ∧ Chg P w W ∧ LL (L) W ∧ Blk W P [.string s, .int .i64 (kb : Int), .int .i64 (dp : Int)]) (fun (kb : Nat) => s.size - kb) ka (by repeat first | exact trivial | exact And.intro rfl trivial | refine And.intro rfl ?_ | refine And.intro (congrArg (fun z : Int => some (Value.int .i64 z)) (by omega)) ?_) ⟨hk, rfl, hB, hL, hp⟩ ?_
 clear hp hB hL
 rintro K1 kb W2 ⟨hkb, hv, hB, hL, hp⟩ hK1
 refine Sq fun K3 hK3 => (Sq fun K4 hK4 => (Rg (Pu rfl ?_)))
 refine Ge (dx_cw rfl Try.func58 rfl rfl rfl (take_v 32 s P kb dp W2 _ hL hPL hs (by omega) hp)) rfl rfl ?_
 rintro _ W9 ⟨⟨k5, rfl, hk6, hk7, hp10⟩, g8⟩
 replace hB := Chg.both hB g8
 replace hL := hL.chg g8
 cases hT11 : takeS s kb 32 with
 | false =>
  rw [hT11] at hk6
  replace hk6 : kb = k5 := Eq.symm hk6
  subst hk6
  refine Pu rfl (Pu rfl ?_)
  refine Ge (dx_cw rfl Try.func58 rfl rfl rfl (take_v 9 s P kb dp W9 _ hL hPL hs (by omega) hp10)) rfl rfl ?_
  rintro _ W16 ⟨⟨k12, rfl, hk13, hk14, hp17⟩, g15⟩
  replace hB := Chg.both hB g15
  replace hL := hL.chg g15
  cases hT18 : takeS s kb 9 with
  | false =>
   rw [hT18] at hk13
   replace hk13 : kb = k12 := Eq.symm hk13
   subst hk13
   refine Pu rfl (Pu rfl (Pu rfl ?_))
   refine Ge (dx_cw rfl Try.func58 rfl rfl rfl (take_v 10 s P kb dp W16 _ hL hPL hs (by omega) hp17)) rfl rfl ?_
   rintro _ W23 ⟨⟨k19, rfl, hk20, hk21, hp24⟩, g22⟩
   replace hB := Chg.both hB g22
   replace hL := hL.chg g22
   cases hT25 : takeS s kb 10 with
   | false =>
    rw [hT25] at hk20
    replace hk20 : kb = k19 := Eq.symm hk20
    subst hk20
    refine Pu rfl (Pu rfl (Pu rfl ?_))
    refine Ge (dx_cw rfl Try.func58 rfl rfl rfl (take_v 13 s P kb dp W23 _ hL hPL hs (by omega) hp24)) rfl rfl ?_
    rintro _ W30 ⟨⟨k26, rfl, hk27, hk28, hp31⟩, g29⟩
    replace hB := Chg.both hB g29
    replace hL := hL.chg g29
    cases hT32 : takeS s kb 13 with
    | false =>
     rw [hT32] at hk27
     replace hk27 : kb = k26 := Eq.symm hk27
     subst hk27
     refine Pu rfl (Ni (hK4 (WC.condF rfl ?_)))
     refine WC.exit ?_
     intro a_ ha_
     exact hE (cw_ret0 rfl  (by have e : blankS s ka = kb := (by rw [hv]; exact blank_stop (fun ⟨h1, h2⟩ => by unfold isBlank at h2; have q1 := take_f ‹takeS s kb 32 = false› h1; have q2 := take_f ‹takeS s kb 9 = false› h1; have q3 := take_f ‹takeS s kb 10 = false› h1; have q4 := take_f ‹takeS s kb 13 = false› h1; simp_all)); rw [e]; exact hp31) hB ha_)
    | true =>
     rw [hT32] at hk27
     have hthT32 := take_t hT32
     replace hk27 : k26 = kb + 1 := hk27
     refine Pu rfl (Ni (hK4 (WC.condT rfl (WC.skip (hK3 (WC.block (WC.skip ?_)))))))
     have hkk : k26 = kb + 1 := by omega
     subst hkk
     exact hK1 (kb + 1) ⟨(by omega), (hv.trans (blank_go hthT32.1 (by rw [hthT32.2]; decide))), hB, hL, hp31⟩ (by omega) (by repeat first | exact trivial | exact And.intro rfl trivial | refine And.intro rfl ?_ | refine And.intro (congrArg (fun z : Int => some (Value.int .i64 z)) (by omega)) ?_)
   | true =>
    rw [hT25] at hk20
    have hthT25 := take_t hT25
    replace hk20 : k19 = kb + 1 := hk20
    refine Pu rfl (Pu rfl (Of rfl (Of rfl (Pu rfl (Ni (hK4 (WC.condT rfl ?_)))))))
    refine WC.skip (hK3 (WC.block (WC.skip ?_)))
    have hkk : k19 = kb + 1 := by omega
    subst hkk
    exact hK1 (kb + 1) ⟨(by omega), (hv.trans (blank_go hthT25.1 (by rw [hthT25.2]; decide))), hB, hL, hp24⟩ (by omega) (by repeat first | exact trivial | exact And.intro rfl trivial | refine And.intro rfl ?_ | refine And.intro (congrArg (fun z : Int => some (Value.int .i64 z)) (by omega)) ?_)
  | true =>
   rw [hT18] at hk13
   have hthT18 := take_t hT18
   replace hk13 : k12 = kb + 1 := hk13
   refine Pu rfl (Pu rfl (Of rfl (Of rfl (Pu rfl (Pu rfl (Of rfl (Of rfl ?_)))))))
   refine Pu rfl (Ni (hK4 (WC.condT rfl (WC.skip (hK3 (WC.block (WC.skip ?_)))))))
   have hkk : k12 = kb + 1 := by omega
   subst hkk
   exact hK1 (kb + 1) ⟨(by omega), (hv.trans (blank_go hthT18.1 (by rw [hthT18.2]; decide))), hB, hL, hp17⟩ (by omega) (by repeat first | exact trivial | exact And.intro rfl trivial | refine And.intro rfl ?_ | refine And.intro (congrArg (fun z : Int => some (Value.int .i64 z)) (by omega)) ?_)
 | true =>
  rw [hT11] at hk6
  have hthT11 := take_t hT11
  replace hk6 : k5 = kb + 1 := hk6
  refine Pu rfl (Of rfl (Of rfl (Pu rfl (Pu rfl (Of rfl (Of rfl (Pu rfl ?_)))))))
  refine Pu rfl (Of rfl (Of rfl (Pu rfl (Ni (hK4 (WC.condT rfl (WC.skip ?_)))))))
  refine hK3 (WC.block (WC.skip ?_))
  have hkk : k5 = kb + 1 := by omega
  subst hkk
  exact hK1 (kb + 1) ⟨(by omega), (hv.trans (blank_go hthT11.1 (by rw [hthT11.2]; decide))), hB, hL, hp10⟩ (by omega) (by repeat first | exact trivial | exact And.intro rfl trivial | refine And.intro rfl ?_ | refine And.intro (congrArg (fun z : Int => some (Value.int .i64 z)) (by omega)) ?_)

theorem word_t {s wd : ByteArray} {k : Nat} (h : ∀ i, i < wd.size → takeS s (k + i) (atS wd i) = true) : wordS s wd k = true := List.all_eq_true.2 fun i hi => h i (List.mem_range.1 hi)
theorem word_f {s wd : ByteArray} {k i : Nat} (hi : i < wd.size) (h : takeS s (k + i) (atS wd i) = false) : wordS s wd k = false := List.all_eq_false.2 ⟨i, List.mem_range.2 hi, by rw [h]; decide⟩
set_option maxHeartbeats 1000000 in
theorem word_v (wd : ByteArray) (s : ByteArray) (P ka dp : Nat) (w : World) (L : List Nat) (hL : LL L w) (hPL : P ∈ L) (hs : s.size ≤ 1000000) (hk : ka ≤ s.size) (hp : Blk w P (psC s ka dp))  (hwd : wd.size ≤ 1000) : CW Try.prog 85 [.pointer (some ⟨P, 0, none⟩), .string wd] w P fun v W => ∃ k', v = .bool (wordS s wd ka) ∧ ka ≤ k' ∧ k' ≤ s.size ∧ (wordS s wd ka = true → k' = ka + wd.size) ∧ Blk W P (psC s k' dp) := by
 refine cw_enter (N := 18) (f := [(0, .pointer (some ⟨P, 0, none⟩)), (1, .string wd)]) Try.func85 rfl rfl rfl rfl fun Q hQ hE => ?_
 have hB := Chg.refl P w
 have hL0 := hL
 refine Sq fun K1 hK1 => (Rg (Pu rfl (Ni (hK1 (Sq fun K2 hK2 => (Sq fun K3 hK3 => (Rg ?_)))))))
 refine Pu rfl (Va (dx_lenT rfl Try.underlying9 rfl) rfl rfl (Pu rfl (Ni (hK3 (WC.block ?_)))))
 refine WC.loop2 (fun (i : Nat) (kb : Nat) => [(0, .pointer (some ⟨P, 0, none⟩)), (1, .string wd), (7, .int .i64 (wd.size : Int)), (8, .int .i64 (i : Int))]) (fun (i : Nat) (kb : Nat) W => i ≤ wd.size ∧ kb = ka + i ∧ kb ≤ s.size ∧ (∀ j, j < i → takeS s (ka + j) (atS wd j) = true) ∧ Chg P w W ∧ LL (L) W ∧ Blk W P [.string s, .int .i64 (kb : Int), .int .i64 (dp : Int)]) (fun (i : Nat) (kb : Nat) => wd.size - i) 0 ka (by repeat first | exact trivial | exact And.intro rfl trivial | refine And.intro rfl ?_ | refine And.intro (congrArg (fun z : Int => some (Value.int .i64 z)) (by omega)) ?_) ⟨Nat.zero_le _, rfl, hk, (fun j hj => by omega), hB, hL, hp⟩ ?_
 clear hp hB hL
 rintro K4 i kb W5 ⟨hi, hki, hkb, hv, hB, hL, hp⟩ hK4
 refine Sq fun K6 hK6 => (Rg (Va (dx_lss rfl rfl rfl) rfl rfl (Ni (hK6 (Sq fun K7 hK7 => ?_)))))
 refine WC.cond rfl (fun c8 => ?_) (fun c8 => ?_)
 ·
  replace c8 := dT c8
  refine WC.skip (hK7 (Sq fun K9 hK9 => (WC.block (Sq fun K10 hK10 => (Rg (Pu rfl (Pu rfl ?_)))))))
  refine Ni (hK10 (Sq fun K11 hK11 => ?_))
  have hil : i < wd.size := by omega
  refine Rg (Pu rfl (Pu rfl (Pu rfl (Va (dx_at i rfl Try.underlying9 rfl rfl (by omega) (by omega)) rfl rfl ?_))))
  refine Ge (dx_cw rfl Try.func58 rfl rfl rfl (take_v (atS wd i) s P kb dp W5 _ hL hPL hs (by omega) hp)) rfl rfl ?_
  rintro _ W16 ⟨⟨k12, rfl, hk13, hk14, hp17⟩, g15⟩
  replace hB := Chg.both hB g15
  replace hL := hL.chg g15
  cases hT18 : takeS s kb (atS wd i) with
  | false =>
   rw [hT18] at hk13
   replace hk13 : kb = k12 := Eq.symm hk13
   subst hk13
   refine Va (dx_not rfl rfl) rfl rfl (Ni (hK11 (WC.condT rfl (Sq fun K19 hK19 => (Rg (Pu rfl (Ni ?_)))))))
   refine hK19 ?_
   exact WC.ret fun a_ ha_ => hQ (cw_ret1 rfl (.tmp rfl) (by have e : wordS s wd ka = false := word_f (i := i) (by omega) (by rw [← hki]; assumption); rw [e]; exact ⟨kb, rfl, by omega, hkb, (fun h => by cases h), hp17⟩) hB ha_)
  | true =>
   rw [hT18] at hk13
   have hthT18 := take_t hT18
   replace hk13 : k12 = kb + 1 := hk13
   refine Va (dx_not rfl rfl) rfl rfl (Ni (hK11 (WC.condF rfl (WC.skip (hK9 (Rg (Va (dx_add (r := (i : Int) + 1) rfl rfl rfl (wrap64_id (by omega))) rfl rfl ?_)))))))
   refine Pu rfl (Ni ?_)
   exact hK4 (i + 1) k12 ⟨(by omega), (by omega), (by omega), (fun j hj => by rcases Nat.lt_or_ge j i with hl | hl; exact hv j hl; obtain rfl : j = i := (by omega); rw [← hki]; exact hT18), hB, hL, hp17⟩ (by omega) (by repeat first | exact trivial | exact And.intro rfl trivial | refine And.intro rfl ?_ | refine And.intro (congrArg (fun z : Int => some (Value.int .i64 z)) (by omega)) ?_)
 ·
  replace c8 := dF c8
  refine WC.exit ?_
  refine hK2 (Sq fun K20 hK20 => (Rg (Pu rfl (Ni (hK20 ?_)))))
  exact WC.ret fun a_ ha_ => hQ (cw_ret1 rfl (.tmp rfl) (by have hie : i = wd.size := (by omega); have e : wordS s wd ka = true := word_t (fun j hj => hv j (by omega)); rw [e]; exact ⟨kb, rfl, by omega, hkb, fun _ => by omega, hp⟩) hB ha_)

set_option maxHeartbeats 1000000 in
theorem digits_v  (s : ByteArray) (P ka dp : Nat) (w : World) (L : List Nat) (hL : LL L w) (hPL : P ∈ L) (hs : s.size ≤ 1000000) (hk : ka ≤ s.size) (hp : Blk w P (psC s ka dp))   : CW Try.prog 86 [.pointer (some ⟨P, 0, none⟩)] w P fun v W => v = .string (s.extract ka (digS s ka)) ∧ Blk W P (psC s (digS s ka) dp) := by
 refine cw_enter (N := 52) (f := [(0, .pointer (some ⟨P, 0, none⟩))]) Try.func86 rfl rfl rfl rfl fun Q hQ hE => ?_
 have hB := Chg.refl P w
 have hL0 := hL
 refine Sq fun K1 hK1 => (Rg (Pu rfl (Ni (hK1 (Sq fun K2 hK2 => (Rg (Pu rfl ?_)))))))
 refine Va (dx_nilCheck rfl rfl) rfl rfl (Va (dx_fld (o1 := 1) rfl ty_fld_53_1_1 rfl rfl) rfl rfl (Va (dx_load rfl ty_one_3 rfl (hp.cell (k := 1) rfl)) rfl rfl (Pu rfl (Ni (hK2 (Sq fun K3 hK3 => (WC.block ?_)))))))
 refine WC.loop (fun (kb : Nat) => [(0, .pointer (some ⟨P, 0, none⟩)), (3, .int .i64 (ka : Int))]) (fun (kb : Nat) W => kb ≤ s.size ∧ ka ≤ kb ∧ digS s ka = digS s kb ∧ Chg P w W ∧ LL (L) W ∧ Blk W P [.string s, .int .i64 (kb : Int), .int .i64 (dp : Int)]) (fun (kb : Nat) => s.size - kb) ka (by repeat first | exact trivial | exact And.intro rfl trivial | refine And.intro rfl ?_ | refine And.intro (congrArg (fun z : Int => some (Value.int .i64 z)) (by omega)) ?_) ⟨hk, Nat.le_refl _, rfl, hB, hL, hp⟩ ?_
 clear hp hB hL
 rintro K4 kb W5 ⟨hkb, hkk, hv, hB, hL, hp⟩ hK4
 refine Sq fun K6 hK6 => (Sq fun K7 hK7 => ?_)
 obtain ⟨b8, hb8⟩ : ∃ b, b = (!(decide (s.size ≤ kb))) := ⟨_, rfl⟩
 obtain ⟨b9, hb9⟩ : ∃ b, b = (b8 && (decide (48 ≤ atS s kb))) := ⟨_, rfl⟩
 refine WC.drawM 27 [(some 8, .is (.pointer (some ⟨P, 0, none⟩))), (some 9, .is (.bool (decide (s.size ≤ kb)))), (some 10, .is (.bool (!(decide (s.size ≤ kb))))), (some 11, .is (.bool b8)), (some 12, .is (bif b8 then .pointer (some ⟨P, 0, none⟩) else undef)), (some 13, .is (bif b8 then .pointer (some ⟨P, 0, none⟩) else undef)), (some 14, .is (bif b8 then .pointer (some ⟨P, 0, none⟩) else undef)), (some 15, .is (bif b8 then .string s else undef)), (some 16, .is (bif b8 then .pointer (some ⟨P, 0, none⟩) else undef)), (some 17, .is (bif b8 then .pointer (some ⟨P, 0, none⟩) else undef)), (some 18, .is (bif b8 then .pointer (some ⟨P, 1, none⟩) else undef)), (some 19, .is (bif b8 then .int .i64 (kb : Int) else undef)), (some 20, .is (bif b8 then .int .u8 (atS s kb) else undef)), (some 21, .is (bif b8 then .bool (decide (48 ≤ atS s kb)) else undef)), (some 22, .is (.bool (b8 && (decide (48 ≤ atS s kb))))), (some 23, .is (.bool b9)), (some 24, .is (bif b9 then .pointer (some ⟨P, 0, none⟩) else undef)), (some 25, .is (bif b9 then .pointer (some ⟨P, 0, none⟩) else undef)), (some 26, .is (bif b9 then .pointer (some ⟨P, 0, none⟩) else undef)), (some 27, .is (bif b9 then .string s else undef)), (some 28, .is (bif b9 then .pointer (some ⟨P, 0, none⟩) else undef)), (some 29, .is (bif b9 then .pointer (some ⟨P, 0, none⟩) else undef)), (some 30, .is (bif b9 then .pointer (some ⟨P, 1, none⟩) else undef)), (some 31, .is (bif b9 then .int .i64 (kb : Int) else undef)), (some 32, .is (bif b9 then .int .u8 (atS s kb) else undef)), (some 33, .is (bif b9 then .bool (decide (atS s kb ≤ 57)) else undef)), (some 34, .is (.bool (b9 && (decide (atS s kb ≤ 57)))))] [[], [0], [1], [2, 1], [3], [4, 3], [5, 3], [6, 3], [3], [8, 3], [9, 3], [10, 3], [7, 11, 3], [12, 3], [3, 13], [14, 3], [15], [16, 15], [17, 15], [18, 15], [15], [20, 15], [21, 15], [22, 15], [19, 23, 15], [24, 15], [15, 25]] (by kernel_rfl) (by kernel_rfl) (by kernel_rfl) (by kernel_rfl) (by kernel_rfl) (by kernel_rfl) (by kernel_rfl) (by exact trivial) ?_ ?_
 ·
  refine Dc (fun Wd hd => ?_) ?_
  ·
   exact Dd (dx_move rfl rfl) rfl
  refine Dc (fun Wd hd => ?_) ?_
  ·
   have hp := hp.below hd
   exact DR.mono (dx_cv rfl Try.func35 rfl rfl rfl (ended_v s P kb dp Wd _ (LL.below hL hd) hPL hs (by omega) hp)) (fun v W' ⟨h, hb⟩ => ⟨hb, (by rw [h]; exact rfl)⟩)
  refine Dc (fun Wd hd => ?_) ?_
  ·
   exact Dd (dx_not rfl rfl) rfl
  refine Dc (fun Wd hd => ?_) ?_
  ·
   exact DV.dr (dx_move rfl rfl) ⟨Below.refl _ _, by rw [hb8]; rfl⟩
  refine Dc (fun Wd hd => ?_) ?_
  ·
   cases b8
   ·
    exact Dd (dv_off rfl) rfl
   ·
    exact Dd (dx_move rfl rfl) rfl
  refine Dc (fun Wd hd => ?_) ?_
  ·
   cases b8
   ·
    exact Dd (dv_off rfl) rfl
   ·
    exact Dd (dx_nilCheck rfl rfl) rfl
  refine Dc (fun Wd hd => ?_) ?_
  ·
   cases b8
   ·
    exact Dd (dv_off rfl) rfl
   ·
    exact Dd (dx_fld (o1 := 0) rfl ty_fld_53_0_0 rfl rfl) rfl
  refine Dc (fun Wd hd => ?_) ?_
  ·
   cases b8
   ·
    exact Dd (dv_off rfl) rfl
   ·
    have hp := hp.below hd
    exact Dd (dx_load rfl ty_one_9 rfl (hp.cell (k := 0) rfl)) rfl
  refine Dc (fun Wd hd => ?_) ?_
  ·
   cases b8
   ·
    exact Dd (dv_off rfl) rfl
   ·
    exact Dd (dx_move rfl rfl) rfl
  refine Dc (fun Wd hd => ?_) ?_
  ·
   cases b8
   ·
    exact Dd (dv_off rfl) rfl
   ·
    exact Dd (dx_nilCheck rfl rfl) rfl
  refine Dc (fun Wd hd => ?_) ?_
  ·
   cases b8
   ·
    exact Dd (dv_off rfl) rfl
   ·
    exact Dd (dx_fld (o1 := 1) rfl ty_fld_53_1_1 rfl rfl) rfl
  refine Dc (fun Wd hd => ?_) ?_
  ·
   cases b8
   ·
    exact Dd (dv_off rfl) rfl
   ·
    have hp := hp.below hd
    exact Dd (dx_load rfl ty_one_3 rfl (hp.cell (k := 1) rfl)) rfl
  refine Dc (fun Wd hd => ?_) ?_
  ·
   cases b8
   ·
    exact Dd (dv_off rfl) rfl
   ·
    exact Dd (dx_at kb rfl Try.underlying9 rfl rfl (by omega) (by first | omega | (have hq0 := of_decide_eq_false (bnot_t hb8.symm); omega))) rfl
  refine Dc (fun Wd hd => ?_) ?_
  ·
   cases b8
   ·
    exact Dd (dv_off rfl) rfl
   ·
    exact Dd (dx_geq rfl rfl rfl) rfl
  refine Dc (fun Wd hd => ?_) ?_
  ·
   cases b8
   ·
    exact Dd (dx_pick rfl rfl rfl) rfl
   ·
    exact Dd (dx_pick rfl rfl rfl) rfl
  refine Dc (fun Wd hd => ?_) ?_
  ·
   exact DV.dr (dx_move rfl rfl) ⟨Below.refl _ _, by rw [hb9]; rfl⟩
  refine Dc (fun Wd hd => ?_) ?_
  ·
   cases b9
   ·
    exact Dd (dv_off rfl) rfl
   ·
    exact Dd (dx_move rfl rfl) rfl
  refine Dc (fun Wd hd => ?_) ?_
  ·
   cases b9
   ·
    exact Dd (dv_off rfl) rfl
   ·
    exact Dd (dx_nilCheck rfl rfl) rfl
  refine Dc (fun Wd hd => ?_) ?_
  ·
   cases b9
   ·
    exact Dd (dv_off rfl) rfl
   ·
    exact Dd (dx_fld (o1 := 0) rfl ty_fld_53_0_0 rfl rfl) rfl
  refine Dc (fun Wd hd => ?_) ?_
  ·
   cases b9
   ·
    exact Dd (dv_off rfl) rfl
   ·
    have hp := hp.below hd
    exact Dd (dx_load rfl ty_one_9 rfl (hp.cell (k := 0) rfl)) rfl
  refine Dc (fun Wd hd => ?_) ?_
  ·
   cases b9
   ·
    exact Dd (dv_off rfl) rfl
   ·
    exact Dd (dx_move rfl rfl) rfl
  refine Dc (fun Wd hd => ?_) ?_
  ·
   cases b9
   ·
    exact Dd (dv_off rfl) rfl
   ·
    exact Dd (dx_nilCheck rfl rfl) rfl
  refine Dc (fun Wd hd => ?_) ?_
  ·
   cases b9
   ·
    exact Dd (dv_off rfl) rfl
   ·
    exact Dd (dx_fld (o1 := 1) rfl ty_fld_53_1_1 rfl rfl) rfl
  refine Dc (fun Wd hd => ?_) ?_
  ·
   cases b9
   ·
    exact Dd (dv_off rfl) rfl
   ·
    have hp := hp.below hd
    exact Dd (dx_load rfl ty_one_3 rfl (hp.cell (k := 1) rfl)) rfl
  refine Dc (fun Wd hd => ?_) ?_
  ·
   cases b9
   ·
    exact Dd (dv_off rfl) rfl
   ·
    exact Dd (dx_at kb rfl Try.underlying9 rfl rfl (by omega) (by first | omega | (have hq0 := of_decide_eq_false (bnot_t (hb8.symm.trans (band_t hb9.symm).1)); have hq1 := of_decide_eq_true (band_t hb9.symm).2; omega))) rfl
  refine Dc (fun Wd hd => ?_) ?_
  ·
   cases b9
   ·
    exact Dd (dv_off rfl) rfl
   ·
    exact Dd (dx_leq rfl rfl rfl) rfl
  refine Dc (fun Wd hd => ?_) ?_
  ·
   cases b9
   ·
    exact Dd (dx_pick rfl rfl rfl) rfl
   ·
    exact Dd (dx_pick rfl rfl rfl) rfl
  exact trivial
 ·
  intro W10 b11
  replace hp := hp.below b11
  replace hB := Chg.thenB hB b11
  replace hL := LL.below hL b11
  refine Ni (hK7 ?_)
  refine WC.cond rfl (fun c12 => ?_) (fun c12 => ?_)
  ·
   obtain ⟨g13, g14⟩ := band_t c12
   replace g14 := dT g14
   refine WC.skip (hK6 (WC.block ?_))
   have hlt : kb < s.size := by rcases Nat.lt_or_ge kb s.size with h_ | h_; exact h_; exfalso; have := decide_eq_true h_; simp_all
   have hdg : isDig (atS s kb) = true := by unfold isDig; cases h1_ : decide (48 ≤ atS s kb) <;> cases h2_ : decide (atS s kb ≤ 57) <;> first | rfl | (exfalso; simp_all; done) | (exfalso; simp_all; omega)
   refine Rg (Pu rfl (Va (dx_nilCheck rfl rfl) rfl rfl (Va (dx_fld (o1 := 1) rfl ty_fld_53_1_1 rfl rfl) rfl rfl (Va (dx_load rfl ty_one_3 rfl (hp.cell (k := 1) rfl)) rfl rfl (Va (dx_add (r := ((kb + 1 : Nat) : Int)) rfl rfl rfl (by rw [wrap64_id (by omega)]; omega)) rfl rfl (Va (dx_nilCheck rfl rfl) rfl rfl (Va (dx_fld (o1 := 1) rfl ty_fld_53_1_1 rfl rfl) rfl rfl ?_)))))))
   refine WL.do (dx_store (cs' := [.string s, .int .i64 ((kb + 1 : Nat) : Int), .int .i64 (dp : Int)]) (vs := [.int .i64 ((kb + 1 : Nat) : Int)]) rfl ty_size_3_1 rfl rfl rfl (oc_cons rfl oc_nil) hp rfl (Nat.le_of_ble_eq_true rfl) rfl) rfl ?_
   rintro _ W15 ⟨k17, o16⟩
   clear hp
   replace hB := Chg.only hB o16 (.inl rfl)
   replace hL := LL.only hL o16
   refine Ni ?_
   exact hK4 (kb + 1) ⟨(by omega), (by omega), (hv.trans (dig_go (by omega) hdg)), hB, hL, k17⟩ (by omega) (by repeat first | exact trivial | exact And.intro rfl trivial | refine And.intro rfl ?_ | refine And.intro (congrArg (fun z : Int => some (Value.int .i64 z)) (by omega)) ?_)
  ·
   refine WC.exit ?_
   refine hK3 (Sq fun K18 hK18 => ?_)
   refine WC.drawM 9 [(some 42, .is (.pointer (some ⟨P, 0, none⟩))), (some 43, .is (.pointer (some ⟨P, 0, none⟩))), (some 44, .is (.pointer (some ⟨P, 0, none⟩))), (some 45, .is (.string s)), (some 46, .is (.int .i64 (ka : Int))), (some 47, .is (.pointer (some ⟨P, 0, none⟩))), (some 48, .is (.pointer (some ⟨P, 0, none⟩))), (some 49, .is (.pointer (some ⟨P, 1, none⟩))), (some 50, .is (.int .i64 (kb : Int)))] [[], [0], [1], [2], [], [], [5], [6], [7]] (by kernel_rfl) (by kernel_rfl) (by kernel_rfl) (by kernel_rfl) (by kernel_rfl) (by kernel_rfl) (by kernel_rfl) (by exact trivial) ?_ ?_
   ·
    refine Dc (fun Wd hd => ?_) ?_
    ·
     exact Dd (dx_move rfl rfl) rfl
    refine Dc (fun Wd hd => ?_) ?_
    ·
     exact Dd (dx_nilCheck rfl rfl) rfl
    refine Dc (fun Wd hd => ?_) ?_
    ·
     exact Dd (dx_fld (o1 := 0) rfl ty_fld_53_0_0 rfl rfl) rfl
    refine Dc (fun Wd hd => ?_) ?_
    ·
     have hp := hp.below hd
     exact Dd (dx_load rfl ty_one_9 rfl (hp.cell (k := 0) rfl)) rfl
    refine Dc (fun Wd hd => ?_) ?_
    ·
     exact Dd (dx_move rfl rfl) rfl
    refine Dc (fun Wd hd => ?_) ?_
    ·
     exact Dd (dx_move rfl rfl) rfl
    refine Dc (fun Wd hd => ?_) ?_
    ·
     exact Dd (dx_nilCheck rfl rfl) rfl
    refine Dc (fun Wd hd => ?_) ?_
    ·
     exact Dd (dx_fld (o1 := 1) rfl ty_fld_53_1_1 rfl rfl) rfl
    refine Dc (fun Wd hd => ?_) ?_
    ·
     have hp := hp.below hd
     exact Dd (dx_load rfl ty_one_3 rfl (hp.cell (k := 1) rfl)) rfl
    exact trivial
   ·
    intro W19 b20
    replace hp := hp.below b20
    replace hB := Chg.thenB hB b20
    refine Va (dx_slTLH ka kb rfl Try.underlying9 rfl rfl rfl (by omega) (by omega) (by omega) (by omega)) rfl rfl (Pu rfl (Ni (hK18 ?_)))
    exact WC.ret fun a_ ha_ => hQ (cw_ret1 rfl (.tmp rfl) (by have e : digS s ka = kb := (by rw [hv]; exact dig_stop (fun ⟨h1, h2⟩ => by unfold isDig at h2; have h3 : ¬ s.size ≤ kb := (by omega); simp_all)); rw [e]; exact ⟨rfl, hp⟩) hB ha_)

def encI (r : Int) : List Int :=
 if r < 128 then [r] else if r < 2048 then [192 + r / 64, 128 + r % 64] else if r < 65536 then [224 + r / 4096, 128 + r / 64 % 64, 128 + r % 64]
 else [240 + r / 262144, 128 + r / 4096 % 64, 128 + r / 64 % 64, 128 + r % 64]
theorem encI_len (r : Int) : 1 ≤ (encI r).length ∧ (encI r).length ≤ 4 := by
 unfold encI
 split
 · simp
 split
 · simp
 split <;> simp
theorem encI_bytes {r : Int} (h0 : 0 ≤ r) (h1 : r ≤ 1114111) : Bytes (encI r) := by
 intro x hx
 unfold encI at hx
 split at hx
 · simp at hx; omega
 split at hx
 · simp at hx; omega
 split at hx <;> (simp at hx; omega)

set_option maxHeartbeats 1000000 in
theorem put1_any (v : Value) (n : Nat) (xs : List Value) (B : Nat) (r : Int) (w : World) (h1 : 0 ≤ r) (h2 : r ≤ 127) (hown : w.ownsRow B 5 1 v n xs) (hB : B ≤ w.heap.size) (hlen : n ≤ 10000000) :
  Calls Try.prog 135 #[v, .int .i32 r] w fun e w' => ∃ v', e = .returned v' ∧ w'.ownsRow B 5 1 v' (n + 1) (xs ++ [.int .u8 (r)]) ∧ Below B w w' := by
 obtain ⟨j0, hj, hy0, hy1, hy2⟩ := info_parts info_u8
 have hw : widthI r = 1 := by unfold widthI; omega
 have hb := Below.refl B w
 go_enter Try.func135, Try.ntmps135
 go_wp2_with (first | (go_at_call 117; refine (width_any _ _).mono ?_; rintro e w1 ⟨rfl, rfl⟩) | (at_builtin; refine wpList_append_rd rfl _ _ 50 rfl B 5 j0 (.int .u8 0) 1 Try.underlying50 hj hy0 hy1 hy2 rfl _ _ _ rfl (hown.alloc _) _ 1 1 [.int .u8 (r)] rfl reads_one (by simp [Value.oneCell']) (by unfold maxLen; omega) (by omega) (by have hs1 := hb.size; simp only [World.size_alloc]; omega) (by simp) ?_; intro v2 w2 hown2 hgr2 hc2; have hb2 := (hb.alloc (by have hs2 := hb.size; omega) _).trans hc2; clear hc2 hgr2))
 go_ret
 exact ⟨_, rfl, by simpa [Nat.add_assoc, List.append_assoc] using hown2, hb2⟩
set_option maxHeartbeats 1000000 in
theorem put2_any (v : Value) (n : Nat) (xs : List Value) (B : Nat) (r : Int) (w : World) (h1 : 128 ≤ r) (h2 : r ≤ 2047) (hown : w.ownsRow B 5 1 v n xs) (hB : B ≤ w.heap.size) (hlen : n ≤ 10000000) :
  Calls Try.prog 135 #[v, .int .i32 r] w fun e w' => ∃ v', e = .returned v' ∧ w'.ownsRow B 5 1 v' (n + 2) (xs ++ [.int .u8 (192 + r / 64), .int .u8 (128 + r % 64)]) ∧ Below B w w' := by
 obtain ⟨j0, hj, hy0, hy1, hy2⟩ := info_parts info_u8
 have hw : widthI r = 2 := by unfold widthI; omega
 have hb := Below.refl B w
 go_enter Try.func135, Try.ntmps135
 go_wp2_with (first | (go_at_call 117; refine (width_any _ _).mono ?_; rintro e w1 ⟨rfl, rfl⟩) | (at_builtin; refine wpList_append_rd rfl _ _ 50 rfl B 5 j0 (.int .u8 0) 1 Try.underlying50 hj hy0 hy1 hy2 rfl _ _ _ rfl (hown.alloc _) _ 1 1 [.int .u8 (192 + r / 64)] rfl reads_one (by simp [Value.oneCell']) (by unfold maxLen; omega) (by omega) (by have hs1 := hb.size; simp only [World.size_alloc]; omega) (by simp) ?_; intro v2 w2 hown2 hgr2 hc2; have hb2 := (hb.alloc (by have hs2 := hb.size; omega) _).trans hc2; clear hc2 hgr2))
 refine wp_loop_rounds 2 ?_
 rw [rounds_succ]
 go_wp2_with (at_builtin; refine wpList_append_rd rfl _ _ 50 rfl B 5 j0 (.int .u8 0) 1 Try.underlying50 hj hy0 hy1 hy2 rfl _ _ _ rfl (hown2.alloc _) _ 1 1 [.int .u8 (128 + r % 64)] rfl reads_one (by simp [Value.oneCell']) (by unfold maxLen; omega) (by omega) (by have hs1 := hb2.size; simp only [World.size_alloc]; omega) (by simp) ?_; intro v3 w3 hown3 hgr3 hc3; have hb3 := (hb2.alloc (by have hs2 := hb2.size; omega) _).trans hc3; clear hc3 hgr3)
 rw [rounds_succ]
 go_wp2
 go_ret
 exact ⟨_, rfl, by simpa [Nat.add_assoc, List.append_assoc] using hown3, hb3⟩
set_option maxHeartbeats 1000000 in
theorem put3_any (v : Value) (n : Nat) (xs : List Value) (B : Nat) (r : Int) (w : World) (h1 : 2048 ≤ r) (h2 : r ≤ 65535) (hown : w.ownsRow B 5 1 v n xs) (hB : B ≤ w.heap.size) (hlen : n ≤ 10000000) :
  Calls Try.prog 135 #[v, .int .i32 r] w fun e w' => ∃ v', e = .returned v' ∧ w'.ownsRow B 5 1 v' (n + 3) (xs ++ [.int .u8 (224 + r / 4096), .int .u8 (128 + r / 64 % 64), .int .u8 (128 + r % 64)]) ∧ Below B w w' := by
 obtain ⟨j0, hj, hy0, hy1, hy2⟩ := info_parts info_u8
 have hw : widthI r = 3 := by unfold widthI; omega
 have hb := Below.refl B w
 go_enter Try.func135, Try.ntmps135
 go_wp2_with (first | (go_at_call 117; refine (width_any _ _).mono ?_; rintro e w1 ⟨rfl, rfl⟩) | (at_builtin; refine wpList_append_rd rfl _ _ 50 rfl B 5 j0 (.int .u8 0) 1 Try.underlying50 hj hy0 hy1 hy2 rfl _ _ _ rfl (hown.alloc _) _ 1 1 [.int .u8 (224 + r / 4096)] rfl reads_one (by simp [Value.oneCell']) (by unfold maxLen; omega) (by omega) (by have hs1 := hb.size; simp only [World.size_alloc]; omega) (by simp) ?_; intro v2 w2 hown2 hgr2 hc2; have hb2 := (hb.alloc (by have hs2 := hb.size; omega) _).trans hc2; clear hc2 hgr2))
 refine wp_loop_rounds 3 ?_
 rw [rounds_succ]
 go_wp2_with (at_builtin; refine wpList_append_rd rfl _ _ 50 rfl B 5 j0 (.int .u8 0) 1 Try.underlying50 hj hy0 hy1 hy2 rfl _ _ _ rfl (hown2.alloc _) _ 1 1 [.int .u8 (128 + r / 64 % 64)] rfl reads_one (by simp [Value.oneCell']) (by unfold maxLen; omega) (by omega) (by have hs1 := hb2.size; simp only [World.size_alloc]; omega) (by simp) ?_; intro v3 w3 hown3 hgr3 hc3; have hb3 := (hb2.alloc (by have hs2 := hb2.size; omega) _).trans hc3; clear hc3 hgr3)
 rw [rounds_succ]
 go_wp2_with (at_builtin; refine wpList_append_rd rfl _ _ 50 rfl B 5 j0 (.int .u8 0) 1 Try.underlying50 hj hy0 hy1 hy2 rfl _ _ _ rfl (hown3.alloc _) _ 1 1 [.int .u8 (128 + r % 64)] rfl reads_one (by simp [Value.oneCell']) (by unfold maxLen; omega) (by omega) (by have hs1 := hb3.size; simp only [World.size_alloc]; omega) (by simp) ?_; intro v4 w4 hown4 hgr4 hc4; have hb4 := (hb3.alloc (by have hs2 := hb3.size; omega) _).trans hc4; clear hc4 hgr4)
 rw [rounds_succ]
 go_wp2
 go_ret
 exact ⟨_, rfl, by simpa [Nat.add_assoc, List.append_assoc] using hown4, hb4⟩
set_option maxHeartbeats 1000000 in
theorem put4_any (v : Value) (n : Nat) (xs : List Value) (B : Nat) (r : Int) (w : World) (h1 : 65536 ≤ r) (h2 : r ≤ 1114111) (hown : w.ownsRow B 5 1 v n xs) (hB : B ≤ w.heap.size) (hlen : n ≤ 10000000) :
  Calls Try.prog 135 #[v, .int .i32 r] w fun e w' => ∃ v', e = .returned v' ∧ w'.ownsRow B 5 1 v' (n + 4) (xs ++ [.int .u8 (240 + r / 262144), .int .u8 (128 + r / 4096 % 64), .int .u8 (128 + r / 64 % 64), .int .u8 (128 + r % 64)]) ∧ Below B w w' := by
 obtain ⟨j0, hj, hy0, hy1, hy2⟩ := info_parts info_u8
 have hw : widthI r = 4 := by unfold widthI; omega
 have hb := Below.refl B w
 go_enter Try.func135, Try.ntmps135
 go_wp2_with (first | (go_at_call 117; refine (width_any _ _).mono ?_; rintro e w1 ⟨rfl, rfl⟩) | (at_builtin; refine wpList_append_rd rfl _ _ 50 rfl B 5 j0 (.int .u8 0) 1 Try.underlying50 hj hy0 hy1 hy2 rfl _ _ _ rfl (hown.alloc _) _ 1 1 [.int .u8 (240 + r / 262144)] rfl reads_one (by simp [Value.oneCell']) (by unfold maxLen; omega) (by omega) (by have hs1 := hb.size; simp only [World.size_alloc]; omega) (by simp) ?_; intro v2 w2 hown2 hgr2 hc2; have hb2 := (hb.alloc (by have hs2 := hb.size; omega) _).trans hc2; clear hc2 hgr2))
 refine wp_loop_rounds 4 ?_
 rw [rounds_succ]
 go_wp2_with (at_builtin; refine wpList_append_rd rfl _ _ 50 rfl B 5 j0 (.int .u8 0) 1 Try.underlying50 hj hy0 hy1 hy2 rfl _ _ _ rfl (hown2.alloc _) _ 1 1 [.int .u8 (128 + r / 4096 % 64)] rfl reads_one (by simp [Value.oneCell']) (by unfold maxLen; omega) (by omega) (by have hs1 := hb2.size; simp only [World.size_alloc]; omega) (by simp) ?_; intro v3 w3 hown3 hgr3 hc3; have hb3 := (hb2.alloc (by have hs2 := hb2.size; omega) _).trans hc3; clear hc3 hgr3)
 rw [rounds_succ]
 go_wp2_with (at_builtin; refine wpList_append_rd rfl _ _ 50 rfl B 5 j0 (.int .u8 0) 1 Try.underlying50 hj hy0 hy1 hy2 rfl _ _ _ rfl (hown3.alloc _) _ 1 1 [.int .u8 (128 + r / 64 % 64)] rfl reads_one (by simp [Value.oneCell']) (by unfold maxLen; omega) (by omega) (by have hs1 := hb3.size; simp only [World.size_alloc]; omega) (by simp) ?_; intro v4 w4 hown4 hgr4 hc4; have hb4 := (hb3.alloc (by have hs2 := hb3.size; omega) _).trans hc4; clear hc4 hgr4)
 rw [rounds_succ]
 go_wp2_with (at_builtin; refine wpList_append_rd rfl _ _ 50 rfl B 5 j0 (.int .u8 0) 1 Try.underlying50 hj hy0 hy1 hy2 rfl _ _ _ rfl (hown4.alloc _) _ 1 1 [.int .u8 (128 + r % 64)] rfl reads_one (by simp [Value.oneCell']) (by unfold maxLen; omega) (by omega) (by have hs1 := hb4.size; simp only [World.size_alloc]; omega) (by simp) ?_; intro v5 w5 hown5 hgr5 hc5; have hb5 := (hb4.alloc (by have hs2 := hb4.size; omega) _).trans hc5; clear hc5 hgr5)
 rw [rounds_succ]
 go_wp2
 go_ret
 exact ⟨_, rfl, by simpa [Nat.add_assoc, List.append_assoc] using hown5, hb5⟩

theorem put_any (v : Value) (n : Nat) (xs : List Value) (B : Nat) (r : Int) (w : World) (h1 : 0 ≤ r) (h2 : r ≤ 1114111) (hown : w.ownsRow B 5 1 v n xs) (hB : B ≤ w.heap.size) (hlen : n ≤ 10000000) :
    Calls Try.prog 135 #[v, .int .i32 r] w fun e w' => ∃ v', e = .returned v' ∧ w'.ownsRow B 5 1 v' (n + (encI r).length) (xs ++ (encI r).map (Value.int .u8)) ∧ Below B w w' := by
  by_cases a : r ≤ 127
  · rw [show encI r = [r] by rw [encI, if_pos (by omega)]]
    exact put1_any v n xs B r w h1 a hown hB hlen
  by_cases b : r ≤ 2047
  · rw [show encI r = [192 + r / 64, 128 + r % 64] by rw [encI, if_neg (by omega), if_pos (by omega)]]
    exact put2_any v n xs B r w (by omega) b hown hB hlen
  by_cases c : r ≤ 65535
  · rw [show encI r = [224 + r / 4096, 128 + r / 64 % 64, 128 + r % 64] by rw [encI, if_neg (by omega), if_neg (by omega), if_pos (by omega)]]
    exact put3_any v n xs B r w (by omega) c hown hB hlen
  · rw [show encI r = [240 + r / 262144, 128 + r / 4096 % 64, 128 + r / 64 % 64, 128 + r % 64] by rw [encI, if_neg (by omega), if_neg (by omega), if_neg (by omega)]]
    exact put4_any v n xs B r w (by omega) h2 hown hB hlen

def encS : List Int → Option (List Int)
 | [] => some []
 | r :: t => if isRuneB r then (encS t).map (encI r ++ ·) else none

def EncPost (B : Nat) (w : World) (l : List Int) (e : Ending) (w' : World) : Prop :=
 ∃ v c, e = .returned (.tuple #[v, .int .i64 c]) ∧ Below B w w' ∧
  ((∃ bs, encS l = some bs ∧ c = 0 ∧ bs.length ≤ 4 * l.length ∧ Bytes bs ∧ w'.ownsRow B 5 1 v bs.length (bs.map (Value.int .u8))) ∨ (encS l = none ∧ c = 2 ∧ v = .slice none 0 0))

theorem encS_snoc (l : List Int) (r : Int) (bs : List Int) (h : encS l = some bs) : encS (l ++ [r]) = if isRuneB r then some (bs ++ encI r) else none := by
  induction l generalizing bs with
  | nil =>
    cases h
    simp only [List.nil_append, encS]
    split <;> simp
  | cons x t ih =>
    simp only [encS, List.cons_append] at h ⊢
    split at h
    · rename_i hx
      rw [if_pos hx]
      cases ht : encS t with
      | none => rw [ht] at h; cases h
      | some ts =>
        rw [ht] at h
        cases h
        rw [ih ts ht]
        split <;> simp
    · cases h
theorem encS_none (l t : List Int) (r : Int) (h : isRuneB r = false) : encS (l ++ r :: t) = none := by
 induction l with
 | nil => simp [encS, h]
 | cons x l ih =>
  simp only [List.cons_append, encS]
  split
  · rw [ih]; rfl
  · rfl
theorem isRune_range {r : Int} (h : isRuneB r = true) : 0 ≤ r ∧ r ≤ 1114111 := by
 simp [isRuneB] at h
 omega
theorem take_at0 (l : List Int) (k : Nat) (h : k < l.length) : l.take (k + 1) = l.take k ++ [at0 l k] := by
 rw [List.take_add_one, List.getElem?_eq_getElem h, at0_lt h]; rfl
theorem split_at0 (l : List Int) (k : Nat) (h : k < l.length) : l = l.take k ++ at0 l k :: l.drop (k + 1) := by
 rw [at0_lt h]
 simp

set_option maxHeartbeats 1000000 in
theorem encode_any (v : Value) (l : List Int) (w : World) (h : RdI .i32 w v l) (hlen : l.length ≤ 1000000) :
    Calls Try.prog 119 #[v] w (EncPost w.heap.size w l) := by
  obtain ⟨j0, hj, hy0, hy1, hy2⟩ := info_parts info_u8
  obtain ⟨a, ca, rfl, hla, hma, ha, -⟩ := h
  unfold maxLen at hma
  have HA := Lib.hid ha; clear ha
  go_enter Try.func119, Try.ntmps119
  go_wp2
  go_loopw [4, 9] (fun out i wr => ∃ (k : Nat) (bs : List Int), k ≤ l.length ∧ i = .int .i64 k ∧ encS (l.take k) = some bs ∧ bs.length ≤ 4 * k ∧ Bytes bs ∧ wr.ownsRow w.heap.size 5 1 out bs.length (bs.map (Value.int .u8)) ∧ Below w.heap.size w wr) (fun out i _ => l.length - (intOf i).toNat)
  case atStart => exact ⟨0, [], Nat.zero_le _, rfl, rfl, by simp, (by intro x hx; cases hx), World.ownsRow_nil _ _ _ _, Below.refl _ _⟩
  case round =>
    obtain ⟨k, bs, hk, rfl, henc, hbl, hbb, hown, hbel⟩ := hrel
    have HE := Lib.hid henc; clear henc
    by_cases hlt : k < l.length
    · obtain ⟨x, o, rfl, hc0⟩ := HA.out k hlt
      have hc := (hbel.cell (p := ⟨x, o + k, none⟩) (World.block_lt_of_cell? w _ hc0)).trans hc0
      have hdec : l = l.take k ++ at0 l k :: l.drop (k + 1) := split_at0 l k hlt
      have HD := Lib.hid hdec; clear hdec HA
      by_cases hr : isRuneB (at0 l k) = true
      · obtain ⟨q0, q1⟩ := isRune_range hr
        obtain ⟨q2, q3⟩ := encI_len (at0 l k)
        go_wp2_with (first
          | (go_at_call 116; refine (isRune_any _ _).mono ?_; rintro e w1 ⟨rfl, rfl⟩)
          | (go_at_call 135; refine (put_any _ _ _ _ _ _ q0 q1 hown (by have hs0 := hbel.size; omega) (by omega)).mono ?_; rintro e w2 ⟨v2, rfl, hown2, hb2⟩; have HB := hbel.trans hb2))
        refine ⟨⟨k + 1, bs ++ encI (at0 l k), by omega, by go_num, ?_, by simp; omega, hbb.append (encI_bytes q0 q1), by simpa using hown2, HB⟩, by simp [intOf]; omega⟩
        rw [take_at0 l k hlt, encS_snoc _ _ _ HE.out, if_pos hr]
      · have hr' : isRuneB (at0 l k) = false := by simpa using hr
        clear hr
        go_wp2_with (go_at_call 116; refine (isRune_any _ _).mono ?_; rintro e w1 ⟨rfl, rfl⟩)
        go_ret2
        refine ⟨_, _, rfl, hbel, .inr ⟨?_, rfl, rfl⟩⟩
        rw [HD.out]
        exact encS_none _ _ _ hr'
    · clear HA
      go_wp2
      go_ret2
      refine ⟨_, _, rfl, hbel, .inl ⟨bs, ?_, rfl, by omega, hbb, hown⟩⟩
      have he := HE.out
      rwa [List.take_of_length_le (by omega)] at he
def hexD (c : Int) : Int := if 48 ≤ c ∧ c ≤ 57 then c - 48 else if 97 ≤ c ∧ c ≤ 102 then c - 87 else if 65 ≤ c ∧ c ≤ 70 then c - 55 else -1
theorem hexD_le (c : Int) : -1 ≤ hexD c ∧ hexD c ≤ 15 := by
 unfold hexD
 repeat' split
 all_goals omega
def fourN (s : ByteArray) : Nat → Nat → Int → Option Int
 | 0, _, r => some r
 | n + 1, k, r => if (decide (k < s.size) && decide (0 ≤ hexD (atS s k))) = true then fourN s n (k + 1) (r * 16 + hexD (atS s k)) else none
theorem four_go {s : ByteArray} {n k : Nat} {r : Int} (h : k < s.size) (hb : 0 ≤ hexD (atS s k)) : fourN s (n + 1) k r = fourN s n (k + 1) (r * 16 + hexD (atS s k)) := by
 rw [fourN, decide_eq_true h, decide_eq_true hb]
 rfl
theorem four_stop {s : ByteArray} {n k : Nat} {r : Int} (h : ¬ (k < s.size ∧ 0 ≤ hexD (atS s k))) : fourN s (n + 1) k r = none := by
 rw [fourN, if_neg]
 intro hc
 rw [Bool.and_eq_true, decide_eq_true_eq, decide_eq_true_eq] at hc
 exact h hc
def fourS (s : ByteArray) (k : Nat) : Option Int := fourN s 4 k 0
def escR (s : ByteArray) (k : Nat) : Option (Int × Nat) :=
 match fourS s k with
 | none => none
 | some r => if r < 55296 ∨ 56319 < r then some (r, k + 4) else if (takeS s (k + 4) 92 && takeS s (k + 5) 117) = true then
   match fourS s (k + 6) with
   | none => none
   | some q => if q < 56320 ∨ 57343 < q then none else some (65536 + (r - 55296) * 1024 + (q - 56320), k + 10)
  else none
def escB (s : ByteArray) (k : Nat) : Option (List Int × Nat) :=
 if takeS s k 117 = true then
  match escR s (k + 1) with
  | none => none
  | some (r, k') => if isRuneB r = true then some (encI r, k') else none
 else if k < s.size then
  if atS s k = 34 ∨ atS s k = 92 ∨ atS s k = 47 then some ([atS s k], k + 1) else if atS s k = 98 then some ([8], k + 1) else if atS s k = 102 then some ([12], k + 1)
  else if atS s k = 110 then some ([10], k + 1) else if atS s k = 114 then some ([13], k + 1) else if atS s k = 116 then some ([9], k + 1) else none
 else none
theorem wrap32_id {x : Int} (h : -2147483648 ≤ x ∧ x ≤ 2147483647) : IntKind.i32.wrap x = x := by rw [IntKind.wrap_i32]; omega
section
variable {P : Program} {ops : Array Oper} {o : Oper} {N : Nat} {f : Fl} {w : World}
theorem dx_shl {t t' : TypeId} {x y : Operand} {K K2 : IntKind} {m n r : Int} (ho : o.op = .binOp .shl t x y t') (hx : ev f x = some (.int K m)) (hy : ev f y = some (.int K2 n)) (hn : 0 ≤ n) (hn2 : n ≤ K.bits) (hr : K.wrap (m * 2 ^ n.toNat) = r) (hw : wantF ops o f = some true := by rfl) : DV P ops o N f w (.int K r) := fun a ha =>
 Does.shl (wantF_of ha hw) ho (ha.ev hx) (ha.ev hy) hn hn2 hr ⟨rfl, rfl⟩
end
theorem Chg.thenBase {B : Nat} {w W W' : World} (h : Chg B w W) (k : Below w.heap.size W W') : Chg B w W' := ⟨k.os.trans h.os, k.tape.trans h.tape, k.output.trans h.output, Nat.le_trans h.size k.size, fun i hi hne => (k.block i hi).trans (h.block i hi hne)⟩
theorem Blk.base {w w' : World} {B n : Nat} {cs : List Value} (h : Blk w B cs) (k : Below n w w') (hB : B < n) : Blk w' B cs := by
 obtain ⟨t, ht⟩ := h
 exact ⟨t, (k.block B hB).trans ht⟩
theorem LL.base {L : List Nat} {w w' : World} {n : Nat} (h : LL L w) (k : Below n w w') : LL L w' := fun x hx => Nat.lt_of_lt_of_le (h x hx) k.size
theorem NewW.chg {s base B : Nat} {rs : List (List Value)} {u : Value} {w w' : World} (h : NewW s base rs u w) (g : Chg B w w') (hB : B < base) : NewW s base rs u w' := by
 rcases h with h | ⟨C, h1, h2⟩
 · exact .inl h
 · exact .inr ⟨C, h1, h2.chgL g (by omega)⟩
theorem NewW.of_own {s base B : Nat} {rs : List (List Value)} {u : Value} {w : World} (h : OwS s w u rs B) (hb : base ≤ B) : NewW s base rs u w := .inr ⟨B, hb, h⟩
theorem NewW.of_row {w : World} {base e n : Nat} {v : Value} {bs : List Int} (h : w.ownsRow base e 1 v n (bs.map (Value.int .u8))) : NewW 1 base (bs.map e8) v w := by
  obtain ⟨hl, h2⟩ := h
  rw [List.length_map, Nat.mul_one] at hl
  subst hl
  rcases h2 with ⟨rfl, h0⟩ | ⟨g, cap, cur, rfl, hb, hh, hn, hm, hs, ht⟩
  · exact .inl ⟨rfl, by rw [List.length_eq_zero_iff.1 h0]; rfl, by decide⟩
  · refine .inr ⟨g, hb, by decide, fun r hr => ?_, cap, cur.toList.drop bs.length, by rw [List.length_map], by rw [List.length_map]; exact hn, hm, ?_, e, ?_⟩
    · obtain ⟨x, _, rfl⟩ := List.mem_map.1 hr
      rfl
    · rw [List.length_drop, Array.length_toList, hs, List.length_map]; omega
    · rw [Nat.mul_one] at ht
      rw [show (bs.map e8).flatten = bs.map (Value.int .u8) from flat_one bs, ← ht, List.take_append_drop, hh]
theorem rdI32_of {L : List Nat} {w : World} {v : Value} {z : Int} (h : RdF 1 L w v [[.int .i32 z]]) : RdI .i32 w v [z] := by
 obtain ⟨_, _, a, cap, rfl, h2, h3, h4, h5⟩ := h
 refine ⟨a, cap, rfl, h2, h3, fun k hk => ?_, h4⟩
 obtain ⟨X, q, rfl, _, hr⟩ := h5 (by simp)
 obtain rfl : k = 0 := Nat.lt_one_iff.1 hk
 exact ⟨X, q, rfl, hr 0 (.int .i32 z) rfl⟩
theorem encode_cv (u : Value) (r : Int) (w : World) (h : RdI .i32 w u [r]) : CV Try.prog 119 [u] w fun v W => (∃ x, v = .tuple #[x, .int .i64 0] ∧ isRuneB r = true ∧ NewW 1 w.heap.size ((encI r).map e8) x W) ∨ (v = .tuple #[.slice none 0 0, .int .i64 2] ∧ isRuneB r = false) :=
  Calls.mono (encode_any u [r] w h (show 1 ≤ 1000000 by decide)) fun e w' h => by
    obtain ⟨v, c, rfl, hb, h⟩ := h
    refine ⟨_, rfl, ?_, hb⟩
    rcases h with ⟨bs, h1, rfl, h2, h3, h4⟩ | ⟨h1, rfl, rfl⟩
    · cases hr : isRuneB r with
      | false => rw [encS, hr] at h1; cases h1
      | true =>
        rw [encS, hr] at h1
        obtain rfl : encI r ++ [] = bs := Option.some.inj h1
        rw [List.append_nil] at h4
        exact .inl ⟨v, rfl, rfl, .of_row h4⟩
    · cases hr : isRuneB r with
      | true => rw [encS, hr] at h1; cases h1
      | false => exact .inr ⟨rfl, rfl⟩
set_option maxHeartbeats 1000000 in
theorem digit_v (c : Int) (w : World) (L : List Nat) (hL : LL L w)   (hc : 0 ≤ c ∧ c < 256) : CV Try.prog 139 [.int .u8 c] w fun v W => v = .int .i32 (hexD c) := by
 refine cv_enter (N := 35) (f := [(0, .int .u8 c)]) Try.func139 rfl rfl rfl rfl fun Q hQ hE => ?_
 have hB := Below.refl w.heap.size w
 refine Sq fun K1 hK1 => (Rg (Pu rfl (Ni (hK1 (Sq fun K2 hK2 => (WC.block (Sq fun K3 hK3 => ?_)))))))
 refine Rg (Pu rfl (Va (dx_geq rfl rfl rfl) rfl rfl (Pu rfl ?_)))
 refine WL.split 6 rfl (fun g4 => ?_) (fun g4 => ?_)
 ·
  replace g4 := dT g4
  refine Pu rfl (Va (dx_leq rfl rfl rfl) rfl rfl (Pu rfl (Pu rfl (Ni (hK3 ?_)))))
  refine WC.cond rfl (fun c5 => ?_) (fun c5 => ?_)
  ·
   replace c5 := dT c5
   refine Sq fun K6 hK6 => (Rg (Pu rfl (Va (dx_sub (r := c - 48) rfl rfl rfl (wrapu8_id (by omega))) rfl rfl (Va (dx_conv (r := c - 48) rfl Try.underlying5 Try.underlying21 rfl (wrap32_id (by omega))) rfl rfl (Pu rfl (Ni (hK6 ?_)))))))
   exact WC.ret fun a_ ha_ => hQ (cv_ret1 rfl (.tmp rfl) (by (try simp only [Bool.and_eq_false_iff, decide_eq_false_iff_not, Int.not_le] at *); congr 1; unfold hexD; repeat' split; all_goals omega) hB ha_)
  ·
   replace c5 := dF c5
   refine Sq fun K7 hK7 => (Rg (Pu rfl (Va (dx_geq rfl rfl rfl) rfl rfl (Pu rfl ?_))))
   refine WL.split 16 rfl (fun g8 => ?_) (fun g8 => ?_)
   ·
    replace g8 := dT g8
    refine Pu rfl (Va (dx_leq rfl rfl rfl) rfl rfl (Pu rfl (Pu rfl (Ni (hK7 ?_)))))
    refine WC.cond rfl (fun c9 => ?_) (fun c9 => ?_)
    ·
     replace c9 := dT c9
     refine Sq fun K10 hK10 => (Rg (Pu rfl (Va (dx_sub (r := c - 97) rfl rfl rfl (wrapu8_id (by omega))) rfl rfl (Va (dx_conv (r := c - 97) rfl Try.underlying5 Try.underlying21 rfl (wrap32_id (by omega))) rfl rfl (Va (dx_add (r := (c - 97) + 10) rfl rfl rfl (wrap32_id (by omega))) rfl rfl (Pu rfl (Ni ?_)))))))
     refine hK10 ?_
     exact WC.ret fun a_ ha_ => hQ (cv_ret1 rfl (.tmp rfl) (by (try simp only [Bool.and_eq_false_iff, decide_eq_false_iff_not, Int.not_le] at *); congr 1; unfold hexD; repeat' split; all_goals omega) hB ha_)
    ·
     replace c9 := dF c9
     refine Sq fun K11 hK11 => (Rg (Pu rfl (Va (dx_geq rfl rfl rfl) rfl rfl (Pu rfl ?_))))
     refine WL.split 27 rfl (fun g12 => ?_) (fun g12 => ?_)
     ·
      replace g12 := dT g12
      refine Pu rfl (Va (dx_leq rfl rfl rfl) rfl rfl (Pu rfl (Pu rfl (Ni (hK11 ?_)))))
      refine WC.cond rfl (fun c13 => ?_) (fun c13 => ?_)
      ·
       replace c13 := dT c13
       refine Sq fun K14 hK14 => (Rg (Pu rfl (Va (dx_sub (r := c - 65) rfl rfl rfl (wrapu8_id (by omega))) rfl rfl (Va (dx_conv (r := c - 65) rfl Try.underlying5 Try.underlying21 rfl (wrap32_id (by omega))) rfl rfl (Va (dx_add (r := (c - 65) + 10) rfl rfl rfl (wrap32_id (by omega))) rfl rfl (Pu rfl (Ni ?_)))))))
       refine hK14 ?_
       exact WC.ret fun a_ ha_ => hQ (cv_ret1 rfl (.tmp rfl) (by (try simp only [Bool.and_eq_false_iff, decide_eq_false_iff_not, Int.not_le] at *); congr 1; unfold hexD; repeat' split; all_goals omega) hB ha_)
      ·
       replace c13 := dF c13
       refine WC.skip (hK2 (Sq fun K15 hK15 => (Rg (Pu rfl (Ni (hK15 ?_))))))
       exact WC.ret fun a_ ha_ => hQ (cv_ret1 rfl (.tmp rfl) (by (try simp only [Bool.and_eq_false_iff, decide_eq_false_iff_not, Int.not_le] at *); congr 1; unfold hexD; repeat' split; all_goals omega) hB ha_)
     ·
      replace g12 := dF g12
      refine Of rfl (Of rfl (Pu rfl (Pu rfl (Ni (hK11 (WC.condF rfl (WC.skip ?_)))))))
      refine hK2 (Sq fun K16 hK16 => (Rg (Pu rfl (Ni (hK16 ?_)))))
      exact WC.ret fun a_ ha_ => hQ (cv_ret1 rfl (.tmp rfl) (by (try simp only [Bool.and_eq_false_iff, decide_eq_false_iff_not, Int.not_le] at *); congr 1; unfold hexD; repeat' split; all_goals omega) hB ha_)
   ·
    replace g8 := dF g8
    refine Of rfl (Of rfl (Pu rfl (Pu rfl (Ni (hK7 (WC.condF rfl (Sq fun K17 hK17 => ?_)))))))
    refine Rg (Pu rfl (Va (dx_geq rfl rfl rfl) rfl rfl (Pu rfl ?_)))
    refine WL.split 27 rfl (fun g18 => ?_) (fun g18 => ?_)
    ·
     replace g18 := dT g18
     refine Pu rfl (Va (dx_leq rfl rfl rfl) rfl rfl (Pu rfl (Pu rfl (Ni (hK17 ?_)))))
     refine WC.cond rfl (fun c19 => ?_) (fun c19 => ?_)
     ·
      replace c19 := dT c19
      refine Sq fun K20 hK20 => (Rg (Pu rfl (Va (dx_sub (r := c - 65) rfl rfl rfl (wrapu8_id (by omega))) rfl rfl (Va (dx_conv (r := c - 65) rfl Try.underlying5 Try.underlying21 rfl (wrap32_id (by omega))) rfl rfl (Va (dx_add (r := (c - 65) + 10) rfl rfl rfl (wrap32_id (by omega))) rfl rfl (Pu rfl (Ni ?_)))))))
      refine hK20 ?_
      exact WC.ret fun a_ ha_ => hQ (cv_ret1 rfl (.tmp rfl) (by (try simp only [Bool.and_eq_false_iff, decide_eq_false_iff_not, Int.not_le] at *); congr 1; unfold hexD; repeat' split; all_goals omega) hB ha_)
     ·
      replace c19 := dF c19
      refine WC.skip (hK2 (Sq fun K21 hK21 => (Rg (Pu rfl (Ni (hK21 ?_))))))
      exact WC.ret fun a_ ha_ => hQ (cv_ret1 rfl (.tmp rfl) (by (try simp only [Bool.and_eq_false_iff, decide_eq_false_iff_not, Int.not_le] at *); congr 1; unfold hexD; repeat' split; all_goals omega) hB ha_)
    ·
     replace g18 := dF g18
     refine Of rfl (Of rfl (Pu rfl (Pu rfl (Ni (hK17 (WC.condF rfl (WC.skip ?_)))))))
     refine hK2 (Sq fun K22 hK22 => (Rg (Pu rfl (Ni (hK22 ?_)))))
     exact WC.ret fun a_ ha_ => hQ (cv_ret1 rfl (.tmp rfl) (by (try simp only [Bool.and_eq_false_iff, decide_eq_false_iff_not, Int.not_le] at *); congr 1; unfold hexD; repeat' split; all_goals omega) hB ha_)
 ·
  replace g4 := dF g4
  refine Of rfl (Of rfl (Pu rfl (Pu rfl (Ni (hK3 (WC.condF rfl (Sq fun K23 hK23 => ?_)))))))
  refine Rg (Pu rfl (Va (dx_geq rfl rfl rfl) rfl rfl (Pu rfl ?_)))
  refine WL.split 16 rfl (fun g24 => ?_) (fun g24 => ?_)
  ·
   replace g24 := dT g24
   refine Pu rfl (Va (dx_leq rfl rfl rfl) rfl rfl (Pu rfl (Pu rfl (Ni (hK23 ?_)))))
   refine WC.cond rfl (fun c25 => ?_) (fun c25 => ?_)
   ·
    replace c25 := dT c25
    refine Sq fun K26 hK26 => (Rg (Pu rfl (Va (dx_sub (r := c - 97) rfl rfl rfl (wrapu8_id (by omega))) rfl rfl (Va (dx_conv (r := c - 97) rfl Try.underlying5 Try.underlying21 rfl (wrap32_id (by omega))) rfl rfl (Va (dx_add (r := (c - 97) + 10) rfl rfl rfl (wrap32_id (by omega))) rfl rfl (Pu rfl (Ni ?_)))))))
    refine hK26 ?_
    exact WC.ret fun a_ ha_ => hQ (cv_ret1 rfl (.tmp rfl) (by (try simp only [Bool.and_eq_false_iff, decide_eq_false_iff_not, Int.not_le] at *); congr 1; unfold hexD; repeat' split; all_goals omega) hB ha_)
   ·
    replace c25 := dF c25
    refine Sq fun K27 hK27 => (Rg (Pu rfl (Va (dx_geq rfl rfl rfl) rfl rfl (Pu rfl ?_))))
    refine WL.split 27 rfl (fun g28 => ?_) (fun g28 => ?_)
    ·
     replace g28 := dT g28
     refine Pu rfl (Va (dx_leq rfl rfl rfl) rfl rfl (Pu rfl (Pu rfl (Ni (hK27 ?_)))))
     refine WC.cond rfl (fun c29 => ?_) (fun c29 => ?_)
     ·
      replace c29 := dT c29
      refine Sq fun K30 hK30 => (Rg (Pu rfl (Va (dx_sub (r := c - 65) rfl rfl rfl (wrapu8_id (by omega))) rfl rfl (Va (dx_conv (r := c - 65) rfl Try.underlying5 Try.underlying21 rfl (wrap32_id (by omega))) rfl rfl (Va (dx_add (r := (c - 65) + 10) rfl rfl rfl (wrap32_id (by omega))) rfl rfl (Pu rfl (Ni ?_)))))))
      refine hK30 ?_
      exact WC.ret fun a_ ha_ => hQ (cv_ret1 rfl (.tmp rfl) (by (try simp only [Bool.and_eq_false_iff, decide_eq_false_iff_not, Int.not_le] at *); congr 1; unfold hexD; repeat' split; all_goals omega) hB ha_)
     ·
      replace c29 := dF c29
      refine WC.skip (hK2 (Sq fun K31 hK31 => (Rg (Pu rfl (Ni (hK31 ?_))))))
      exact WC.ret fun a_ ha_ => hQ (cv_ret1 rfl (.tmp rfl) (by (try simp only [Bool.and_eq_false_iff, decide_eq_false_iff_not, Int.not_le] at *); congr 1; unfold hexD; repeat' split; all_goals omega) hB ha_)
    ·
     replace g28 := dF g28
     refine Of rfl (Of rfl (Pu rfl (Pu rfl (Ni (hK27 (WC.condF rfl (WC.skip ?_)))))))
     refine hK2 (Sq fun K32 hK32 => (Rg (Pu rfl (Ni (hK32 ?_)))))
     exact WC.ret fun a_ ha_ => hQ (cv_ret1 rfl (.tmp rfl) (by (try simp only [Bool.and_eq_false_iff, decide_eq_false_iff_not, Int.not_le] at *); congr 1; unfold hexD; repeat' split; all_goals omega) hB ha_)
  ·
   replace g24 := dF g24
   refine Of rfl (Of rfl (Pu rfl (Pu rfl (Ni (hK23 (WC.condF rfl (Sq fun K33 hK33 => ?_)))))))
   refine Rg (Pu rfl (Va (dx_geq rfl rfl rfl) rfl rfl (Pu rfl ?_)))
   refine WL.split 27 rfl (fun g34 => ?_) (fun g34 => ?_)
   ·
    replace g34 := dT g34
    refine Pu rfl (Va (dx_leq rfl rfl rfl) rfl rfl (Pu rfl (Pu rfl (Ni (hK33 ?_)))))
    refine WC.cond rfl (fun c35 => ?_) (fun c35 => ?_)
    ·
     replace c35 := dT c35
     refine Sq fun K36 hK36 => (Rg (Pu rfl (Va (dx_sub (r := c - 65) rfl rfl rfl (wrapu8_id (by omega))) rfl rfl (Va (dx_conv (r := c - 65) rfl Try.underlying5 Try.underlying21 rfl (wrap32_id (by omega))) rfl rfl (Va (dx_add (r := (c - 65) + 10) rfl rfl rfl (wrap32_id (by omega))) rfl rfl (Pu rfl (Ni ?_)))))))
     refine hK36 ?_
     exact WC.ret fun a_ ha_ => hQ (cv_ret1 rfl (.tmp rfl) (by (try simp only [Bool.and_eq_false_iff, decide_eq_false_iff_not, Int.not_le] at *); congr 1; unfold hexD; repeat' split; all_goals omega) hB ha_)
    ·
     replace c35 := dF c35
     refine WC.skip (hK2 (Sq fun K37 hK37 => (Rg (Pu rfl (Ni (hK37 ?_))))))
     exact WC.ret fun a_ ha_ => hQ (cv_ret1 rfl (.tmp rfl) (by (try simp only [Bool.and_eq_false_iff, decide_eq_false_iff_not, Int.not_le] at *); congr 1; unfold hexD; repeat' split; all_goals omega) hB ha_)
   ·
    replace g34 := dF g34
    refine Of rfl (Of rfl (Pu rfl (Pu rfl (Ni (hK33 (WC.condF rfl (WC.skip ?_)))))))
    refine hK2 (Sq fun K38 hK38 => (Rg (Pu rfl (Ni (hK38 ?_)))))
    exact WC.ret fun a_ ha_ => hQ (cv_ret1 rfl (.tmp rfl) (by (try simp only [Bool.and_eq_false_iff, decide_eq_false_iff_not, Int.not_le] at *); congr 1; unfold hexD; repeat' split; all_goals omega) hB ha_)

theorem hexD_in {c : Int} (h : 0 ≤ hexD c) : 48 ≤ c := by
 unfold hexD at h
 repeat' split at h
 all_goals omega
theorem peek_c (s : ByteArray) (P ka dp : Nat) (w : World) (L : List Nat) (hL : LL L w) (hPL : P ∈ L) (hs : s.size ≤ 1000000) (hk : ka ≤ s.size) (hp : Blk w P (psC s ka dp)) :
  CV Try.prog 59 [.pointer (some ⟨P, 0, none⟩)] w fun v W => ∃ c, v = .int .u8 c ∧ 0 ≤ c ∧ c < 256 ∧ (ka < s.size → c = atS s ka) ∧ (s.size ≤ ka → c = 0) :=
 (peek_v s P ka dp w L hL hPL hs hk hp).mono fun v W _ h => ⟨_, h, by have := atS_lo s ka; split <;> omega, by have := atS_lo s ka; split <;> omega, fun h => if_pos h, fun h => if_neg (by omega)⟩
theorem or16 {x d : Int} (h0 : 0 ≤ x) (h1 : x ≤ 4095) (h2 : 0 ≤ d) (h3 : d ≤ 15) : bits .or .i32 (x * 16) d = x * 16 + d := bits_join .i32 31 (by decide) wraps_i32 4 (x * 16) d (by omega) (by omega) (by omega) h2 (by omega) (by omega)
section
variable {s : ByteArray} {k k1 k2 k3 k4 : Nat} {r q : Int}
theorem escR_n (h : fourS s k = none) : escR s k = none := by unfold escR; rw [h]
theorem escR_a (h : fourS s k = some r) (hr : r < 55296 ∨ 56319 < r) (e : k1 = k + 4) : escR s k = some (r, k1) := by unfold escR; rw [h]; dsimp only; rw [if_pos hr, e]
theorem escR_b (h : fourS s k = some r) (hr : ¬ (r < 55296 ∨ 56319 < r)) (e1 : k1 = k + 4) (t1 : takeS s k1 92 = false) : escR s k = none := by
 subst e1; unfold escR; rw [h]; dsimp only; rw [if_neg hr, t1]; rfl
theorem escR_b' (h : fourS s k = some r) (hr : ¬ (r < 55296 ∨ 56319 < r)) (e1 : k1 = k + 4) (t1 : takeS s k1 92 = true) (e2 : k2 = k1 + 1) (t2 : takeS s k2 117 = false) : escR s k = none := by
 subst e2 e1; unfold escR; rw [h]; dsimp only; rw [if_neg hr, t1, t2]; rfl
theorem escR_c (h : fourS s k = some r) (hr : ¬ (r < 55296 ∨ 56319 < r)) (e1 : k1 = k + 4) (t1 : takeS s k1 92 = true) (e2 : k2 = k1 + 1) (t2 : takeS s k2 117 = true) (e3 : k3 = k2 + 1) (h2 : fourS s k3 = none) : escR s k = none := by
 subst e3 e2 e1; unfold escR; rw [h]; dsimp only; rw [if_neg hr, t1, t2, Bool.true_and, if_pos rfl, h2]
theorem escR_d (h : fourS s k = some r) (hr : ¬ (r < 55296 ∨ 56319 < r)) (e1 : k1 = k + 4) (t1 : takeS s k1 92 = true) (e2 : k2 = k1 + 1) (t2 : takeS s k2 117 = true) (e3 : k3 = k2 + 1) (h2 : fourS s k3 = some q) (hq : q < 56320 ∨ 57343 < q) : escR s k = none := by
 subst e3 e2 e1; unfold escR; rw [h]; dsimp only; rw [if_neg hr, t1, t2, Bool.true_and, if_pos rfl, h2]; dsimp only; rw [if_pos hq]
theorem escR_e (h : fourS s k = some r) (hr : ¬ (r < 55296 ∨ 56319 < r)) (e1 : k1 = k + 4) (t1 : takeS s k1 92 = true) (e2 : k2 = k1 + 1) (t2 : takeS s k2 117 = true) (e3 : k3 = k2 + 1) (h2 : fourS s k3 = some q) (hq : ¬ (q < 56320 ∨ 57343 < q)) (e4 : k4 = k3 + 4) : escR s k = some (65536 + (r - 55296) * 1024 + (q - 56320), k4) := by
 subst e4 e3 e2 e1; unfold escR; rw [h]; dsimp only; rw [if_neg hr, t1, t2, Bool.true_and, if_pos rfl, h2]; dsimp only; rw [if_neg hq]
end
set_option maxHeartbeats 1000000 in
theorem four_v  (s : ByteArray) (P ka dp : Nat) (w : World) (L : List Nat) (hL : LL L w) (hPL : P ∈ L) (hs : s.size ≤ 1000000) (hk : ka ≤ s.size) (hp : Blk w P (psC s ka dp))   : CW Try.prog 134 [.pointer (some ⟨P, 0, none⟩)] w P fun v W => (∃ k' r, v = .tuple #[.int .i32 r, .bool true] ∧ fourS s ka = some r ∧ 0 ≤ r ∧ r ≤ 65535 ∧ k' = ka + 4 ∧ k' ≤ s.size ∧ Blk W P (psC s k' dp)) ∨ (∃ k', v = .tuple #[.int .i32 0, .bool false] ∧ fourS s ka = none ∧ k' ≤ s.size ∧ Blk W P (psC s k' dp)) := by
 refine cw_enter (N := 31) (f := [(0, .pointer (some ⟨P, 0, none⟩))]) Try.func134 rfl rfl rfl rfl fun Q hQ hE => ?_
 have hB := Chg.refl P w
 have hL0 := hL
 refine Sq fun K1 hK1 => (Rg (Pu rfl (Pu rfl (Ni (hK1 (Sq fun K2 hK2 => (Rg ?_)))))))
 refine Pu rfl (Ni (hK2 (Sq fun K3 hK3 => (Sq fun K4 hK4 => (Rg (Pu rfl (Ni ?_)))))))
 refine hK4 (WC.block ?_)
 refine WC.loop3 (fun (i : Nat) (kb : Nat) (r : Int) => [(0, .pointer (some ⟨P, 0, none⟩)), (7, .int .i64 (i : Int)), (4, .int .i32 r)]) (fun (i : Nat) (kb : Nat) (r : Int) W => i ≤ 4 ∧ kb = ka + i ∧ kb ≤ s.size ∧ 0 ≤ r ∧ ((i = 0 → r = 0) ∧ (i ≤ 1 → r ≤ 15) ∧ (i ≤ 2 → r ≤ 255) ∧ (i ≤ 3 → r ≤ 4095) ∧ r ≤ 65535) ∧ fourS s ka = fourN s (4 - i) kb r ∧ Chg P w W ∧ LL (L) W ∧ Blk W P [.string s, .int .i64 (kb : Int), .int .i64 (dp : Int)]) (fun (i : Nat) (kb : Nat) (r : Int) => 4 - i) 0 ka 0 (by repeat first | exact trivial | exact And.intro rfl trivial | refine And.intro rfl ?_ | refine And.intro (congrArg (fun z : Int => some (Value.int .i64 z)) (by omega)) ?_) ⟨(by omega), rfl, hk, (by omega), (by omega), rfl, hB, hL, hp⟩ ?_
 clear hp hB hL
 rintro K5 i kb r W6 ⟨hi, hki, hkb, hr0, hr1, hv, hB, hL, hp⟩ hK5
 refine Sq fun K7 hK7 => (Rg (Va (dx_lss rfl rfl rfl) rfl rfl (Ni (hK7 (Sq fun K8 hK8 => ?_)))))
 refine WC.cond rfl (fun c9 => ?_) (fun c9 => ?_)
 ·
  replace c9 := dT c9
  refine WC.skip (hK8 (Sq fun K10 hK10 => (WC.block (Sq fun K11 hK11 => (Rg (Pu rfl (Va (dx_nilCheck rfl rfl) rfl rfl ?_)))))))
  refine Va (dx_fld (o1 := 0) rfl ty_fld_55_0_0 rfl rfl) rfl rfl ?_
  refine Ge (dx_cv rfl Try.func59 rfl rfl rfl (peek_c s P kb dp W6 _ hL hPL hs (by omega) hp)) rfl rfl ?_
  rintro _ W28 ⟨⟨c22, rfl, hc23, hc24, hc25, hc26⟩, b27⟩
  replace hp := hp.below b27
  replace hB := Chg.thenB hB b27
  replace hL := LL.below hL b27
  refine Pu rfl (Ni (hK11 (Sq fun K29 hK29 => (Rg (Pu rfl ?_)))))
  refine Ge (dx_cv rfl Try.func139 rfl rfl rfl ((show CV _ _ [.int .u8 c22] _ (fun v _ => v = .int .i32 (hexD c22)) from digit_v c22 W28 _ hL (by first | exact if_byte _ _ | omega)))) rfl rfl ?_
  rintro _ W34 ⟨rfl, b33⟩
  replace hp := hp.below b33
  replace hB := Chg.thenB hB b33
  replace hL := LL.below hL b33
  have hd32 := hexD_le c22
  refine Pu rfl (Ni (hK29 (Sq fun K35 hK35 => (Sq fun K36 hK36 => (Rg (Pu rfl (Va (dx_lss rfl rfl rfl) rfl rfl ?_)))))))
  refine Pu rfl ?_
  refine WL.split 17 rfl (fun g37 => ?_) (fun g37 => ?_)
  ·
   replace g37 := dT g37
   refine Of rfl (Of rfl (Of rfl (Of rfl (Of rfl (Of rfl (Pu rfl (Ni ?_)))))))
   refine hK36 (WC.condT rfl (Sq fun K38 hK38 => (Rg (Pu rfl (Pu rfl (Ni (hK38 ?_)))))))
   exact WC.ret fun a_ ha_ => hQ (cw_ret2 rfl (.tmp rfl) (.tmp rfl) (by refine .inr ⟨kb, rfl, ?_, by omega, hp⟩; obtain ⟨n, hn⟩ : ∃ n, 4 - i = n + 1 := ⟨3 - i, by omega⟩; rw [hn] at hv; exact hv.trans (four_stop (fun ⟨h1_, h2_⟩ => by have e_ := hc25 h1_; rw [← e_] at h2_; first | omega | exact absurd e_.symm (take_f (by assumption) h1_)))) hB ha_)
  ·
   replace g37 := dF g37
   refine Pu rfl (Va (dx_nilCheck rfl rfl) rfl rfl (Va (dx_fld (o1 := 0) rfl ty_fld_55_0_0 rfl rfl) rfl rfl (Pu rfl ?_)))
   refine Ge (dx_cw rfl Try.func58 rfl rfl rfl (take_v c22 s P kb dp W34 _ hL hPL hs (by omega) hp)) rfl rfl ?_
   rintro _ W46 ⟨⟨k42, rfl, hk43, hk44, hp47⟩, g45⟩
   replace hB := Chg.both hB g45
   replace hL := hL.chg g45
   cases hT48 : takeS s kb c22 with
   | false =>
    rw [hT48] at hk43
    replace hk43 : kb = k42 := Eq.symm hk43
    subst hk43
    refine Va (dx_not rfl rfl) rfl rfl (Pu rfl (Ni (hK36 (WC.condT rfl (Sq fun K49 hK49 => (Rg (Pu rfl ?_)))))))
    refine Pu rfl (Ni (hK49 ?_))
    exact WC.ret fun a_ ha_ => hQ (cw_ret2 rfl (.tmp rfl) (.tmp rfl) (by refine .inr ⟨kb, rfl, ?_, by omega, hp47⟩; obtain ⟨n, hn⟩ : ∃ n, 4 - i = n + 1 := ⟨3 - i, by omega⟩; rw [hn] at hv; exact hv.trans (four_stop (fun ⟨h1_, h2_⟩ => by have e_ := hc25 h1_; rw [← e_] at h2_; first | omega | exact absurd e_.symm (take_f (by assumption) h1_)))) hB ha_)
   | true =>
    rw [hT48] at hk43
    have hthT48 := take_t hT48
    replace hk43 : k42 = kb + 1 := hk43
    refine Va (dx_not rfl rfl) rfl rfl (Pu rfl (Ni (hK36 (WC.condF rfl (WC.skip (hK35 (Rg ?_)))))))
    refine Pu rfl (Va (dx_shl (r := r * 16) rfl rfl rfl (by decide) (by decide) (by rw [show (2 : Int) ^ (4 : Int).toNat = 16 from by decide]; exact wrap32_id (by omega))) rfl rfl (Pu rfl (Va (dx_or_i (r := r * 16 + (hexD c22)) rfl rfl rfl (or16 (by omega) (by omega) (by omega) (by omega))) rfl rfl (Pu rfl (Ni (hK10 (Rg ?_)))))))
    refine Va (dx_add (r := (i : Int) + 1) rfl rfl rfl (wrap64_id (by omega))) rfl rfl (Pu rfl (Ni ?_))
    have h49 := hexD_in (c := c22) (by omega)
    have hlt : kb < s.size := by rcases Nat.lt_or_ge kb s.size with h_ | h_; exact h_; (have := hc26 h_; omega)
    have hce := hc25 hlt
    obtain ⟨n, hn⟩ : ∃ n, 4 - i = n + 1 := ⟨3 - i, by omega⟩
    rw [hn] at hv
    have hv2 := hv.trans (four_go (n := n) (r := r) hlt (by rw [← hce]; omega))
    rw [← hce] at hv2
    exact hK5 (i + 1) k42 (r * 16 + hexD c22) ⟨(by omega), (by omega), (by omega), (by omega), (by omega), (by rw [hv2]; congr 1 <;> omega), hB, hL, hp47⟩ (by omega) (by repeat first | exact trivial | exact And.intro rfl trivial | refine And.intro rfl ?_ | refine And.intro (congrArg (fun z : Int => some (Value.int .i64 z)) (by omega)) ?_)
 ·
  replace c9 := dF c9
  refine WC.exit ?_
  refine hK3 (Sq fun K50 hK50 => (Rg (Pu rfl (Pu rfl (Pu rfl (Ni (hK50 ?_)))))))
  exact WC.ret fun a_ ha_ => hQ (cw_ret2 rfl (.tmp rfl) (.tmp rfl) (by obtain rfl : i = 4 := (by omega); exact .inl ⟨kb, r, rfl, hv, hr0, by omega, hki, hkb, hp⟩) hB ha_)

set_option maxHeartbeats 1000000 in
theorem escRune_v  (s : ByteArray) (P ka dp : Nat) (w : World) (L : List Nat) (hL : LL L w) (hPL : P ∈ L) (hs : s.size ≤ 1000000) (hk : ka ≤ s.size) (hp : Blk w P (psC s ka dp))   : CW Try.prog 118 [.pointer (some ⟨P, 0, none⟩)] w P fun v W => (∃ k' r, v = .tuple #[.int .i32 r, .int .i64 0] ∧ escR s ka = some (r, k') ∧ 0 ≤ r ∧ r ≤ 1114111 ∧ ka + 4 ≤ k' ∧ k' ≤ s.size ∧ Blk W P (psC s k' dp)) ∨ (∃ k', v = .tuple #[.int .i32 0, .int .i64 2] ∧ escR s ka = none ∧ k' ≤ s.size ∧ Blk W P (psC s k' dp)) := by
 refine cw_enter (N := 55) (f := [(0, .pointer (some ⟨P, 0, none⟩))]) Try.func118 rfl rfl rfl rfl fun Q hQ hE => ?_
 have hB := Chg.refl P w
 have hL0 := hL
 refine Sq fun K1 hK1 => (Rg (Pu rfl (Pu rfl (Ni (hK1 (Sq fun K2 hK2 => (Rg ?_)))))))
 refine Pu rfl ?_
 refine Ge (dx_cw rfl Try.func134 rfl rfl rfl (four_v s P ka dp w _ hL hPL hs (by omega) hp)) rfl rfl ?_
 rintro _ W14 ⟨(⟨k3, r4, rfl, hf5, hf6, hf7, hf8, hf9, hp15⟩ | ⟨k12, rfl, hf10, hf11, hp15⟩), g13⟩
 ·
  replace hB := Chg.both hB g13
  replace hL := hL.chg g13
  refine Pu rfl (Pu rfl (Pu rfl (Pu rfl (Pu rfl (Ni (hK2 (Sq fun K16 hK16 => ?_)))))))
  refine Sq fun K17 hK17 => (Rg (Pu rfl (Va (dx_not rfl rfl) rfl rfl (Ni (hK17 (WC.condF rfl (WC.skip ?_)))))))
  refine hK16 (Sq fun K18 hK18 => (Sq fun K19 hK19 => (Rg (Pu rfl (Va (dx_lss rfl rfl rfl) rfl rfl (Pu rfl ?_))))))
  refine WL.split 16 rfl (fun g20 => ?_) (fun g20 => ?_)
  ·
   replace g20 := dT g20
   refine Of rfl (Of rfl (Pu rfl (Ni (hK19 (WC.condT rfl (Sq fun K21 hK21 => (Rg ?_)))))))
   refine Pu rfl (Pu rfl (Pu rfl (Ni (hK21 ?_))))
   exact WC.ret fun a_ ha_ => hQ (cw_ret2 rfl (.tmp rfl) (.tmp rfl) (.inl ⟨k3, _, rfl, (by first | (apply escR_a <;> first | assumption | omega; done) | (apply escR_e <;> first | assumption | omega; done)), by omega, by omega, by omega, by omega, hp15⟩) hB ha_)
  ·
   replace g20 := dF g20
   refine Pu rfl (Va (dx_gtr rfl rfl rfl) rfl rfl (Pu rfl (Ni (hK19 ?_))))
   refine WC.cond rfl (fun c22 => ?_) (fun c22 => ?_)
   ·
    replace c22 := dT c22
    refine Sq fun K23 hK23 => (Rg (Pu rfl (Pu rfl (Pu rfl (Ni (hK23 ?_))))))
    exact WC.ret fun a_ ha_ => hQ (cw_ret2 rfl (.tmp rfl) (.tmp rfl) (.inl ⟨k3, _, rfl, (by first | (apply escR_a <;> first | assumption | omega; done) | (apply escR_e <;> first | assumption | omega; done)), by omega, by omega, by omega, by omega, hp15⟩) hB ha_)
   ·
    replace c22 := dF c22
    refine WC.skip (hK18 (Sq fun K24 hK24 => (Sq fun K25 hK25 => (Rg (Pu rfl (Va (dx_nilCheck rfl rfl) rfl rfl (Va (dx_fld (o1 := 0) rfl ty_fld_55_0_0 rfl rfl) rfl rfl ?_)))))))
    refine Ge (dx_cw rfl Try.func58 rfl rfl rfl (take_v 92 s P k3 dp W14 _ hL hPL hs (by omega) hp15)) rfl rfl ?_
    rintro _ W33 ⟨⟨k29, rfl, hk30, hk31, hp34⟩, g32⟩
    replace hB := Chg.both hB g32
    replace hL := hL.chg g32
    cases hT35 : takeS s k3 92 with
    | false =>
     rw [hT35] at hk30
     replace hk30 : k3 = k29 := Eq.symm hk30
     subst hk30
     refine Va (dx_not rfl rfl) rfl rfl (Pu rfl (Of rfl (Of rfl (Of rfl (Of rfl (Of rfl (Pu rfl ?_)))))))
     refine Ni (hK25 (WC.condT rfl (Sq fun K36 hK36 => (Rg (Pu rfl (Pu rfl (Ni ?_)))))))
     refine hK36 ?_
     exact WC.ret fun a_ ha_ => hQ (cw_ret2 rfl (.tmp rfl) (.tmp rfl) (.inr ⟨k3, rfl, (by first | exact escR_n (by assumption) | (apply escR_b <;> first | assumption | omega; done) | (apply escR_b' <;> first | assumption | omega; done) | (apply escR_c <;> first | assumption | omega; done) | (apply escR_d <;> first | assumption | omega; done)), by omega, hp34⟩) hB ha_)
    | true =>
     rw [hT35] at hk30
     have hthT35 := take_t hT35
     replace hk30 : k29 = k3 + 1 := hk30
     refine Va (dx_not rfl rfl) rfl rfl (Pu rfl (Pu rfl (Va (dx_nilCheck rfl rfl) rfl rfl (Va (dx_fld (o1 := 0) rfl ty_fld_55_0_0 rfl rfl) rfl rfl ?_))))
     refine Ge (dx_cw rfl Try.func58 rfl rfl rfl (take_v 117 s P k29 dp W33 _ hL hPL hs (by omega) hp34)) rfl rfl ?_
     rintro _ W44 ⟨⟨k40, rfl, hk41, hk42, hp45⟩, g43⟩
     replace hB := Chg.both hB g43
     replace hL := hL.chg g43
     cases hT46 : takeS s k29 117 with
     | false =>
      rw [hT46] at hk41
      replace hk41 : k29 = k40 := Eq.symm hk41
      subst hk41
      refine Va (dx_not rfl rfl) rfl rfl (Pu rfl (Ni (hK25 (WC.condT rfl (Sq fun K47 hK47 => (Rg (Pu rfl ?_)))))))
      refine Pu rfl (Ni (hK47 ?_))
      exact WC.ret fun a_ ha_ => hQ (cw_ret2 rfl (.tmp rfl) (.tmp rfl) (.inr ⟨k29, rfl, (by first | exact escR_n (by assumption) | (apply escR_b <;> first | assumption | omega; done) | (apply escR_b' <;> first | assumption | omega; done) | (apply escR_c <;> first | assumption | omega; done) | (apply escR_d <;> first | assumption | omega; done)), by omega, hp45⟩) hB ha_)
     | true =>
      rw [hT46] at hk41
      have hthT46 := take_t hT46
      replace hk41 : k40 = k29 + 1 := hk41
      refine Va (dx_not rfl rfl) rfl rfl (Pu rfl (Ni (hK25 (WC.condF rfl (WC.skip (hK24 (Sq fun K48 hK48 => ?_)))))))
      refine Rg (Pu rfl ?_)
      refine Ge (dx_cw rfl Try.func134 rfl rfl rfl (four_v s P k40 dp W44 _ hL hPL hs (by omega) hp45)) rfl rfl ?_
      rintro _ W60 ⟨(⟨k49, r50, rfl, hf51, hf52, hf53, hf54, hf55, hp61⟩ | ⟨k58, rfl, hf56, hf57, hp61⟩), g59⟩
      ·
       replace hB := Chg.both hB g59
       refine Pu rfl (Pu rfl (Pu rfl (Pu rfl (Pu rfl (Ni (hK48 (Sq fun K62 hK62 => ?_)))))))
       refine Sq fun K63 hK63 => (Rg (Pu rfl (Va (dx_not rfl rfl) rfl rfl (Pu rfl (Pu rfl (Va (dx_lss rfl rfl rfl) rfl rfl (Pu rfl ?_)))))))
       refine Pu rfl ?_
       refine WL.split 44 rfl (fun g64 => ?_) (fun g64 => ?_)
       ·
        replace g64 := dT g64
        refine Of rfl (Of rfl (Pu rfl (Ni (hK63 (WC.condT rfl (Sq fun K65 hK65 => (Rg ?_)))))))
        refine Pu rfl (Pu rfl (Ni (hK65 ?_)))
        exact WC.ret fun a_ ha_ => hQ (cw_ret2 rfl (.tmp rfl) (.tmp rfl) (.inr ⟨k49, rfl, (by first | exact escR_n (by assumption) | (apply escR_b <;> first | assumption | omega; done) | (apply escR_b' <;> first | assumption | omega; done) | (apply escR_c <;> first | assumption | omega; done) | (apply escR_d <;> first | assumption | omega; done)), by omega, hp61⟩) hB ha_)
       ·
        replace g64 := dF g64
        refine Pu rfl (Va (dx_gtr rfl rfl rfl) rfl rfl (Pu rfl (Ni (hK63 ?_))))
        refine WC.cond rfl (fun c66 => ?_) (fun c66 => ?_)
        ·
         replace c66 := dT c66
         refine Sq fun K67 hK67 => (Rg (Pu rfl (Pu rfl (Ni (hK67 ?_)))))
         exact WC.ret fun a_ ha_ => hQ (cw_ret2 rfl (.tmp rfl) (.tmp rfl) (.inr ⟨k49, rfl, (by first | exact escR_n (by assumption) | (apply escR_b <;> first | assumption | omega; done) | (apply escR_b' <;> first | assumption | omega; done) | (apply escR_c <;> first | assumption | omega; done) | (apply escR_d <;> first | assumption | omega; done)), by omega, hp61⟩) hB ha_)
        ·
         replace c66 := dF c66
         refine WC.skip (hK62 (Sq fun K68 hK68 => (Rg (Pu rfl (Va (dx_sub (r := r4 - 55296) rfl rfl rfl (wrap32_id (by omega))) rfl rfl (Va (dx_shl (r := (r4 - 55296) * 1024) rfl rfl rfl (by decide) (by decide) (by rw [show (2 : Int) ^ (10 : Int).toNat = 1024 from by decide]; exact wrap32_id (by omega))) rfl rfl (Va (dx_add (r := 65536 + ((r4 - 55296) * 1024)) rfl rfl rfl (wrap32_id (by omega))) rfl rfl ?_)))))))
         refine Pu rfl (Va (dx_sub (r := r50 - 56320) rfl rfl rfl (wrap32_id (by omega))) rfl rfl (Va (dx_add (r := (65536 + ((r4 - 55296) * 1024)) + (r50 - 56320)) rfl rfl rfl (wrap32_id (by omega))) rfl rfl (Pu rfl (Pu rfl (Ni (hK68 ?_))))))
         exact WC.ret fun a_ ha_ => hQ (cw_ret2 rfl (.tmp rfl) (.tmp rfl) (.inl ⟨k49, _, rfl, (by first | (apply escR_a <;> first | assumption | omega; done) | (apply escR_e <;> first | assumption | omega; done)), by omega, by omega, by omega, by omega, hp61⟩) hB ha_)
      ·
       replace hB := Chg.both hB g59
       refine Pu rfl (Pu rfl (Pu rfl (Pu rfl (Pu rfl (Ni (hK48 (Sq fun K69 hK69 => ?_)))))))
       refine Sq fun K70 hK70 => (Rg (Pu rfl (Va (dx_not rfl rfl) rfl rfl (Pu rfl (Of rfl (Of rfl (Pu rfl ?_)))))))
       refine Pu rfl (Of rfl (Of rfl (Pu rfl (Ni (hK70 (WC.condT rfl (Sq fun K71 hK71 => ?_)))))))
       refine Rg (Pu rfl (Pu rfl (Ni (hK71 ?_))))
       exact WC.ret fun a_ ha_ => hQ (cw_ret2 rfl (.tmp rfl) (.tmp rfl) (.inr ⟨k58, rfl, (by first | exact escR_n (by assumption) | (apply escR_b <;> first | assumption | omega; done) | (apply escR_b' <;> first | assumption | omega; done) | (apply escR_c <;> first | assumption | omega; done) | (apply escR_d <;> first | assumption | omega; done)), by omega, hp61⟩) hB ha_)
 ·
  replace hB := Chg.both hB g13
  refine Pu rfl (Pu rfl (Pu rfl (Pu rfl (Pu rfl (Ni (hK2 (Sq fun K72 hK72 => ?_)))))))
  refine Sq fun K73 hK73 => (Rg (Pu rfl (Va (dx_not rfl rfl) rfl rfl (Ni (hK73 (WC.condT rfl (Sq fun K74 hK74 => ?_)))))))
  refine Rg (Pu rfl (Pu rfl (Ni (hK74 ?_))))
  exact WC.ret fun a_ ha_ => hQ (cw_ret2 rfl (.tmp rfl) (.tmp rfl) (.inr ⟨k12, rfl, (by first | exact escR_n (by assumption) | (apply escR_b <;> first | assumption | omega; done) | (apply escR_b' <;> first | assumption | omega; done) | (apply escR_c <;> first | assumption | omega; done) | (apply escR_d <;> first | assumption | omega; done)), by omega, hp15⟩) hB ha_)

section
variable {s : ByteArray} {k k1 k2 : Nat} {r c : Int}
theorem isRune_in (h : isRuneB r = true) : 0 ≤ r ∧ r ≤ 1114111 := isRune_range h
theorem escB_n (t : takeS s k 117 = true) (e : k1 = k + 1) (h : escR s k1 = none) : escB s k = none := by subst e; unfold escB; rw [t, if_pos rfl, h]
theorem escB_x (t : takeS s k 117 = true) (e : k1 = k + 1) (h : escR s k1 = some (r, k2)) (hr : isRuneB r = false) : escB s k = none := by subst e; unfold escB; rw [t, if_pos rfl, h]; dsimp only; rw [hr]; rfl
theorem escB_r (t : takeS s k 117 = true) (e : k1 = k + 1) (h : escR s k1 = some (r, k2)) (hr : isRuneB r = true) : escB s k = some (encI r, k2) := by subst e; unfold escB; rw [t, if_pos rfl, h]; dsimp only; rw [hr]; rfl
theorem escB_e (t : takeS s k 117 = false) (h : ¬ k < s.size) : escB s k = none := by unfold escB; rw [t, if_neg (by decide), if_neg h]
theorem take_c (h : k < s.size → c = atS s k) (t : takeS s k c = false) : ¬ k < s.size := fun hk => absurd (h hk).symm (take_f t hk)
theorem escB_g (t : takeS s k 117 = false) (h : k < s.size) (hc : atS s k = c) : escB s k = (if c = 34 ∨ c = 92 ∨ c = 47 then some ([c], k + 1) else if c = 98 then some ([8], k + 1) else if c = 102 then some ([12], k + 1) else if c = 110 then some ([10], k + 1) else if c = 114 then some ([13], k + 1) else if c = 116 then some ([9], k + 1) else none) := by
 subst hc; unfold escB; rw [t, if_neg (by decide), if_pos h]
theorem bytes_one {z : Int} (h : 0 ≤ z ∧ z ≤ 255) : Bytes [z] := fun x hx => by obtain rfl := List.mem_singleton.1 hx; exact h
end
set_option maxHeartbeats 1000000 in
theorem escape_v  (s : ByteArray) (P ka dp : Nat) (w : World) (L : List Nat) (hL : LL L w) (hPL : P ∈ L) (hs : s.size ≤ 1000000) (hk : ka ≤ s.size) (hp : Blk w P (psC s ka dp))   : CW Try.prog 87 [.pointer (some ⟨P, 0, none⟩)] w P fun v W => (∃ k' l x, v = .tuple #[x, .int .i64 0] ∧ escB s ka = some (l, k') ∧ Bytes l ∧ ka + l.length ≤ k' ∧ k' ≤ s.size ∧ NewW 1 w.heap.size (l.map e8) x W ∧ Blk W P (psC s k' dp)) ∨ (∃ k', v = .tuple #[.slice none 0 0, .int .i64 2] ∧ escB s ka = none ∧ k' ≤ s.size ∧ Blk W P (psC s k' dp)) := by
 refine cw_enter (N := 56) (f := [(0, .pointer (some ⟨P, 0, none⟩))]) Try.func87 rfl rfl rfl rfl fun Q hQ hE => ?_
 have hB := Chg.refl P w
 have hL0 := hL
 refine Sq fun K1 hK1 => (Rg (Pu rfl (Pu rfl (Ni (hK1 (Sq fun K2 hK2 => (Rg ?_)))))))
 refine Pu rfl (Va (dx_nilCheck rfl rfl) rfl rfl (Va (dx_fld (o1 := 0) rfl ty_fld_55_0_0 rfl rfl) rfl rfl ?_))
 refine Ge (dx_cv rfl Try.func59 rfl rfl rfl (peek_c s P ka dp w _ hL hPL hs (by omega) hp)) rfl rfl ?_
 rintro _ W19 ⟨⟨c13, rfl, hc14, hc15, hc16, hc17⟩, b18⟩
 replace hp := hp.below b18
 replace hB := Chg.thenB hB b18
 replace hL := LL.below hL b18
 refine Pu rfl (Ni (hK2 (Sq fun K20 hK20 => (Sq fun K21 hK21 => (Rg (Pu rfl (Va (dx_nilCheck rfl rfl) rfl rfl ?_)))))))
 refine Va (dx_fld (o1 := 0) rfl ty_fld_55_0_0 rfl rfl) rfl rfl ?_
 refine Ge (dx_cw rfl Try.func58 rfl rfl rfl (take_v 117 s P ka dp W19 _ hL hPL hs (by omega) hp)) rfl rfl ?_
 rintro _ W29 ⟨⟨k25, rfl, hk26, hk27, hp30⟩, g28⟩
 replace hB := Chg.both hB g28
 replace hL := hL.chg g28
 cases hT31 : takeS s ka 117 with
 | false =>
  rw [hT31] at hk26
  replace hk26 : ka = k25 := Eq.symm hk26
  subst hk26
  refine Ni (hK21 (WC.condF rfl (WC.skip (hK20 (Sq fun K32 hK32 => (Sq fun K33 hK33 => (Rg ?_)))))))
  refine Pu rfl (Va (dx_nilCheck rfl rfl) rfl rfl (Va (dx_fld (o1 := 0) rfl ty_fld_55_0_0 rfl rfl) rfl rfl (Pu rfl ?_)))
  refine Ge (dx_cw rfl Try.func58 rfl rfl rfl (take_v c13 s P ka dp W29 _ hL hPL hs (by omega) hp30)) rfl rfl ?_
  rintro _ W41 ⟨⟨k37, rfl, hk38, hk39, hp42⟩, g40⟩
  replace hB := Chg.both hB g40
  cases hT43 : takeS s ka c13 with
  | false =>
   rw [hT43] at hk38
   replace hk38 : ka = k37 := Eq.symm hk38
   subst hk38
   refine Va (dx_not rfl rfl) rfl rfl (Ni (hK33 (WC.condT rfl (Sq fun K44 hK44 => (Rg (Pu rfl (Pu rfl ?_)))))))
   refine Ni (hK44 ?_)
   exact WC.ret fun a_ ha_ => hQ (cw_ret2 rfl (.tmp rfl) (.tmp rfl) (.inr ⟨ka, rfl, (by first | (apply escB_n <;> first | assumption | omega; done) | (apply escB_x <;> first | assumption | omega; done) | (refine escB_e (by assumption) (take_c (c := c13) (by assumption) (by assumption)); done) | (rw [escB_g (c := c13) (by assumption) (by omega) (by omega)]; repeat' split; all_goals first | rfl | omega)), by omega, hp42⟩) hB ha_)
  | true =>
   rw [hT43] at hk38
   have hthT43 := take_t hT43
   replace hk38 : k37 = ka + 1 := hk38
   refine Va (dx_not rfl rfl) rfl rfl (Ni (hK33 (WC.condF rfl (WC.skip (hK32 (Sq fun K45 hK45 => (Sq fun K46 hK46 => ?_)))))))
   refine Rg (Pu rfl (Ni (hK46 (WC.block (Sq fun K47 hK47 => (Sq fun K48 hK48 => (Rg ?_)))))))
   refine Va (dx_eql rfl rfl rfl) rfl rfl (Pu rfl (Ni (hK48 ?_)))
   refine WC.cond rfl (fun c49 => ?_) (fun c49 => ?_)
   ·
    replace c49 := dT c49
    refine WC.skip (hK47 ?_)
    refine WC.cond rfl (fun c50 => ?_) (fun c50 => ?_)
    ·
     replace c50 := dT c50
     refine Sq fun K51 hK51 => (Rg (Pu rfl ?_))
     refine Ge (dx_lit1 (r := [.int .u8 c13]) rfl ty_ap_50 (by decide) (by decide) rfl rfl rfl) rfl rfl ?_
     rintro u56 W52 ⟨k53, b54, z55⟩
     have l58 := hB.size
     replace hp42 := hp42.below b54
     replace hB := Chg.thenB hB b54
     refine Pu rfl (Pu rfl (Ni (hK51 ?_)))
     exact WC.ret fun a_ ha_ => hQ (cw_ret2 rfl (.tmp rfl) (.tmp rfl) (.inl ⟨k37, [c13], _, rfl, (by rw [escB_g (c := c13) (by assumption) (by omega) (by omega)]; repeat' split; all_goals first | omega | (congr 2 <;> first | omega | (congr 1; done); done)), bytes_one (by omega), (by show ka + 1 ≤ _; omega), by omega, .of_own k53 l58, hp42⟩) hB ha_)
    ·
     replace c50 := dF c50
     refine Sq fun K59 hK59 => (Rg (Va (dx_eql rfl rfl rfl) rfl rfl (Pu rfl (Ni (hK59 ?_)))))
     refine WC.cond rfl (fun c60 => ?_) (fun c60 => ?_)
     ·
      replace c60 := dT c60
      refine Sq fun K61 hK61 => (Rg ?_)
      refine Ge (dx_lit1 (r := [.int .u8 8]) rfl ty_ap_50 (by decide) (by decide) rfl rfl rfl) rfl rfl ?_
      rintro u66 W62 ⟨k63, b64, z65⟩
      have l68 := hB.size
      replace hp42 := hp42.below b64
      replace hB := Chg.thenB hB b64
      refine Pu rfl (Pu rfl (Ni (hK61 ?_)))
      exact WC.ret fun a_ ha_ => hQ (cw_ret2 rfl (.tmp rfl) (.tmp rfl) (.inl ⟨k37, [8], _, rfl, (by rw [escB_g (c := c13) (by assumption) (by omega) (by omega)]; repeat' split; all_goals first | omega | (congr 2 <;> first | omega | (congr 1; done); done)), bytes_one (by omega), (by show ka + 1 ≤ _; omega), by omega, .of_own k63 l68, hp42⟩) hB ha_)
     ·
      replace c60 := dF c60
      refine Sq fun K69 hK69 => (Rg (Va (dx_eql rfl rfl rfl) rfl rfl (Pu rfl (Ni (hK69 ?_)))))
      refine WC.cond rfl (fun c70 => ?_) (fun c70 => ?_)
      ·
       replace c70 := dT c70
       refine Sq fun K71 hK71 => (Rg ?_)
       refine Ge (dx_lit1 (r := [.int .u8 12]) rfl ty_ap_50 (by decide) (by decide) rfl rfl rfl) rfl rfl ?_
       rintro u76 W72 ⟨k73, b74, z75⟩
       have l78 := hB.size
       replace hp42 := hp42.below b74
       replace hB := Chg.thenB hB b74
       refine Pu rfl (Pu rfl (Ni (hK71 ?_)))
       exact WC.ret fun a_ ha_ => hQ (cw_ret2 rfl (.tmp rfl) (.tmp rfl) (.inl ⟨k37, [12], _, rfl, (by rw [escB_g (c := c13) (by assumption) (by omega) (by omega)]; repeat' split; all_goals first | omega | (congr 2 <;> first | omega | (congr 1; done); done)), bytes_one (by omega), (by show ka + 1 ≤ _; omega), by omega, .of_own k73 l78, hp42⟩) hB ha_)
      ·
       replace c70 := dF c70
       refine Sq fun K79 hK79 => (Rg (Va (dx_eql rfl rfl rfl) rfl rfl (Pu rfl (Ni (hK79 ?_)))))
       refine WC.cond rfl (fun c80 => ?_) (fun c80 => ?_)
       ·
        replace c80 := dT c80
        refine Sq fun K81 hK81 => (Rg ?_)
        refine Ge (dx_lit1 (r := [.int .u8 10]) rfl ty_ap_50 (by decide) (by decide) rfl rfl rfl) rfl rfl ?_
        rintro u86 W82 ⟨k83, b84, z85⟩
        have l88 := hB.size
        replace hp42 := hp42.below b84
        replace hB := Chg.thenB hB b84
        refine Pu rfl (Pu rfl (Ni (hK81 ?_)))
        exact WC.ret fun a_ ha_ => hQ (cw_ret2 rfl (.tmp rfl) (.tmp rfl) (.inl ⟨k37, [10], _, rfl, (by rw [escB_g (c := c13) (by assumption) (by omega) (by omega)]; repeat' split; all_goals first | omega | (congr 2 <;> first | omega | (congr 1; done); done)), bytes_one (by omega), (by show ka + 1 ≤ _; omega), by omega, .of_own k83 l88, hp42⟩) hB ha_)
       ·
        replace c80 := dF c80
        refine Sq fun K89 hK89 => (Rg (Va (dx_eql rfl rfl rfl) rfl rfl (Pu rfl (Ni (hK89 ?_)))))
        refine WC.cond rfl (fun c90 => ?_) (fun c90 => ?_)
        ·
         replace c90 := dT c90
         refine Sq fun K91 hK91 => (Rg ?_)
         refine Ge (dx_lit1 (r := [.int .u8 13]) rfl ty_ap_50 (by decide) (by decide) rfl rfl rfl) rfl rfl ?_
         rintro u96 W92 ⟨k93, b94, z95⟩
         have l98 := hB.size
         replace hp42 := hp42.below b94
         replace hB := Chg.thenB hB b94
         refine Pu rfl (Pu rfl (Ni (hK91 ?_)))
         exact WC.ret fun a_ ha_ => hQ (cw_ret2 rfl (.tmp rfl) (.tmp rfl) (.inl ⟨k37, [13], _, rfl, (by rw [escB_g (c := c13) (by assumption) (by omega) (by omega)]; repeat' split; all_goals first | omega | (congr 2 <;> first | omega | (congr 1; done); done)), bytes_one (by omega), (by show ka + 1 ≤ _; omega), by omega, .of_own k93 l98, hp42⟩) hB ha_)
        ·
         replace c90 := dF c90
         refine Sq fun K99 hK99 => (Rg (Va (dx_eql rfl rfl rfl) rfl rfl (Pu rfl (Ni (hK99 ?_)))))
         refine WC.cond rfl (fun c100 => ?_) (fun c100 => ?_)
         ·
          replace c100 := dT c100
          refine Sq fun K101 hK101 => (Rg ?_)
          refine Ge (dx_lit1 (r := [.int .u8 9]) rfl ty_ap_50 (by decide) (by decide) rfl rfl rfl) rfl rfl ?_
          rintro u106 W102 ⟨k103, b104, z105⟩
          have l108 := hB.size
          replace hp42 := hp42.below b104
          replace hB := Chg.thenB hB b104
          refine Pu rfl (Pu rfl (Ni (hK101 ?_)))
          exact WC.ret fun a_ ha_ => hQ (cw_ret2 rfl (.tmp rfl) (.tmp rfl) (.inl ⟨k37, [9], _, rfl, (by rw [escB_g (c := c13) (by assumption) (by omega) (by omega)]; repeat' split; all_goals first | omega | (congr 2 <;> first | omega | (congr 1; done); done)), bytes_one (by omega), (by show ka + 1 ≤ _; omega), by omega, .of_own k103 l108, hp42⟩) hB ha_)
         ·
          replace c100 := dF c100
          refine WC.skip (hK45 (Sq fun K109 hK109 => (Rg (Pu rfl (Pu rfl (Ni (hK109 ?_)))))))
          exact WC.ret fun a_ ha_ => hQ (cw_ret2 rfl (.tmp rfl) (.tmp rfl) (.inr ⟨k37, rfl, (by first | (apply escB_n <;> first | assumption | omega; done) | (apply escB_x <;> first | assumption | omega; done) | (refine escB_e (by assumption) (take_c (c := c13) (by assumption) (by assumption)); done) | (rw [escB_g (c := c13) (by assumption) (by omega) (by omega)]; repeat' split; all_goals first | rfl | omega)), by omega, hp42⟩) hB ha_)
   ·
    replace c49 := dF c49
    refine Sq fun K110 hK110 => (Rg (Va (dx_eql rfl rfl rfl) rfl rfl (Pu rfl (Ni (hK110 ?_)))))
    refine WC.cond rfl (fun c111 => ?_) (fun c111 => ?_)
    ·
     replace c111 := dT c111
     refine WC.skip (hK47 ?_)
     refine WC.cond rfl (fun c112 => ?_) (fun c112 => ?_)
     ·
      replace c112 := dT c112
      refine Sq fun K113 hK113 => (Rg (Pu rfl ?_))
      refine Ge (dx_lit1 (r := [.int .u8 c13]) rfl ty_ap_50 (by decide) (by decide) rfl rfl rfl) rfl rfl ?_
      rintro u118 W114 ⟨k115, b116, z117⟩
      have l120 := hB.size
      replace hp42 := hp42.below b116
      replace hB := Chg.thenB hB b116
      refine Pu rfl (Pu rfl (Ni (hK113 ?_)))
      exact WC.ret fun a_ ha_ => hQ (cw_ret2 rfl (.tmp rfl) (.tmp rfl) (.inl ⟨k37, [c13], _, rfl, (by rw [escB_g (c := c13) (by assumption) (by omega) (by omega)]; repeat' split; all_goals first | omega | (congr 2 <;> first | omega | (congr 1; done); done)), bytes_one (by omega), (by show ka + 1 ≤ _; omega), by omega, .of_own k115 l120, hp42⟩) hB ha_)
     ·
      replace c112 := dF c112
      refine Sq fun K121 hK121 => (Rg (Va (dx_eql rfl rfl rfl) rfl rfl (Pu rfl (Ni (hK121 ?_)))))
      refine WC.cond rfl (fun c122 => ?_) (fun c122 => ?_)
      ·
       replace c122 := dT c122
       refine Sq fun K123 hK123 => (Rg ?_)
       refine Ge (dx_lit1 (r := [.int .u8 8]) rfl ty_ap_50 (by decide) (by decide) rfl rfl rfl) rfl rfl ?_
       rintro u128 W124 ⟨k125, b126, z127⟩
       have l130 := hB.size
       replace hp42 := hp42.below b126
       replace hB := Chg.thenB hB b126
       refine Pu rfl (Pu rfl (Ni (hK123 ?_)))
       exact WC.ret fun a_ ha_ => hQ (cw_ret2 rfl (.tmp rfl) (.tmp rfl) (.inl ⟨k37, [8], _, rfl, (by rw [escB_g (c := c13) (by assumption) (by omega) (by omega)]; repeat' split; all_goals first | omega | (congr 2 <;> first | omega | (congr 1; done); done)), bytes_one (by omega), (by show ka + 1 ≤ _; omega), by omega, .of_own k125 l130, hp42⟩) hB ha_)
      ·
       replace c122 := dF c122
       refine Sq fun K131 hK131 => (Rg (Va (dx_eql rfl rfl rfl) rfl rfl (Pu rfl (Ni (hK131 ?_)))))
       refine WC.cond rfl (fun c132 => ?_) (fun c132 => ?_)
       ·
        replace c132 := dT c132
        refine Sq fun K133 hK133 => (Rg ?_)
        refine Ge (dx_lit1 (r := [.int .u8 12]) rfl ty_ap_50 (by decide) (by decide) rfl rfl rfl) rfl rfl ?_
        rintro u138 W134 ⟨k135, b136, z137⟩
        have l140 := hB.size
        replace hp42 := hp42.below b136
        replace hB := Chg.thenB hB b136
        refine Pu rfl (Pu rfl (Ni (hK133 ?_)))
        exact WC.ret fun a_ ha_ => hQ (cw_ret2 rfl (.tmp rfl) (.tmp rfl) (.inl ⟨k37, [12], _, rfl, (by rw [escB_g (c := c13) (by assumption) (by omega) (by omega)]; repeat' split; all_goals first | omega | (congr 2 <;> first | omega | (congr 1; done); done)), bytes_one (by omega), (by show ka + 1 ≤ _; omega), by omega, .of_own k135 l140, hp42⟩) hB ha_)
       ·
        replace c132 := dF c132
        refine Sq fun K141 hK141 => (Rg (Va (dx_eql rfl rfl rfl) rfl rfl (Pu rfl (Ni (hK141 ?_)))))
        refine WC.cond rfl (fun c142 => ?_) (fun c142 => ?_)
        ·
         replace c142 := dT c142
         refine Sq fun K143 hK143 => (Rg ?_)
         refine Ge (dx_lit1 (r := [.int .u8 10]) rfl ty_ap_50 (by decide) (by decide) rfl rfl rfl) rfl rfl ?_
         rintro u148 W144 ⟨k145, b146, z147⟩
         have l150 := hB.size
         replace hp42 := hp42.below b146
         replace hB := Chg.thenB hB b146
         refine Pu rfl (Pu rfl (Ni (hK143 ?_)))
         exact WC.ret fun a_ ha_ => hQ (cw_ret2 rfl (.tmp rfl) (.tmp rfl) (.inl ⟨k37, [10], _, rfl, (by rw [escB_g (c := c13) (by assumption) (by omega) (by omega)]; repeat' split; all_goals first | omega | (congr 2 <;> first | omega | (congr 1; done); done)), bytes_one (by omega), (by show ka + 1 ≤ _; omega), by omega, .of_own k145 l150, hp42⟩) hB ha_)
        ·
         replace c142 := dF c142
         refine Sq fun K151 hK151 => (Rg (Va (dx_eql rfl rfl rfl) rfl rfl (Pu rfl (Ni (hK151 ?_)))))
         refine WC.cond rfl (fun c152 => ?_) (fun c152 => ?_)
         ·
          replace c152 := dT c152
          refine Sq fun K153 hK153 => (Rg ?_)
          refine Ge (dx_lit1 (r := [.int .u8 13]) rfl ty_ap_50 (by decide) (by decide) rfl rfl rfl) rfl rfl ?_
          rintro u158 W154 ⟨k155, b156, z157⟩
          have l160 := hB.size
          replace hp42 := hp42.below b156
          replace hB := Chg.thenB hB b156
          refine Pu rfl (Pu rfl (Ni (hK153 ?_)))
          exact WC.ret fun a_ ha_ => hQ (cw_ret2 rfl (.tmp rfl) (.tmp rfl) (.inl ⟨k37, [13], _, rfl, (by rw [escB_g (c := c13) (by assumption) (by omega) (by omega)]; repeat' split; all_goals first | omega | (congr 2 <;> first | omega | (congr 1; done); done)), bytes_one (by omega), (by show ka + 1 ≤ _; omega), by omega, .of_own k155 l160, hp42⟩) hB ha_)
         ·
          replace c152 := dF c152
          refine Sq fun K161 hK161 => (Rg (Va (dx_eql rfl rfl rfl) rfl rfl (Pu rfl (Ni (hK161 ?_)))))
          refine WC.cond rfl (fun c162 => ?_) (fun c162 => ?_)
          ·
           replace c162 := dT c162
           refine Sq fun K163 hK163 => (Rg ?_)
           refine Ge (dx_lit1 (r := [.int .u8 9]) rfl ty_ap_50 (by decide) (by decide) rfl rfl rfl) rfl rfl ?_
           rintro u168 W164 ⟨k165, b166, z167⟩
           have l170 := hB.size
           replace hp42 := hp42.below b166
           replace hB := Chg.thenB hB b166
           refine Pu rfl (Pu rfl (Ni (hK163 ?_)))
           exact WC.ret fun a_ ha_ => hQ (cw_ret2 rfl (.tmp rfl) (.tmp rfl) (.inl ⟨k37, [9], _, rfl, (by rw [escB_g (c := c13) (by assumption) (by omega) (by omega)]; repeat' split; all_goals first | omega | (congr 2 <;> first | omega | (congr 1; done); done)), bytes_one (by omega), (by show ka + 1 ≤ _; omega), by omega, .of_own k165 l170, hp42⟩) hB ha_)
          ·
           replace c162 := dF c162
           refine WC.skip (hK45 (Sq fun K171 hK171 => (Rg (Pu rfl (Pu rfl (Ni (hK171 ?_)))))))
           exact WC.ret fun a_ ha_ => hQ (cw_ret2 rfl (.tmp rfl) (.tmp rfl) (.inr ⟨k37, rfl, (by first | (apply escB_n <;> first | assumption | omega; done) | (apply escB_x <;> first | assumption | omega; done) | (refine escB_e (by assumption) (take_c (c := c13) (by assumption) (by assumption)); done) | (rw [escB_g (c := c13) (by assumption) (by omega) (by omega)]; repeat' split; all_goals first | rfl | omega)), by omega, hp42⟩) hB ha_)
    ·
     replace c111 := dF c111
     refine Rg (Va (dx_eql rfl rfl rfl) rfl rfl (Pu rfl (Ni (hK47 ?_))))
     refine WC.cond rfl (fun c172 => ?_) (fun c172 => ?_)
     ·
      replace c172 := dT c172
      refine Sq fun K173 hK173 => (Rg (Pu rfl ?_))
      refine Ge (dx_lit1 (r := [.int .u8 c13]) rfl ty_ap_50 (by decide) (by decide) rfl rfl rfl) rfl rfl ?_
      rintro u178 W174 ⟨k175, b176, z177⟩
      have l180 := hB.size
      replace hp42 := hp42.below b176
      replace hB := Chg.thenB hB b176
      refine Pu rfl (Pu rfl (Ni (hK173 ?_)))
      exact WC.ret fun a_ ha_ => hQ (cw_ret2 rfl (.tmp rfl) (.tmp rfl) (.inl ⟨k37, [c13], _, rfl, (by rw [escB_g (c := c13) (by assumption) (by omega) (by omega)]; repeat' split; all_goals first | omega | (congr 2 <;> first | omega | (congr 1; done); done)), bytes_one (by omega), (by show ka + 1 ≤ _; omega), by omega, .of_own k175 l180, hp42⟩) hB ha_)
     ·
      replace c172 := dF c172
      refine Sq fun K181 hK181 => (Rg (Va (dx_eql rfl rfl rfl) rfl rfl (Pu rfl (Ni (hK181 ?_)))))
      refine WC.cond rfl (fun c182 => ?_) (fun c182 => ?_)
      ·
       replace c182 := dT c182
       refine Sq fun K183 hK183 => (Rg ?_)
       refine Ge (dx_lit1 (r := [.int .u8 8]) rfl ty_ap_50 (by decide) (by decide) rfl rfl rfl) rfl rfl ?_
       rintro u188 W184 ⟨k185, b186, z187⟩
       have l190 := hB.size
       replace hp42 := hp42.below b186
       replace hB := Chg.thenB hB b186
       refine Pu rfl (Pu rfl (Ni (hK183 ?_)))
       exact WC.ret fun a_ ha_ => hQ (cw_ret2 rfl (.tmp rfl) (.tmp rfl) (.inl ⟨k37, [8], _, rfl, (by rw [escB_g (c := c13) (by assumption) (by omega) (by omega)]; repeat' split; all_goals first | omega | (congr 2 <;> first | omega | (congr 1; done); done)), bytes_one (by omega), (by show ka + 1 ≤ _; omega), by omega, .of_own k185 l190, hp42⟩) hB ha_)
      ·
       replace c182 := dF c182
       refine Sq fun K191 hK191 => (Rg (Va (dx_eql rfl rfl rfl) rfl rfl (Pu rfl (Ni (hK191 ?_)))))
       refine WC.cond rfl (fun c192 => ?_) (fun c192 => ?_)
       ·
        replace c192 := dT c192
        refine Sq fun K193 hK193 => (Rg ?_)
        refine Ge (dx_lit1 (r := [.int .u8 12]) rfl ty_ap_50 (by decide) (by decide) rfl rfl rfl) rfl rfl ?_
        rintro u198 W194 ⟨k195, b196, z197⟩
        have l200 := hB.size
        replace hp42 := hp42.below b196
        replace hB := Chg.thenB hB b196
        refine Pu rfl (Pu rfl (Ni (hK193 ?_)))
        exact WC.ret fun a_ ha_ => hQ (cw_ret2 rfl (.tmp rfl) (.tmp rfl) (.inl ⟨k37, [12], _, rfl, (by rw [escB_g (c := c13) (by assumption) (by omega) (by omega)]; repeat' split; all_goals first | omega | (congr 2 <;> first | omega | (congr 1; done); done)), bytes_one (by omega), (by show ka + 1 ≤ _; omega), by omega, .of_own k195 l200, hp42⟩) hB ha_)
       ·
        replace c192 := dF c192
        refine Sq fun K201 hK201 => (Rg (Va (dx_eql rfl rfl rfl) rfl rfl (Pu rfl (Ni (hK201 ?_)))))
        refine WC.cond rfl (fun c202 => ?_) (fun c202 => ?_)
        ·
         replace c202 := dT c202
         refine Sq fun K203 hK203 => (Rg ?_)
         refine Ge (dx_lit1 (r := [.int .u8 10]) rfl ty_ap_50 (by decide) (by decide) rfl rfl rfl) rfl rfl ?_
         rintro u208 W204 ⟨k205, b206, z207⟩
         have l210 := hB.size
         replace hp42 := hp42.below b206
         replace hB := Chg.thenB hB b206
         refine Pu rfl (Pu rfl (Ni (hK203 ?_)))
         exact WC.ret fun a_ ha_ => hQ (cw_ret2 rfl (.tmp rfl) (.tmp rfl) (.inl ⟨k37, [10], _, rfl, (by rw [escB_g (c := c13) (by assumption) (by omega) (by omega)]; repeat' split; all_goals first | omega | (congr 2 <;> first | omega | (congr 1; done); done)), bytes_one (by omega), (by show ka + 1 ≤ _; omega), by omega, .of_own k205 l210, hp42⟩) hB ha_)
        ·
         replace c202 := dF c202
         refine Sq fun K211 hK211 => (Rg (Va (dx_eql rfl rfl rfl) rfl rfl (Pu rfl (Ni (hK211 ?_)))))
         refine WC.cond rfl (fun c212 => ?_) (fun c212 => ?_)
         ·
          replace c212 := dT c212
          refine Sq fun K213 hK213 => (Rg ?_)
          refine Ge (dx_lit1 (r := [.int .u8 13]) rfl ty_ap_50 (by decide) (by decide) rfl rfl rfl) rfl rfl ?_
          rintro u218 W214 ⟨k215, b216, z217⟩
          have l220 := hB.size
          replace hp42 := hp42.below b216
          replace hB := Chg.thenB hB b216
          refine Pu rfl (Pu rfl (Ni (hK213 ?_)))
          exact WC.ret fun a_ ha_ => hQ (cw_ret2 rfl (.tmp rfl) (.tmp rfl) (.inl ⟨k37, [13], _, rfl, (by rw [escB_g (c := c13) (by assumption) (by omega) (by omega)]; repeat' split; all_goals first | omega | (congr 2 <;> first | omega | (congr 1; done); done)), bytes_one (by omega), (by show ka + 1 ≤ _; omega), by omega, .of_own k215 l220, hp42⟩) hB ha_)
         ·
          replace c212 := dF c212
          refine Sq fun K221 hK221 => (Rg (Va (dx_eql rfl rfl rfl) rfl rfl (Pu rfl (Ni (hK221 ?_)))))
          refine WC.cond rfl (fun c222 => ?_) (fun c222 => ?_)
          ·
           replace c222 := dT c222
           refine Sq fun K223 hK223 => (Rg ?_)
           refine Ge (dx_lit1 (r := [.int .u8 9]) rfl ty_ap_50 (by decide) (by decide) rfl rfl rfl) rfl rfl ?_
           rintro u228 W224 ⟨k225, b226, z227⟩
           have l230 := hB.size
           replace hp42 := hp42.below b226
           replace hB := Chg.thenB hB b226
           refine Pu rfl (Pu rfl (Ni (hK223 ?_)))
           exact WC.ret fun a_ ha_ => hQ (cw_ret2 rfl (.tmp rfl) (.tmp rfl) (.inl ⟨k37, [9], _, rfl, (by rw [escB_g (c := c13) (by assumption) (by omega) (by omega)]; repeat' split; all_goals first | omega | (congr 2 <;> first | omega | (congr 1; done); done)), bytes_one (by omega), (by show ka + 1 ≤ _; omega), by omega, .of_own k225 l230, hp42⟩) hB ha_)
          ·
           replace c222 := dF c222
           refine WC.skip (hK45 (Sq fun K231 hK231 => (Rg (Pu rfl (Pu rfl (Ni (hK231 ?_)))))))
           exact WC.ret fun a_ ha_ => hQ (cw_ret2 rfl (.tmp rfl) (.tmp rfl) (.inr ⟨k37, rfl, (by first | (apply escB_n <;> first | assumption | omega; done) | (apply escB_x <;> first | assumption | omega; done) | (refine escB_e (by assumption) (take_c (c := c13) (by assumption) (by assumption)); done) | (rw [escB_g (c := c13) (by assumption) (by omega) (by omega)]; repeat' split; all_goals first | rfl | omega)), by omega, hp42⟩) hB ha_)
 | true =>
  rw [hT31] at hk26
  have hthT31 := take_t hT31
  replace hk26 : k25 = ka + 1 := hk26
  refine Ni (hK21 (WC.condT rfl (Sq fun K232 hK232 => (Rg (Pu rfl ?_)))))
  refine Ge (dx_cw rfl Try.func118 rfl rfl rfl (escRune_v s P k25 dp W29 _ hL hPL hs (by omega) hp30)) rfl rfl ?_
  rintro _ W244 ⟨(⟨k233, r234, rfl, hf235, hf236, hf237, hf238, hf239, hp245⟩ | ⟨k242, rfl, hf240, hf241, hp245⟩), g243⟩
  ·
   replace hB := Chg.both hB g243
   refine Pu rfl (Pu rfl (Pu rfl (Pu rfl (Pu rfl (Ni (hK232 (Sq fun K246 hK246 => ?_)))))))
   refine Sq fun K247 hK247 => (Rg (Pu rfl (Va (dx_neq rfl rfl rfl) rfl rfl (Ni (hK247 (WC.condF rfl (WC.skip ?_)))))))
   refine hK246 (Sq fun K248 hK248 => (Rg (Pu rfl ?_)))
   refine Ge (dx_lit1 (r := [.int .i32 r234]) rfl ty_ap_86 (by decide) (by decide) rfl rfl rfl) rfl rfl ?_
   rintro u253 W249 ⟨k250, b251, z252⟩
   have l255 := hB.size
   replace hp245 := hp245.below b251
   replace hB := Chg.thenB hB b251
   have hsz := hB.size
   refine Ge (dx_cv rfl Try.func119 rfl rfl rfl (encode_cv u253 r234 W249 (rdI32_of (k250.rd (L := []) (by simp))))) rfl rfl ?_
   rintro _ W260 ⟨(⟨x256, rfl, hr257, hN258⟩ | ⟨rfl, hr257⟩), g259⟩
   ·
    replace hp245 := hp245.below g259
    replace hB := Chg.thenB hB g259
    refine Pu rfl (Pu rfl (Pu rfl (Pu rfl (Ni (hK248 ?_)))))
    exact WC.ret fun a_ ha_ => hQ (cw_ret2 rfl (.tmp rfl) (.tmp rfl) (.inl ⟨k233, encI r234, _, rfl, (by apply escB_r <;> first | assumption | omega), encI_bytes (isRune_in hr257).1 (isRune_in hr257).2, (by have := encI_len r234; omega), by omega, hN258.le hsz, hp245⟩) hB ha_)
   ·
    replace hp245 := hp245.below g259
    replace hB := Chg.thenB hB g259
    refine Pu rfl (Pu rfl (Pu rfl (Pu rfl (Ni (hK248 ?_)))))
    exact WC.ret fun a_ ha_ => hQ (cw_ret2 rfl (.tmp rfl) (.tmp rfl) (.inr ⟨k233, rfl, (by first | (apply escB_n <;> first | assumption | omega; done) | (apply escB_x <;> first | assumption | omega; done) | (refine escB_e (by assumption) (take_c (c := c13) (by assumption) (by assumption)); done) | (rw [escB_g (c := c13) (by assumption) (by omega) (by omega)]; repeat' split; all_goals first | rfl | omega)), by omega, hp245⟩) hB ha_)
  ·
   replace hB := Chg.both hB g243
   refine Pu rfl (Pu rfl (Pu rfl (Pu rfl (Pu rfl (Ni (hK232 (Sq fun K262 hK262 => ?_)))))))
   refine Sq fun K263 hK263 => (Rg (Pu rfl (Va (dx_neq rfl rfl rfl) rfl rfl (Ni (hK263 (WC.condT rfl (Sq fun K264 hK264 => ?_)))))))
   refine Rg (Pu rfl (Pu rfl (Pu rfl (Ni (hK264 ?_)))))
   exact WC.ret fun a_ ha_ => hQ (cw_ret2 rfl (.tmp rfl) (.tmp rfl) (.inr ⟨k242, rfl, (by first | (apply escB_n <;> first | assumption | omega; done) | (apply escB_x <;> first | assumption | omega; done) | (refine escB_e (by assumption) (take_c (c := c13) (by assumption) (by assumption)); done) | (rw [escB_g (c := c13) (by assumption) (by omega) (by omega)]; repeat' split; all_goals first | rfl | omega)), by omega, hp245⟩) hB ha_)

def qN (s : ByteArray) : Nat → Nat → List Int → Option (List Int × Nat)
 | 0, _, _ => none
 | n + 1, k, out => if k < s.size then
   (if atS s k < 32 then none else if atS s k = 34 then some (out, k + 1) else if atS s k = 92 then
    match escB s (k + 1) with
    | none => none
    | some (l, k') => qN s n k' (out ++ l)
   else qN s n (k + 1) (out ++ [atS s k]))
  else none
def quoS (s : ByteArray) (k : Nat) : Option (List Int × Nat) := qN s (s.size + 1) (k + 1) []
section
variable {s : ByteArray} {n k k1 k2 : Nat} {out l : List Int} {c : Int}
theorem qN_end (h : ¬ k < s.size) : qN s (n + 1) k out = none := by rw [qN, if_neg h]
theorem qN_lo (h : k < s.size) (hc : c = atS s k) (h1 : c < 32) : qN s (n + 1) k out = none := by subst hc; rw [qN, if_pos h, if_pos h1]
theorem qN_q (h : k < s.size) (hc : c = atS s k) (h1 : ¬ c < 32) (h2 : c = 34) (e : k1 = k + 1) : qN s (n + 1) k out = some (out, k1) := by subst hc e; rw [qN, if_pos h, if_neg h1, if_pos h2]
theorem qN_e0 (h : k < s.size) (hc : c = atS s k) (h1 : ¬ c < 32) (h2 : ¬ c = 34) (h3 : c = 92) (e : k1 = k + 1) (he : escB s k1 = none) : qN s (n + 1) k out = none := by subst hc e; rw [qN, if_pos h, if_neg h1, if_neg h2, if_pos h3, he]
theorem qN_e1 (h : k < s.size) (hc : c = atS s k) (h1 : ¬ c < 32) (h2 : ¬ c = 34) (h3 : c = 92) (e : k1 = k + 1) (he : escB s k1 = some (l, k2)) : qN s (n + 1) k out = qN s n k2 (out ++ l) := by subst hc e; rw [qN, if_pos h, if_neg h1, if_neg h2, if_pos h3, he]
theorem qN_d (h : k < s.size) (hc : c = atS s k) (h1 : ¬ c < 32) (h2 : ¬ c = 34) (h3 : ¬ c = 92) (e : k1 = k + 1) : qN s (n + 1) k out = qN s n k1 (out ++ [c]) := by subst hc e; rw [qN, if_pos h, if_neg h1, if_neg h2, if_neg h3]
theorem take_of (h : k < s.size) (hc : c = atS s k) : takeS s k c = true := by unfold takeS; rw [decide_eq_true h, decide_eq_true hc.symm]; rfl
end
theorem take_y (c : Int) (s : ByteArray) (P ka dp : Nat) (w : World) (L : List Nat) (hL : LL L w) (hPL : P ∈ L) (hs : s.size ≤ 1000000) (hk : ka ≤ s.size) (hp : Blk w P (psC s ka dp)) (hq : takeS s ka c = true) :
  CW Try.prog 58 [.pointer (some ⟨P, 0, none⟩), .int .u8 c] w P fun v W => ∃ k', v = .bool true ∧ k' = ka + 1 ∧ k' ≤ s.size ∧ Blk W P (psC s k' dp) :=
 Calls.mono (take_v c s P ka dp w L hL hPL hs hk hp) fun e w' h => by
  obtain ⟨v, he, ⟨k', h1, h2, h3⟩, h4⟩ := h
  rw [hq] at h1 h2
  exact ⟨v, he, ⟨k', h1, h2, h3⟩, h4⟩
def NwP (P base : Nat) (l : List Int) (u : Value) (w : World) : Prop := P < base ∧ NewW 1 base (l.map e8) u w
theorem NwP.below {P base : Nat} {l : List Int} {u : Value} {w w' : World} (h : NwP P base l u w) (hb : Below w.heap.size w w') : NwP P base l u w' := ⟨h.1, h.2.below hb⟩
theorem NwP.chgL {P base : Nat} {l : List Int} {u : Value} {w w' : World} (h : NwP P base l u w) (g : Chg P w w') {L : List Nat} (_ : P ∈ L) : NwP P base l u w' := ⟨h.1, h.2.chg g h.1⟩
theorem fold_push (ns : List Int) : ∀ s : ByteArray, (ns.foldl (fun r n => r.push (UInt8.ofNat n.toNat)) s).data.toList = s.data.toList ++ ns.map fun n => UInt8.ofNat n.toNat := by
 induction ns with
 | nil => intro s; simp
 | cons n ns ih => intro s; rw [List.foldl_cons, ih]; simp
theorem fold_strOf (ns : List Int) : ns.foldl (fun r n => r.push (UInt8.ofNat n.toNat)) ByteArray.empty = strOfNums ns := by
 have h := fold_push ns ByteArray.empty
 generalize ns.foldl (fun r n => r.push (UInt8.ofNat n.toNat)) ByteArray.empty = x at h
 cases x with
 | mk d =>
  unfold strOfNums
  congr 1
  apply Array.toList_inj.1
  exact h
section
variable {P : Program} {ops : Array Oper} {o : Oper} {N : Nat} {f : Fl} {w : World}
theorem dx_bs {t d e : TypeId} {x : Operand} {u : Value} {l : List Int} {L : List Nat} (ho : o.op = .convert t d x) (hs : P.underlying t = some (.slice e)) (hd : P.underlying d = some .string) (he : P.underlying e = some (.int .u8)) (hx : ev f x = some u) (h : RdF 1 L w u (l.map e8)) (hw : wantF ops o f = some true := by rfl) : DV P ops o N f w (.string (strOfNums l)) := fun a ha => by
 obtain ⟨_, _, A, cap, rfl, h2, h3, h4, h5⟩ := h
 have hx := ha.ev hx
 have hc : (Conv.bytesToString (.slice A (l.map e8).length cap)).run P w = .ok (.string (strOfNums l)) w := by
  cases hl : l with
  | nil =>
   cases A with
   | none => unfold Conv.bytesToString; simp [Sem.run_pure]; rfl
   | some q =>
    have := run_bytesToString (P := P) w q 0 cap [] (run_loadCells_list w q [] (fun j v hj => by cases hj))
    exact this
  | cons z t =>
   obtain ⟨X, q, rfl, _, hr⟩ := h5 (by rw [hl]; exact List.cons_ne_nil _ _)
   rw [← hl, List.length_map]
   have hq := run_loadCells_list (P := P) w ⟨X, q, none⟩ (l.map (Value.int .u8)) (fun j v hj => by have := hr j v (by rw [show (l.map e8).flatten = l.map (Value.int .u8) from flat_one l]; exact hj); simp only [Addr.add]; split; (rename_i h0; subst h0; exact this); exact this)
   rw [List.length_map] at hq
   rw [run_bytesToString w ⟨X, q, none⟩ l.length cap l hq, fold_strOf]
 exact Does.pure (wantF_of ha hw) _ (by unfold execOp; simp only [ho, hx, Sem.run_bind, Sem.run_pure, run_convert_bytes_string w t d e A _ _ hs he hd, hc, Result.andThen_ok]) ⟨rfl, rfl⟩
end
set_option maxHeartbeats 1000000 in
theorem quoted_v  (s : ByteArray) (P ka dp : Nat) (w : World) (L : List Nat) (hL : LL L w) (hPL : P ∈ L) (hs : s.size ≤ 1000000) (hk : ka ≤ s.size) (hp : Blk w P (psC s ka dp))  (hq : takeS s ka 34 = true) : CW Try.prog 62 [.pointer (some ⟨P, 0, none⟩)] w P fun v W => (∃ k' l, v = .tuple #[.string (strOfNums l), .int .i64 0] ∧ quoS s ka = some (l, k') ∧ Bytes l ∧ l.length ≤ k' ∧ ka < k' ∧ k' ≤ s.size ∧ Blk W P (psC s k' dp)) ∨ (∃ k', v = .tuple #[.string ⟨#[]⟩, .int .i64 2] ∧ quoS s ka = none ∧ k' ≤ s.size ∧ Blk W P (psC s k' dp)) := by
 refine cw_enter (N := 62) (f := [(0, .pointer (some ⟨P, 0, none⟩))]) Try.func62 rfl rfl rfl rfl fun Q hQ hE => ?_
 have hB := Chg.refl P w
 have hL0 := hL
 refine Sq fun K1 hK1 => (Rg (Pu rfl (Pu rfl (Ni (hK1 (Sq fun K2 hK2 => (Rg ?_)))))))
 refine Pu rfl (Va (dx_nilCheck rfl rfl) rfl rfl (Va (dx_fld (o1 := 0) rfl ty_fld_55_0_0 rfl rfl) rfl rfl ?_))
 refine Ge (dx_cw rfl Try.func58 rfl rfl rfl (take_y 34 s P ka dp w _ hL hPL hs (by omega) hp hq)) rfl rfl ?_
 rintro _ W10 ⟨⟨k6, rfl, hk7, hk8, hp11⟩, g9⟩
 replace hB := Chg.both hB g9
 replace hL := hL.chg g9
 refine Ni (hK2 (Sq fun K12 hK12 => ?_))
 have hPw : P < w.heap.size := hL0 P hPL
 have h5 : NwP P w.heap.size [] (.slice none 0 0) W10 := ⟨hPw, .inl ⟨rfl, rfl, by decide⟩⟩
 refine Rg (Pu rfl (Ni (hK12 (Sq fun K13 hK13 => (WC.block ?_)))))
 refine WC.loop3 (fun (kb : Nat) (ov : Value) (out : List Int) => [(0, .pointer (some ⟨P, 0, none⟩)), (4, ov)]) (fun (kb : Nat) (ov : Value) (out : List Int) W => kb ≤ s.size ∧ ka < kb ∧ Bytes out ∧ out.length ≤ kb ∧ (∃ n, s.size - kb < n ∧ quoS s ka = qN s n kb out) ∧ Chg P w W ∧ LL (L) W ∧ NwP P w.heap.size out ov W ∧ Blk W P [.string s, .int .i64 (kb : Int), .int .i64 (dp : Int)]) (fun (kb : Nat) (ov : Value) (out : List Int) => s.size - kb) k6 (.slice none 0 0) [] (by repeat first | exact trivial | exact And.intro rfl trivial | refine And.intro rfl ?_ | refine And.intro (congrArg (fun z : Int => some (Value.int .i64 z)) (by omega)) ?_) ⟨(by omega), (by omega), (fun x hx => by cases hx), (Nat.zero_le _), ⟨s.size + 1, by omega, by rw [hk7]; rfl⟩, hB, hL, h5, hp11⟩ ?_
 clear h5 hp11 hB hL
 rintro K14 kb ov out W15 ⟨hkb, hkk, hB8, hol, hv, hB, hL, h5, hp11⟩ hK14
 refine Sq fun K16 hK16 => (Sq fun K17 hK17 => (Rg (Pu rfl (Va (dx_nilCheck rfl rfl) rfl rfl (Va (dx_fld (o1 := 0) rfl ty_fld_55_0_0 rfl rfl) rfl rfl ?_)))))
 refine Ge (dx_cv rfl Try.func35 rfl rfl rfl (ended_v s P kb dp W15 _ hL hPL hs (by omega) hp11)) rfl rfl ?_
 rintro _ W19 ⟨rfl, b18⟩
 replace h5 := h5.below b18
 replace hp11 := hp11.below b18
 replace hB := Chg.thenB hB b18
 replace hL := LL.below hL b18
 refine Va (dx_not rfl rfl) rfl rfl (Ni (hK17 ?_))
 refine WC.cond rfl (fun c20 => ?_) (fun c20 => ?_)
 ·
  replace c20 := bnot_t c20
  replace c20 := dF c20
  refine WC.skip (hK16 (WC.block (Sq fun K21 hK21 => ?_)))
  obtain ⟨n_, hn1, hv⟩ := hv
  obtain ⟨n, rfl⟩ : ∃ m, n_ = m + 1 := ⟨n_ - 1, by omega⟩
  refine Rg (Pu rfl (Va (dx_nilCheck rfl rfl) rfl rfl (Va (dx_fld (o1 := 0) rfl ty_fld_55_0_0 rfl rfl) rfl rfl ?_)))
  refine Ge (dx_cv rfl Try.func59 rfl rfl rfl (peek_c s P kb dp W19 _ hL hPL hs (by omega) hp11)) rfl rfl ?_
  rintro _ W38 ⟨⟨c32, rfl, hc33, hc34, hc35, hc36⟩, b37⟩
  replace h5 := h5.below b37
  replace hp11 := hp11.below b37
  replace hB := Chg.thenB hB b37
  replace hL := LL.below hL b37
  refine Pu rfl (Ni (hK21 (WC.block (Sq fun K39 hK39 => (Rg (Pu rfl (Va (dx_lss rfl rfl rfl) rfl rfl ?_)))))))
  refine Pu rfl (Ni (hK39 ?_))
  refine WC.cond rfl (fun c40 => ?_) (fun c40 => ?_)
  ·
   replace c40 := dT c40
   refine Sq fun K41 hK41 => (Rg (Pu rfl (Pu rfl (Ni (hK41 ?_)))))
   exact WC.ret fun a_ ha_ => hQ (cw_ret2 rfl (.tmp rfl) (.tmp rfl) (.inr ⟨kb, rfl, (by first | exact hv.trans (qN_lo (by omega) (hc35 (by omega)) (by omega)) | exact hv.trans (qN_e0 (by omega) (hc35 (by omega)) (by omega) (by omega) (by omega) (by assumption) (by assumption)) | (obtain ⟨n_, hn1, hv⟩ := hv; obtain ⟨n, rfl⟩ : ∃ m, n_ = m + 1 := ⟨n_ - 1, by omega⟩; exact hv.trans (qN_end (by omega)))), by omega, hp11⟩) hB ha_)
  ·
   replace c40 := dF c40
   refine Sq fun K42 hK42 => (Rg (Pu rfl (Va (dx_eql rfl rfl rfl) rfl rfl (Pu rfl (Ni (hK42 ?_))))))
   refine WC.cond rfl (fun c43 => ?_) (fun c43 => ?_)
   ·
    replace c43 := dT c43
    refine Sq fun K44 hK44 => (Rg (Pu rfl (Va (dx_nilCheck rfl rfl) rfl rfl (Va (dx_fld (o1 := 0) rfl ty_fld_55_0_0 rfl rfl) rfl rfl (Pu rfl ?_)))))
    refine Ge (dx_cw rfl Try.func58 rfl rfl rfl (take_y c32 s P kb dp W38 _ hL hPL hs (by omega) hp11 (take_of (by omega) (hc35 (by omega))))) rfl rfl ?_
    rintro _ W52 ⟨⟨k48, rfl, hk49, hk50, hp53⟩, g51⟩
    replace h5 := h5.chgL g51 hPL
    replace hB := Chg.both hB g51
    refine Ni (hK44 (Sq fun K54 hK54 => (Rg (Pu rfl (Va (dx_bs (l := out) rfl Try.underlying50 Try.underlying9 Try.underlying5 rfl (h5.2.rd (L := []) (by simp))) rfl rfl (Pu rfl (Pu rfl ?_)))))))
    refine Ni (hK54 ?_)
    exact WC.ret fun a_ ha_ => hQ (cw_ret2 rfl (.tmp rfl) (.tmp rfl) (.inl ⟨k48, out, rfl, hv.trans (qN_q (by omega) (hc35 (by omega)) (by omega) (by omega) (by assumption)), hB8, by omega, by omega, by omega, hp53⟩) hB ha_)
   ·
    replace c43 := dF c43
    refine Sq fun K55 hK55 => (Rg (Pu rfl (Va (dx_eql rfl rfl rfl) rfl rfl (Pu rfl (Ni (hK55 ?_))))))
    refine WC.cond rfl (fun c56 => ?_) (fun c56 => ?_)
    ·
     replace c56 := dT c56
     refine Sq fun K57 hK57 => (Rg (Pu rfl (Va (dx_nilCheck rfl rfl) rfl rfl (Va (dx_fld (o1 := 0) rfl ty_fld_55_0_0 rfl rfl) rfl rfl (Pu rfl ?_)))))
     refine Ge (dx_cw rfl Try.func58 rfl rfl rfl (take_y c32 s P kb dp W38 _ hL hPL hs (by omega) hp11 (take_of (by omega) (hc35 (by omega))))) rfl rfl ?_
     rintro _ W65 ⟨⟨k61, rfl, hk62, hk63, hp66⟩, g64⟩
     replace h5 := h5.chgL g64 hPL
     replace hB := Chg.both hB g64
     replace hL := hL.chg g64
     refine Ni (hK57 (Sq fun K67 hK67 => (Rg (Pu rfl ?_))))
     refine Ge (dx_cw rfl Try.func87 rfl rfl rfl (escape_v s P k61 dp W65 _ hL hPL hs (by omega) hp66)) rfl rfl ?_
     rintro _ W79 ⟨(⟨k68, l69, x70, rfl, hf71, hf72, hf73, hf74, hf75, hp80⟩ | ⟨k77, rfl, hf71, hf74, hp80⟩), g78⟩
     ·
      replace h5 := h5.chgL g78 hPL
      replace hB := Chg.both hB g78
      replace hL := hL.chg g78
      refine Pu rfl (Pu rfl (Pu rfl (Pu rfl (Pu rfl (Ni (hK67 (Sq fun K81 hK81 => ?_)))))))
      refine Sq fun K82 hK82 => (Rg (Pu rfl (Va (dx_neq rfl rfl rfl) rfl rfl (Ni (hK82 (WC.condF rfl (WC.skip ?_)))))))
      refine hK81 (Rg (Pu rfl (Pu rfl ?_)))
      refine Ge (dx_apW (base := w.heap.size) (news := l69.map e8) rfl ty_ap_50 rfl rfl h5.2 (hf75.rd (L := []) (by simp)) (oc_e8 l69) (by simp [maxLen]; omega) (by simp; omega) hB.size) rfl rfl ?_
      rintro x83 W84 ⟨h6, b85⟩
      replace h5 : NwP P w.heap.size (out ++ l69) x83 W84 := ⟨hPw, by rw [List.map_append]; exact h6⟩
      replace hp80 := hp80.base b85 hPw
      replace hB := hB.thenBase b85
      replace hL := hL.base b85
      refine Pu rfl (Ni ?_)
      exact hK14 k68 x83 (out ++ l69) ⟨(by omega), (by omega), (hB8.append hf72), (by simp; omega), ⟨n, by omega, hv.trans (qN_e1 (by omega) (hc35 (by omega)) (by omega) (by omega) (by omega) (by assumption) hf71)⟩, hB, hL, h5, hp80⟩ (by omega) (by repeat first | exact trivial | exact And.intro rfl trivial | refine And.intro rfl ?_ | refine And.intro (congrArg (fun z : Int => some (Value.int .i64 z)) (by omega)) ?_)
     ·
      replace hB := Chg.both hB g78
      refine Pu rfl (Pu rfl (Pu rfl (Pu rfl (Pu rfl (Ni (hK67 (Sq fun K86 hK86 => ?_)))))))
      refine Sq fun K87 hK87 => (Rg (Pu rfl (Va (dx_neq rfl rfl rfl) rfl rfl (Ni (hK87 (WC.condT rfl (Sq fun K88 hK88 => ?_)))))))
      refine Rg (Pu rfl (Pu rfl (Pu rfl (Ni (hK88 ?_)))))
      exact WC.ret fun a_ ha_ => hQ (cw_ret2 rfl (.tmp rfl) (.tmp rfl) (.inr ⟨k77, rfl, (by first | exact hv.trans (qN_lo (by omega) (hc35 (by omega)) (by omega)) | exact hv.trans (qN_e0 (by omega) (hc35 (by omega)) (by omega) (by omega) (by omega) (by assumption) (by assumption)) | (obtain ⟨n_, hn1, hv⟩ := hv; obtain ⟨n, rfl⟩ : ∃ m, n_ = m + 1 := ⟨n_ - 1, by omega⟩; exact hv.trans (qN_end (by omega)))), by omega, hp80⟩) hB ha_)
    ·
     replace c56 := dF c56
     refine Sq fun K89 hK89 => (Rg (Pu rfl (Va (dx_nilCheck rfl rfl) rfl rfl (Va (dx_fld (o1 := 0) rfl ty_fld_55_0_0 rfl rfl) rfl rfl (Pu rfl ?_)))))
     refine Ge (dx_cw rfl Try.func58 rfl rfl rfl (take_y c32 s P kb dp W38 _ hL hPL hs (by omega) hp11 (take_of (by omega) (hc35 (by omega))))) rfl rfl ?_
     rintro _ W97 ⟨⟨k93, rfl, hk94, hk95, hp98⟩, g96⟩
     replace h5 := h5.chgL g96 hPL
     replace hB := Chg.both hB g96
     replace hL := hL.chg g96
     refine Ni (hK89 (Rg (Pu rfl (Pu rfl ?_))))
     refine Ge (dx_lit1 (r := e8 c32) rfl ty_ap_50 (by decide) (by decide) rfl rfl rfl) rfl rfl ?_
     rintro x99 W100 ⟨k102, b101, z103⟩
     replace h5 := h5.below b101
     replace hp98 := hp98.below b101
     replace hB := Chg.thenB hB b101
     replace hL := LL.below hL b101
     have hx := k102.rd (L := []) (by simp)
     refine Ge (dx_apW (base := w.heap.size) (news := [c32].map e8) rfl ty_ap_50 rfl rfl h5.2 hx (oc_e8 [c32]) (by simp [maxLen]; omega) (by simp; omega) hB.size) rfl rfl ?_
     rintro x104 W105 ⟨h6, b106⟩
     replace h5 : NwP P w.heap.size (out ++ [c32]) x104 W105 := ⟨hPw, by rw [List.map_append]; exact h6⟩
     replace hp98 := hp98.base b106 hPw
     replace hB := hB.thenBase b106
     replace hL := hL.base b106
     refine Pu rfl (Ni ?_)
     exact hK14 k93 x104 (out ++ [c32]) ⟨(by omega), (by omega), (hB8.append (bytes_one (by omega))), (by simp; omega), ⟨n, by omega, hv.trans (qN_d (by omega) (hc35 (by omega)) (by omega) (by omega) (by omega) (by omega))⟩, hB, hL, h5, hp98⟩ (by omega) (by repeat first | exact trivial | exact And.intro rfl trivial | refine And.intro rfl ?_ | refine And.intro (congrArg (fun z : Int => some (Value.int .i64 z)) (by omega)) ?_)
 ·
  replace c20 := bnot_f c20
  replace c20 := dT c20
  refine WC.exit ?_
  refine hK13 (Sq fun K107 hK107 => (Rg (Pu rfl (Pu rfl (Ni (hK107 ?_))))))
  exact WC.ret fun a_ ha_ => hQ (cw_ret2 rfl (.tmp rfl) (.tmp rfl) (.inr ⟨kb, rfl, (by first | exact hv.trans (qN_lo (by omega) (hc35 (by omega)) (by omega)) | exact hv.trans (qN_e0 (by omega) (hc35 (by omega)) (by omega) (by omega) (by omega) (by assumption) (by assumption)) | (obtain ⟨n_, hn1, hv⟩ := hv; obtain ⟨n, rfl⟩ : ∃ m, n_ = m + 1 := ⟨n_ - 1, by omega⟩; exact hv.trans (qN_end (by omega)))), by omega, hp11⟩) hB ha_)

def accN (s : ByteArray) : Nat → Nat → Int → Option Int
 | 0, _, n => some n
 | i + 1, k, n => if 9007199254740991 < n * 10 + (atS s k - 48) then none else accN s i (k + 1) (n * 10 + (atS s k - 48))
def numT (s : ByteArray) (m : Bool) (k : Nat) : Except Int (Int × Nat) :=
 if k < s.size ∧ atS s k = 48 then (if m = true then .error 2 else .ok (0, k + 1))
 else if digS s k = k then .error 2 else match accN s (digS s k - k) k 0 with
  | none => .error 5
  | some n => .ok (if m = true then -n else n, digS s k)
def numS (s : ByteArray) (k : Nat) : Except Int (Int × Nat) := if takeS s k 45 = true then numT s true (k + 1) else numT s false k
section
variable {s : ByteArray} {k k1 k2 : Nat} {m : Bool} {n : Int}
theorem numS_t (h : takeS s k 45 = true) (e : k1 = k + 1) : numS s k = numT s true k1 := by subst e; unfold numS; rw [if_pos h]
theorem numS_f (h : takeS s k 45 = false) : numS s k = numT s false k := by unfold numS; rw [h]; rfl
theorem numT_z (h : k < s.size ∧ atS s k = 48) (e : k1 = k + 1) : numT s false k = .ok (0, k1) := by subst e; unfold numT; rw [if_pos h]; rfl
theorem numT_m (h : k < s.size ∧ atS s k = 48) : numT s true k = .error 2 := by unfold numT; rw [if_pos h]; rfl
theorem numT_0 (h : ¬ (k < s.size ∧ atS s k = 48)) (h2 : digS s k = k) : numT s m k = .error 2 := by unfold numT; rw [if_neg h, if_pos h2]
theorem numT_n (h : ¬ (k < s.size ∧ atS s k = 48)) (h2 : ¬ digS s k = k) (h3 : accN s (digS s k - k) k 0 = none) : numT s m k = .error 5 := by unfold numT; rw [if_neg h, if_neg h2, h3]
theorem numT_s (h : ¬ (k < s.size ∧ atS s k = 48)) (h2 : ¬ digS s k = k) (h3 : accN s (digS s k - k) k 0 = some n) : numT s m k = .ok (if m = true then -n else n, digS s k) := by unfold numT; rw [if_neg h, if_neg h2, h3]
end
theorem dig_all (s : ByteArray) : ∀ (f k i : Nat), k ≤ i → i < digN s f k → isDig (atS s i) = true
  | 0, k, i, h1, h2 => by unfold digN at h2; omega
  | f + 1, k, i, h1, h2 => by
    unfold digN at h2
    split at h2
    · rename_i hc
      rw [Bool.and_eq_true, decide_eq_true_eq] at hc
      rcases Nat.eq_or_lt_of_le h1 with rfl | h3
      · exact hc.2
      · exact dig_all s f (k + 1) i h3 h2
    · omega
theorem digS_all {s : ByteArray} {k i : Nat} (h1 : k ≤ i) (h2 : i < digS s k) : 48 ≤ atS s i ∧ atS s i ≤ 57 := by
 have := dig_all s _ k i h1 h2
 unfold isDig at this
 rw [Bool.and_eq_true, decide_eq_true_eq, decide_eq_true_eq] at this
 exact this
theorem at_extract (s : ByteArray) (i j k : Nat) (h : i + k < j) (hj : j ≤ s.size) : atS (s.extract i j) k = atS s (i + k) := by
 unfold atS
 have h1 : (s.extract i j).data = s.data.extract i j := by simp [ByteArray.data_extract]
 rw [h1, Array.getElem?_extract, if_pos (by have : s.data.size = s.size := rfl; omega)]
theorem empty_of {t : ByteArray} (h : t.size = 0) : t = ⟨#[]⟩ := by
 cases t with
 | mk d => congr 1; exact Array.eq_empty_of_size_eq_zero h
theorem digits_c (s : ByteArray) (P ka dp : Nat) (w : World) (L : List Nat) (hL : LL L w) (hPL : P ∈ L) (hs : s.size ≤ 1000000) (hk : ka ≤ s.size) (hp : Blk w P (psC s ka dp)) :
  CW Try.prog 86 [.pointer (some ⟨P, 0, none⟩)] w P fun v W => ∃ k' tx, v = .string tx ∧ k' = digS s ka ∧ ka ≤ k' ∧ k' ≤ s.size ∧ tx.size = k' - ka ∧ (∀ i, i < k' - ka → atS tx i = atS s (ka + i)) ∧ (∀ i, i < k' - ka → 48 ≤ atS s (ka + i) ∧ atS s (ka + i) ≤ 57) ∧ Blk W P (psC s k' dp) :=
 Calls.mono (digits_v s P ka dp w L hL hPL hs hk hp) fun e w' h => by
  obtain ⟨v, he, ⟨h1, h2⟩, h3⟩ := h
  have h4 := digS_le (s := s) (k := ka) hk
  exact ⟨v, he, ⟨digS s ka, _, h1, rfl, h4.1, h4.2, by rw [ByteArray.size_extract]; omega, fun i hi => at_extract s ka (digS s ka) i (by omega) h4.2, fun i hi => digS_all (k := ka) (i := ka + i) (by omega) (by omega), h2⟩, h3⟩
section
variable {P : Program} {ops : Array Oper} {o : Oper} {N : Nat} {f : Fl} {w : World}
theorem dx_neg {t : TypeId} {x : Operand} {K : IntKind} {m r : Int} (ho : o.op = .unOp .neg t x) (hx : ev f x = some (.int K m)) (hr : K.wrap (-m) = r) (hw : wantF ops o f = some true := by rfl) : DV P ops o N f w (.int K r) := fun a ha =>
 Does.pure (wantF_of ha hw) _ (by unfold execOp; simp only [ho, ha.ev hx]; simp [Op.unary, Op.intArith, hr, Sem.run_pure]) ⟨rfl, rfl⟩
end
theorem acc_go {s : ByteArray} {i k : Nat} {n : Int} (h : ¬ 9007199254740991 < n * 10 + (atS s k - 48)) : accN s (i + 1) k n = accN s i (k + 1) (n * 10 + (atS s k - 48)) := by rw [accN, if_neg h]
theorem acc_no {s : ByteArray} {i k : Nat} {n : Int} (h : 9007199254740991 < n * 10 + (atS s k - 48)) : accN s (i + 1) k n = none := by rw [accN, if_pos h]
set_option maxHeartbeats 1000000 in
theorem plain_v (wd : ByteArray) (kd : Int) (s : ByteArray) (P ka dp : Nat) (w : World) (L : List Nat) (hL : LL L w) (hPL : P ∈ L) (hs : s.size ≤ 1000000) (hk : ka ≤ s.size) (hp : Blk w P (psC s ka dp))  (hwd : wd.size ≤ 1000) : CW Try.prog 60 [.pointer (some ⟨P, 0, none⟩), .string wd, .int .i64 kd] w P fun v W => (∃ k', v = .tuple #[.agg #[.int .i64 kd, .int .i64 0, .string ⟨#[]⟩, .slice none 0 0, .slice none 0 0], .int .i64 0] ∧ wordS s wd ka = true ∧ k' = ka + wd.size ∧ k' ≤ s.size ∧ Blk W P (psC s k' dp)) ∨ (∃ k', v = .tuple #[.agg #[.int .i64 0, .int .i64 0, .string ⟨#[]⟩, .slice none 0 0, .slice none 0 0], .int .i64 2] ∧ wordS s wd ka = false ∧ k' ≤ s.size ∧ Blk W P (psC s k' dp)) := by
 refine cw_enter (N := 17) (f := [(0, .pointer (some ⟨P, 0, none⟩)), (1, .string wd), (2, .int .i64 kd)]) Try.func60 rfl rfl rfl rfl fun Q hQ hE => ?_
 have hB := Chg.refl P w
 have hL0 := hL
 refine Sq fun K1 hK1 => (Rg ?_)
 refine Ge (dx_alloc rfl ty_zero_26 rfl) rfl rfl ?_
 rintro _ W2 ⟨rfl, k3, b4, z5⟩
 have n6 : P ≠ w.heap.size := Nat.ne_of_lt hp.lt
 have l7 := hB.size
 replace hp := hp.below b4
 replace hB := Chg.thenB hB b4
 replace hL := LL.more hL z5
 refine Pu rfl (Ni (hK1 (Sq fun K8 hK8 => (Sq fun K9 hK9 => (Rg (Pu rfl (Va (dx_nilCheck rfl rfl) rfl rfl ?_)))))))
 refine Va (dx_fld (o1 := 0) rfl ty_fld_55_0_0 rfl rfl) rfl rfl (Pu rfl ?_)
 refine Ge (dx_cw rfl Try.func85 rfl rfl rfl (word_v wd s P ka dp W2 _ hL (.tail _ hPL) hs (by omega) hp hwd)) rfl rfl ?_
 rintro _ W19 ⟨⟨k14, rfl, hk15, hk16, hk17, hp20⟩, g18⟩
 replace k3 := k3.chg g18 n6.symm
 replace hB := Chg.both hB g18
 cases hT21 : wordS s wd ka with
 | false =>
  clear hk17
  refine Va (dx_not rfl rfl) rfl rfl (Ni (hK9 (WC.condT rfl (Sq fun K22 hK22 => (Rg (Va (dx_build rfl rfl (built_of_O (cs := zV) (by kernel_rfl) oc_nil)) rfl rfl ?_))))))
  refine WL.do (dx_store (cs' := zV) (vs := zV) rfl ty_size_26_5 rfl rfl rfl (oc_cons rfl (oc_cons rfl (oc_cons rfl (oc_cons rfl (oc_cons rfl oc_nil))))) k3 rfl (Nat.le_of_ble_eq_true rfl) rfl) rfl ?_
  rintro _ W23 ⟨k25, o24⟩
  replace hp20 := hp20.other o24 n6
  clear k3
  replace hB := Chg.only hB o24 (.inr l7)
  refine Pu rfl (Ni (hK22 ?_))
  exact WC.ret fun a_ ha_ => hQ (cw_ret2 rfl (.agg rfl ty_agg_26_5 k25.range rfl) (.tmp rfl) (.inr ⟨k14, rfl, by assumption, by omega, hp20⟩) hB ha_)
 | true =>
  replace hk17 := hk17 hT21
  refine Va (dx_not rfl rfl) rfl rfl (Ni (hK9 (WC.condF rfl (WC.skip (hK8 (Sq fun K26 hK26 => (Rg ?_)))))))
  refine Pu rfl (Va (dx_build rfl rfl (built_of_O (cs := [.int .i64 kd, .int .i64 0, .string ⟨#[]⟩, .slice none 0 0, .slice none 0 0]) (by kernel_rfl) (oc_cons rfl oc_nil))) rfl rfl ?_)
  refine WL.do (dx_store (cs' := [.int .i64 kd, .int .i64 0, .string ⟨#[]⟩, .slice none 0 0, .slice none 0 0]) (vs := [.int .i64 kd, .int .i64 0, .string ⟨#[]⟩, .slice none 0 0, .slice none 0 0]) rfl ty_size_26_5 rfl rfl rfl (oc_cons rfl (oc_cons rfl (oc_cons rfl (oc_cons rfl (oc_cons rfl oc_nil))))) k3 rfl (Nat.le_of_ble_eq_true rfl) rfl) rfl ?_
  rintro _ W27 ⟨k29, o28⟩
  replace hp20 := hp20.other o28 n6
  clear k3
  replace hB := Chg.only hB o28 (.inr l7)
  refine Pu rfl (Ni (hK26 ?_))
  exact WC.ret fun a_ ha_ => hQ (cw_ret2 rfl (.agg rfl ty_agg_26_5 k29.range rfl) (.tmp rfl) (.inl ⟨k14, rfl, by assumption, by omega, by omega, hp20⟩) hB ha_)

set_option maxHeartbeats 1000000 in
theorem number_v  (s : ByteArray) (P ka dp : Nat) (w : World) (L : List Nat) (hL : LL L w) (hPL : P ∈ L) (hs : s.size ≤ 1000000) (hk : ka ≤ s.size) (hp : Blk w P (psC s ka dp))   : CW Try.prog 61 [.pointer (some ⟨P, 0, none⟩)] w P fun v W => (∃ k' n, v = .tuple #[.agg #[.int .i64 3, .int .i64 n, .string ⟨#[]⟩, .slice none 0 0, .slice none 0 0], .int .i64 0] ∧ numS s ka = .ok (n, k') ∧ -9007199254740991 ≤ n ∧ n ≤ 9007199254740991 ∧ ka < k' ∧ k' ≤ s.size ∧ Blk W P (psC s k' dp)) ∨ (∃ k' e, v = .tuple #[.agg #[.int .i64 0, .int .i64 0, .string ⟨#[]⟩, .slice none 0 0, .slice none 0 0], .int .i64 e] ∧ e ≠ 0 ∧ numS s ka = .error e ∧ k' ≤ s.size ∧ Blk W P (psC s k' dp)) := by
 refine cw_enter (N := 53) (f := [(0, .pointer (some ⟨P, 0, none⟩))]) Try.func61 rfl rfl rfl rfl fun Q hQ hE => ?_
 have hB := Chg.refl P w
 have hL0 := hL
 refine Sq fun K1 hK1 => (Rg ?_)
 refine Ge (dx_alloc rfl ty_zero_26 rfl) rfl rfl ?_
 rintro _ W2 ⟨rfl, k3, b4, z5⟩
 have n6 : P ≠ w.heap.size := Nat.ne_of_lt hp.lt
 have l7 := hB.size
 replace hp := hp.below b4
 replace hB := Chg.thenB hB b4
 replace hL := LL.more hL z5
 refine Pu rfl (Ni (hK1 (Sq fun K8 hK8 => (Rg (Pu rfl (Va (dx_nilCheck rfl rfl) rfl rfl (Va (dx_fld (o1 := 0) rfl ty_fld_55_0_0 rfl rfl) rfl rfl ?_)))))))
 refine Ge (dx_cw rfl Try.func58 rfl rfl rfl (take_v 45 s P ka dp W2 _ hL (.tail _ hPL) hs (by omega) hp)) rfl rfl ?_
 rintro _ W16 ⟨⟨k12, rfl, hk13, hk14, hp17⟩, g15⟩
 replace k3 := k3.chg g15 n6.symm
 replace hB := Chg.both hB g15
 replace hL := hL.chg g15
 cases hT18 : takeS s ka 45 with
 | false =>
  rw [hT18] at hk13
  replace hk13 : ka = k12 := Eq.symm hk13
  subst hk13
  refine Pu rfl (Ni (hK8 (Sq fun K19 hK19 => (Sq fun K20 hK20 => ?_))))
  have hnum : numS s ka = numT s false ka := numS_f (by assumption)
  refine Rg (Pu rfl (Va (dx_nilCheck rfl rfl) rfl rfl (Va (dx_fld (o1 := 0) rfl ty_fld_55_0_0 rfl rfl) rfl rfl ?_)))
  refine Ge (dx_cv rfl Try.func59 rfl rfl rfl (peek_c s P ka dp W16 _ hL (.tail _ hPL) hs (by omega) hp17)) rfl rfl ?_
  rintro _ W37 ⟨⟨c31, rfl, hc32, hc33, hc34, hc35⟩, b36⟩
  replace hp17 := hp17.below b36
  replace k3 := k3.below b36
  replace hB := Chg.thenB hB b36
  replace hL := LL.below hL b36
  refine Va (dx_eql rfl rfl rfl) rfl rfl (Ni (hK20 ?_))
  refine WC.cond rfl (fun c38 => ?_) (fun c38 => ?_)
  ·
   replace c38 := dT c38
   refine Sq fun K39 hK39 => (Rg (Pu rfl (Va (dx_nilCheck rfl rfl) rfl rfl (Va (dx_fld (o1 := 0) rfl ty_fld_55_0_0 rfl rfl) rfl rfl ?_))))
   refine Ge (dx_cw rfl Try.func58 rfl rfl rfl (take_y 48 s P ka dp W37 _ hL (.tail _ hPL) hs (by omega) hp17 (take_of (by rcases Nat.lt_or_ge ka s.size with h_ | h_; exact h_; (have := hc35 h_; omega)) (by have h_ : ka < s.size := (by rcases Nat.lt_or_ge ka s.size with h_ | h_; exact h_; (have := hc35 h_; omega)); have := hc34 h_; omega)))) rfl rfl ?_
   rintro _ W47 ⟨⟨k43, rfl, hk44, hk45, hp48⟩, g46⟩
   replace k3 := k3.chg g46 n6.symm
   replace hB := Chg.both hB g46
   refine Ni (hK39 (Sq fun K49 hK49 => (Sq fun K50 hK50 => (Rg (Pu rfl (Ni (hK50 ?_)))))))
   refine WC.condF rfl (WC.skip (hK49 (Sq fun K51 hK51 => (Rg (Va (dx_build rfl rfl (built_of_O (cs := [.int .i64 3, .int .i64 0, .string ⟨#[]⟩, .slice none 0 0, .slice none 0 0]) (by kernel_rfl) (oc_cons rfl oc_nil))) rfl rfl ?_)))))
   refine WL.do (dx_store (cs' := [.int .i64 3, .int .i64 0, .string ⟨#[]⟩, .slice none 0 0, .slice none 0 0]) (vs := [.int .i64 3, .int .i64 0, .string ⟨#[]⟩, .slice none 0 0, .slice none 0 0]) rfl ty_size_26_5 rfl rfl rfl (oc_cons rfl (oc_cons rfl (oc_cons rfl (oc_cons rfl (oc_cons rfl oc_nil))))) k3 rfl (Nat.le_of_ble_eq_true rfl) rfl) rfl ?_
   rintro _ W52 ⟨k54, o53⟩
   replace hp48 := hp48.other o53 n6
   clear k3
   replace hB := Chg.only hB o53 (.inr l7)
   refine Pu rfl (Ni (hK51 ?_))
   exact WC.ret fun a_ ha_ => hQ (cw_ret2 rfl (.agg rfl ty_agg_26_5 k54.range rfl) (.tmp rfl) (.inl ⟨k43, 0, rfl, (by rw [hnum]; exact numT_z (by have h_ : ka < s.size := (by rcases Nat.lt_or_ge ka s.size with h_ | h_; exact h_; (have := hc35 h_; omega)); exact ⟨h_, by have := hc34 h_; omega⟩) (by assumption)), by decide, by decide, by omega, by omega, hp48⟩) hB ha_)
  ·
   replace c38 := dF c38
   refine WC.skip (hK19 (Sq fun K55 hK55 => (Rg (Pu rfl (Va (dx_nilCheck rfl rfl) rfl rfl (Va (dx_fld (o1 := 0) rfl ty_fld_55_0_0 rfl rfl) rfl rfl ?_))))))
   refine Ge (dx_cw rfl Try.func86 rfl rfl rfl (digits_c s P ka dp W37 _ hL (.tail _ hPL) hs (by omega) hp17)) rfl rfl ?_
   rintro _ W73 ⟨⟨k64, tx65, rfl, hd66, hd67, hd68, hd69, hd70, hd71, hp74⟩, g72⟩
   replace k3 := k3.chg g72 n6.symm
   replace hB := Chg.both hB g72
   replace hL := hL.chg g72
   refine Pu rfl (Ni (hK55 (Sq fun K75 hK75 => (Sq fun K76 hK76 => (Rg (Pu rfl (Va (dx_eqlT rfl rfl rfl) rfl rfl ?_)))))))
   refine Ni (hK76 ?_)
   refine WC.cond rfl (fun c77 => ?_) (fun c77 => ?_)
   ·
    replace c77 := dT c77
    refine Sq fun K78 hK78 => (Rg (Va (dx_build rfl rfl (built_of_O (cs := zV) (by kernel_rfl) oc_nil)) rfl rfl ?_))
    refine WL.do (dx_store (cs' := zV) (vs := zV) rfl ty_size_26_5 rfl rfl rfl (oc_cons rfl (oc_cons rfl (oc_cons rfl (oc_cons rfl (oc_cons rfl oc_nil))))) k3 rfl (Nat.le_of_ble_eq_true rfl) rfl) rfl ?_
    rintro _ W79 ⟨k81, o80⟩
    replace hp74 := hp74.other o80 n6
    clear k3
    replace hB := Chg.only hB o80 (.inr l7)
    refine Pu rfl (Ni (hK78 ?_))
    exact WC.ret fun a_ ha_ => hQ (cw_ret2 rfl (.agg rfl ty_agg_26_5 k81.range rfl) (.tmp rfl) (.inr ⟨k64, 2, rfl, by decide, (by rw [hnum, numT_0 (fun h_ => by have := hc34 h_.1; omega) (by have hs_ : tx65.size = 0 := (by have := congrArg ByteArray.size (show tx65 = ⟨#[]⟩ by assumption); exact this); omega)]), by omega, hp74⟩) hB ha_)
   ·
    replace c77 := dF c77
    refine WC.skip (hK75 (Sq fun K82 hK82 => (Rg (Pu rfl (Ni (hK82 (Sq fun K83 hK83 => ?_)))))))
    refine Sq fun K84 hK84 => (Rg (Pu rfl (Va (dx_lenT rfl Try.underlying9 rfl) rfl rfl (Pu rfl (Ni (hK84 (WC.block ?_)))))))
    have htz : ¬ k64 = ka := fun e_ => absurd (empty_of (t := tx65) (by omega)) (by assumption)
    refine WC.loop2 (fun (i : Nat) (n : Int) => [(0, .pointer (some ⟨P, 0, none⟩)), (4, .bool false), (5, .string tx65), (32, .int .i64 (tx65.size : Int)), (2, .pointer (some ⟨w.heap.size, 0, none⟩)), (33, .int .i64 (i : Int)), (6, .int .i64 n)]) (fun (i : Nat) (n : Int) W => i ≤ k64 - ka ∧ 0 ≤ n ∧ n ≤ 9007199254740991 ∧ accN s (k64 - ka) ka 0 = accN s (k64 - ka - i) (ka + i) n ∧ Chg P w W ∧ LL (w.heap.size :: L) W ∧ Blk W P [.string s, .int .i64 (k64 : Int), .int .i64 (dp : Int)] ∧ Blk W w.heap.size [.int .i64 0, .int .i64 0, .string ⟨#[]⟩, .slice none 0 0, .slice none 0 0]) (fun (i : Nat) (n : Int) => k64 - ka - i) 0 0 (by repeat first | exact trivial | exact And.intro rfl trivial | refine And.intro rfl ?_ | refine And.intro (congrArg (fun z : Int => some (Value.int .i64 z)) (by omega)) ?_) ⟨(by omega), (by omega), (by omega), rfl, hB, hL, hp74, k3⟩ ?_
    clear hp74 k3 hB hL
    rintro K85 i n W86 ⟨hi, hn0, hn1, hv, hB, hL, hp74, k3⟩ hK85
    refine Sq fun K87 hK87 => (Rg (Va (dx_lss rfl rfl rfl) rfl rfl (Ni (hK87 (Sq fun K88 hK88 => ?_)))))
    refine WC.cond rfl (fun c89 => ?_) (fun c89 => ?_)
    ·
     replace c89 := dT c89
     refine WC.skip (hK88 (Sq fun K90 hK90 => (WC.block (Sq fun K91 hK91 => ?_))))
     have hil : i < k64 - ka := by omega
     have hax := hd70 i hil
     have har := hd71 i hil
     rw [← hax] at har
     refine Rg (Pu rfl (Pu rfl (Ni (hK91 (Sq fun K92 hK92 => (Rg (Pu rfl ?_)))))))
     refine Va (dx_mul (r := n * 10) rfl rfl rfl (wrap64_id (by omega))) rfl rfl (Pu rfl (Pu rfl (Va (dx_at i rfl Try.underlying9 rfl rfl (by omega) (by omega)) rfl rfl (Va (dx_sub (r := (atS tx65 i) - 48) rfl rfl rfl (wrapu8_id (by omega))) rfl rfl (Va (dx_conv (r := (atS tx65 i) - 48) rfl Try.underlying5 Try.underlying3 rfl (wrap64_id (by omega))) rfl rfl (Va (dx_add (r := (n * 10) + ((atS tx65 i) - 48)) rfl rfl rfl (wrap64_id (by omega))) rfl rfl (Pu rfl ?_)))))))
     refine Ni (hK92 (Sq fun K93 hK93 => (Rg (Pu rfl (Va (dx_gtr rfl rfl rfl) rfl rfl (Ni (hK93 ?_)))))))
     refine WC.cond rfl (fun c94 => ?_) (fun c94 => ?_)
     ·
      replace c94 := dT c94
      refine Sq fun K95 hK95 => (Rg (Va (dx_build rfl rfl (built_of_O (cs := zV) (by kernel_rfl) oc_nil)) rfl rfl ?_))
      refine WL.do (dx_store (cs' := zV) (vs := zV) rfl ty_size_26_5 rfl rfl rfl (oc_cons rfl (oc_cons rfl (oc_cons rfl (oc_cons rfl (oc_cons rfl oc_nil))))) k3 rfl (Nat.le_of_ble_eq_true rfl) rfl) rfl ?_
      rintro _ W96 ⟨k98, o97⟩
      replace hp74 := hp74.other o97 n6
      clear k3
      replace hB := Chg.only hB o97 (.inr l7)
      refine Pu rfl (Ni (hK95 ?_))
      exact WC.ret fun a_ ha_ => hQ (cw_ret2 rfl (.agg rfl ty_agg_26_5 k98.range rfl) (.tmp rfl) (.inr ⟨k64, 5, rfl, by decide, (by rw [hnum, numT_n (fun h_ => by have := hc34 h_.1; omega) (by omega) (by obtain ⟨q_, hq_⟩ : ∃ q_, k64 - ka - i = q_ + 1 := ⟨k64 - ka - i - 1, by omega⟩; rw [← hd66, hv, hq_]; exact acc_no (by rw [← hax]; omega))]), by omega, hp74⟩) hB ha_)
     ·
      replace c94 := dF c94
      refine WC.skip (hK90 (Rg (Va (dx_add (r := (i : Int) + 1) rfl rfl rfl (wrap64_id (by omega))) rfl rfl (Pu rfl (Ni ?_)))))
      obtain ⟨q, hq_⟩ : ∃ q, k64 - ka - i = q + 1 := ⟨k64 - ka - i - 1, by omega⟩
      exact hK85 (i + 1) ((n * 10) + ((atS tx65 i) - 48)) ⟨(by omega), (by omega), (by omega), (by rw [hv, hq_, acc_go (by rw [← hax]; omega), ← hax]; congr 1 <;> omega), hB, hL, hp74, k3⟩ (by omega) (by repeat first | exact trivial | exact And.intro rfl trivial | refine And.intro rfl ?_ | refine And.intro (congrArg (fun z : Int => some (Value.int .i64 z)) (by omega)) ?_)
    ·
     replace c89 := dF c89
     refine WC.exit ?_
     refine hK83 (Sq fun K99 hK99 => (Sq fun K100 hK100 => (Rg (Pu rfl (Ni (hK100 (WC.condF rfl ?_)))))))
     refine WC.skip (hK99 (Sq fun K101 hK101 => (Rg (Pu rfl (Va (dx_build rfl rfl (built_of_O (cs := [.int .i64 3, .int .i64 n, .string ⟨#[]⟩, .slice none 0 0, .slice none 0 0]) (by kernel_rfl) (oc_cons rfl (oc_cons rfl oc_nil)))) rfl rfl ?_)))))
     refine WL.do (dx_store (cs' := [.int .i64 3, .int .i64 n, .string ⟨#[]⟩, .slice none 0 0, .slice none 0 0]) (vs := [.int .i64 3, .int .i64 n, .string ⟨#[]⟩, .slice none 0 0, .slice none 0 0]) rfl ty_size_26_5 rfl rfl rfl (oc_cons rfl (oc_cons rfl (oc_cons rfl (oc_cons rfl (oc_cons rfl oc_nil))))) k3 rfl (Nat.le_of_ble_eq_true rfl) rfl) rfl ?_
     rintro _ W102 ⟨k104, o103⟩
     replace hp74 := hp74.other o103 n6
     clear k3
     replace hB := Chg.only hB o103 (.inr l7)
     refine Pu rfl (Ni (hK101 ?_))
     exact WC.ret fun a_ ha_ => hQ (cw_ret2 rfl (.agg rfl ty_agg_26_5 k104.range rfl) (.tmp rfl) (.inl ⟨k64, n, rfl, (by rw [hnum, numT_s (n := n) (fun h_ => by have := hc34 h_.1; omega) (by omega) (by rw [← hd66, hv, show k64 - ka - i = 0 by omega]; rfl), ← hd66]; rfl), by omega, by omega, by omega, by omega, hp74⟩) hB ha_)
 | true =>
  rw [hT18] at hk13
  have hthT18 := take_t hT18
  replace hk13 : k12 = ka + 1 := hk13
  refine Pu rfl (Ni (hK8 (Sq fun K105 hK105 => (Sq fun K106 hK106 => ?_))))
  have hnum : numS s ka = numT s true k12 := numS_t hT18 (by assumption)
  refine Rg (Pu rfl (Va (dx_nilCheck rfl rfl) rfl rfl (Va (dx_fld (o1 := 0) rfl ty_fld_55_0_0 rfl rfl) rfl rfl ?_)))
  refine Ge (dx_cv rfl Try.func59 rfl rfl rfl (peek_c s P k12 dp W16 _ hL (.tail _ hPL) hs (by omega) hp17)) rfl rfl ?_
  rintro _ W123 ⟨⟨c117, rfl, hc118, hc119, hc120, hc121⟩, b122⟩
  replace hp17 := hp17.below b122
  replace k3 := k3.below b122
  replace hB := Chg.thenB hB b122
  replace hL := LL.below hL b122
  refine Va (dx_eql rfl rfl rfl) rfl rfl (Ni (hK106 ?_))
  refine WC.cond rfl (fun c124 => ?_) (fun c124 => ?_)
  ·
   replace c124 := dT c124
   refine Sq fun K125 hK125 => (Rg (Pu rfl (Va (dx_nilCheck rfl rfl) rfl rfl (Va (dx_fld (o1 := 0) rfl ty_fld_55_0_0 rfl rfl) rfl rfl ?_))))
   refine Ge (dx_cw rfl Try.func58 rfl rfl rfl (take_y 48 s P k12 dp W123 _ hL (.tail _ hPL) hs (by omega) hp17 (take_of (by rcases Nat.lt_or_ge k12 s.size with h_ | h_; exact h_; (have := hc121 h_; omega)) (by have h_ : k12 < s.size := (by rcases Nat.lt_or_ge k12 s.size with h_ | h_; exact h_; (have := hc121 h_; omega)); have := hc120 h_; omega)))) rfl rfl ?_
   rintro _ W133 ⟨⟨k129, rfl, hk130, hk131, hp134⟩, g132⟩
   replace k3 := k3.chg g132 n6.symm
   replace hB := Chg.both hB g132
   refine Ni (hK125 (Sq fun K135 hK135 => (Sq fun K136 hK136 => (Rg (Pu rfl (Ni (hK136 ?_)))))))
   refine WC.condT rfl (Sq fun K137 hK137 => (Rg (Va (dx_build rfl rfl (built_of_O (cs := zV) (by kernel_rfl) oc_nil)) rfl rfl ?_)))
   refine WL.do (dx_store (cs' := zV) (vs := zV) rfl ty_size_26_5 rfl rfl rfl (oc_cons rfl (oc_cons rfl (oc_cons rfl (oc_cons rfl (oc_cons rfl oc_nil))))) k3 rfl (Nat.le_of_ble_eq_true rfl) rfl) rfl ?_
   rintro _ W138 ⟨k140, o139⟩
   replace hp134 := hp134.other o139 n6
   clear k3
   replace hB := Chg.only hB o139 (.inr l7)
   refine Pu rfl (Ni (hK137 ?_))
   exact WC.ret fun a_ ha_ => hQ (cw_ret2 rfl (.agg rfl ty_agg_26_5 k140.range rfl) (.tmp rfl) (.inr ⟨k129, 2, rfl, by decide, (by rw [hnum]; exact numT_m (by have h_ : k12 < s.size := (by rcases Nat.lt_or_ge k12 s.size with h_ | h_; exact h_; (have := hc121 h_; omega)); exact ⟨h_, by have := hc120 h_; omega⟩)), by omega, hp134⟩) hB ha_)
  ·
   replace c124 := dF c124
   refine WC.skip (hK105 (Sq fun K141 hK141 => (Rg (Pu rfl (Va (dx_nilCheck rfl rfl) rfl rfl (Va (dx_fld (o1 := 0) rfl ty_fld_55_0_0 rfl rfl) rfl rfl ?_))))))
   refine Ge (dx_cw rfl Try.func86 rfl rfl rfl (digits_c s P k12 dp W123 _ hL (.tail _ hPL) hs (by omega) hp17)) rfl rfl ?_
   rintro _ W159 ⟨⟨k150, tx151, rfl, hd152, hd153, hd154, hd155, hd156, hd157, hp160⟩, g158⟩
   replace k3 := k3.chg g158 n6.symm
   replace hB := Chg.both hB g158
   replace hL := hL.chg g158
   refine Pu rfl (Ni (hK141 (Sq fun K161 hK161 => (Sq fun K162 hK162 => (Rg (Pu rfl (Va (dx_eqlT rfl rfl rfl) rfl rfl ?_)))))))
   refine Ni (hK162 ?_)
   refine WC.cond rfl (fun c163 => ?_) (fun c163 => ?_)
   ·
    replace c163 := dT c163
    refine Sq fun K164 hK164 => (Rg (Va (dx_build rfl rfl (built_of_O (cs := zV) (by kernel_rfl) oc_nil)) rfl rfl ?_))
    refine WL.do (dx_store (cs' := zV) (vs := zV) rfl ty_size_26_5 rfl rfl rfl (oc_cons rfl (oc_cons rfl (oc_cons rfl (oc_cons rfl (oc_cons rfl oc_nil))))) k3 rfl (Nat.le_of_ble_eq_true rfl) rfl) rfl ?_
    rintro _ W165 ⟨k167, o166⟩
    replace hp160 := hp160.other o166 n6
    clear k3
    replace hB := Chg.only hB o166 (.inr l7)
    refine Pu rfl (Ni (hK164 ?_))
    exact WC.ret fun a_ ha_ => hQ (cw_ret2 rfl (.agg rfl ty_agg_26_5 k167.range rfl) (.tmp rfl) (.inr ⟨k150, 2, rfl, by decide, (by rw [hnum, numT_0 (fun h_ => by have := hc120 h_.1; omega) (by have hs_ : tx151.size = 0 := (by have := congrArg ByteArray.size (show tx151 = ⟨#[]⟩ by assumption); exact this); omega)]), by omega, hp160⟩) hB ha_)
   ·
    replace c163 := dF c163
    refine WC.skip (hK161 (Sq fun K168 hK168 => (Rg (Pu rfl (Ni (hK168 (Sq fun K169 hK169 => ?_)))))))
    refine Sq fun K170 hK170 => (Rg (Pu rfl (Va (dx_lenT rfl Try.underlying9 rfl) rfl rfl (Pu rfl (Ni (hK170 (WC.block ?_)))))))
    have htz : ¬ k150 = k12 := fun e_ => absurd (empty_of (t := tx151) (by omega)) (by assumption)
    refine WC.loop2 (fun (i : Nat) (n : Int) => [(0, .pointer (some ⟨P, 0, none⟩)), (4, .bool true), (5, .string tx151), (32, .int .i64 (tx151.size : Int)), (2, .pointer (some ⟨w.heap.size, 0, none⟩)), (33, .int .i64 (i : Int)), (6, .int .i64 n)]) (fun (i : Nat) (n : Int) W => i ≤ k150 - k12 ∧ 0 ≤ n ∧ n ≤ 9007199254740991 ∧ accN s (k150 - k12) k12 0 = accN s (k150 - k12 - i) (k12 + i) n ∧ Chg P w W ∧ LL (w.heap.size :: L) W ∧ Blk W P [.string s, .int .i64 (k150 : Int), .int .i64 (dp : Int)] ∧ Blk W w.heap.size [.int .i64 0, .int .i64 0, .string ⟨#[]⟩, .slice none 0 0, .slice none 0 0]) (fun (i : Nat) (n : Int) => k150 - k12 - i) 0 0 (by repeat first | exact trivial | exact And.intro rfl trivial | refine And.intro rfl ?_ | refine And.intro (congrArg (fun z : Int => some (Value.int .i64 z)) (by omega)) ?_) ⟨(by omega), (by omega), (by omega), rfl, hB, hL, hp160, k3⟩ ?_
    clear hp160 k3 hB hL
    rintro K171 i n W172 ⟨hi, hn0, hn1, hv, hB, hL, hp160, k3⟩ hK171
    refine Sq fun K173 hK173 => (Rg (Va (dx_lss rfl rfl rfl) rfl rfl (Ni (hK173 (Sq fun K174 hK174 => ?_)))))
    refine WC.cond rfl (fun c175 => ?_) (fun c175 => ?_)
    ·
     replace c175 := dT c175
     refine WC.skip (hK174 (Sq fun K176 hK176 => (WC.block (Sq fun K177 hK177 => ?_))))
     have hil : i < k150 - k12 := by omega
     have hax := hd156 i hil
     have har := hd157 i hil
     rw [← hax] at har
     refine Rg (Pu rfl (Pu rfl (Ni (hK177 (Sq fun K178 hK178 => (Rg (Pu rfl ?_)))))))
     refine Va (dx_mul (r := n * 10) rfl rfl rfl (wrap64_id (by omega))) rfl rfl (Pu rfl (Pu rfl (Va (dx_at i rfl Try.underlying9 rfl rfl (by omega) (by omega)) rfl rfl (Va (dx_sub (r := (atS tx151 i) - 48) rfl rfl rfl (wrapu8_id (by omega))) rfl rfl (Va (dx_conv (r := (atS tx151 i) - 48) rfl Try.underlying5 Try.underlying3 rfl (wrap64_id (by omega))) rfl rfl (Va (dx_add (r := (n * 10) + ((atS tx151 i) - 48)) rfl rfl rfl (wrap64_id (by omega))) rfl rfl (Pu rfl ?_)))))))
     refine Ni (hK178 (Sq fun K179 hK179 => (Rg (Pu rfl (Va (dx_gtr rfl rfl rfl) rfl rfl (Ni (hK179 ?_)))))))
     refine WC.cond rfl (fun c180 => ?_) (fun c180 => ?_)
     ·
      replace c180 := dT c180
      refine Sq fun K181 hK181 => (Rg (Va (dx_build rfl rfl (built_of_O (cs := zV) (by kernel_rfl) oc_nil)) rfl rfl ?_))
      refine WL.do (dx_store (cs' := zV) (vs := zV) rfl ty_size_26_5 rfl rfl rfl (oc_cons rfl (oc_cons rfl (oc_cons rfl (oc_cons rfl (oc_cons rfl oc_nil))))) k3 rfl (Nat.le_of_ble_eq_true rfl) rfl) rfl ?_
      rintro _ W182 ⟨k184, o183⟩
      replace hp160 := hp160.other o183 n6
      clear k3
      replace hB := Chg.only hB o183 (.inr l7)
      refine Pu rfl (Ni (hK181 ?_))
      exact WC.ret fun a_ ha_ => hQ (cw_ret2 rfl (.agg rfl ty_agg_26_5 k184.range rfl) (.tmp rfl) (.inr ⟨k150, 5, rfl, by decide, (by rw [hnum, numT_n (fun h_ => by have := hc120 h_.1; omega) (by omega) (by obtain ⟨q_, hq_⟩ : ∃ q_, k150 - k12 - i = q_ + 1 := ⟨k150 - k12 - i - 1, by omega⟩; rw [← hd152, hv, hq_]; exact acc_no (by rw [← hax]; omega))]), by omega, hp160⟩) hB ha_)
     ·
      replace c180 := dF c180
      refine WC.skip (hK176 (Rg (Va (dx_add (r := (i : Int) + 1) rfl rfl rfl (wrap64_id (by omega))) rfl rfl (Pu rfl (Ni ?_)))))
      obtain ⟨q, hq_⟩ : ∃ q, k150 - k12 - i = q + 1 := ⟨k150 - k12 - i - 1, by omega⟩
      exact hK171 (i + 1) ((n * 10) + ((atS tx151 i) - 48)) ⟨(by omega), (by omega), (by omega), (by rw [hv, hq_, acc_go (by rw [← hax]; omega), ← hax]; congr 1 <;> omega), hB, hL, hp160, k3⟩ (by omega) (by repeat first | exact trivial | exact And.intro rfl trivial | refine And.intro rfl ?_ | refine And.intro (congrArg (fun z : Int => some (Value.int .i64 z)) (by omega)) ?_)
    ·
     replace c175 := dF c175
     refine WC.exit ?_
     refine hK169 (Sq fun K185 hK185 => (Sq fun K186 hK186 => (Rg (Pu rfl (Ni (hK186 (WC.condT rfl ?_)))))))
     refine Rg (Pu rfl (Va (dx_neg rfl rfl (wrap64_id (by omega))) rfl rfl (Pu rfl (Ni (hK185 (Sq fun K187 hK187 => (Rg ?_)))))))
     refine Pu rfl (Va (dx_build rfl rfl (built_of_O (cs := [.int .i64 3, .int .i64 (-n), .string ⟨#[]⟩, .slice none 0 0, .slice none 0 0]) (by kernel_rfl) (oc_cons rfl (oc_cons rfl oc_nil)))) rfl rfl ?_)
     refine WL.do (dx_store (cs' := [.int .i64 3, .int .i64 (-n), .string ⟨#[]⟩, .slice none 0 0, .slice none 0 0]) (vs := [.int .i64 3, .int .i64 (-n), .string ⟨#[]⟩, .slice none 0 0, .slice none 0 0]) rfl ty_size_26_5 rfl rfl rfl (oc_cons rfl (oc_cons rfl (oc_cons rfl (oc_cons rfl (oc_cons rfl oc_nil))))) k3 rfl (Nat.le_of_ble_eq_true rfl) rfl) rfl ?_
     rintro _ W188 ⟨k190, o189⟩
     replace hp160 := hp160.other o189 n6
     clear k3
     replace hB := Chg.only hB o189 (.inr l7)
     refine Pu rfl (Ni (hK187 ?_))
     exact WC.ret fun a_ ha_ => hQ (cw_ret2 rfl (.agg rfl ty_agg_26_5 k190.range rfl) (.tmp rfl) (.inl ⟨k150, -n, rfl, (by rw [hnum, numT_s (n := n) (fun h_ => by have := hc120 h_.1; omega) (by omega) (by rw [← hd152, hv, show k150 - k12 - i = 0 by omega]; rfl), ← hd152]; rfl), by omega, by omega, by omega, by omega, hp160⟩) hB ha_)

structure ChgV (b B C : Nat) (w w' : World) : Prop where
 os : w'.os = w.os
 tape : w'.tape = w.tape
 output : w'.output = w.output
 size : w.heap.size ≤ w'.heap.size
 block : ∀ k, k < b → k ≠ B → k ≠ C → w'.heap[k]? = w.heap[k]?
theorem ChgV.refl (b B C : Nat) (w : World) : ChgV b B C w w := ⟨rfl, rfl, rfl, Nat.le_refl _, fun _ _ _ _ => rfl⟩
theorem ChgV.both {b B C : Nat} {w W W' : World} (h : ChgV b B C w W) (k : ChgV b B C W W') : ChgV b B C w W' :=
 ⟨k.os.trans h.os, k.tape.trans h.tape, k.output.trans h.output, Nat.le_trans h.size k.size, fun i hi h1 h2 => (k.block i hi h1 h2).trans (h.block i hi h1 h2)⟩
theorem ChgV.of_chg {b B C : Nat} {w w' : World} (h : Chg B w w') (hb : b ≤ w.heap.size) : ChgV b B C w w' := ⟨h.os, h.tape, h.output, h.size, fun k hk h1 _ => h.block k (Nat.lt_of_lt_of_le hk hb) h1⟩
theorem ChgV.of_below {b B C : Nat} {w w' : World} (h : Below b w w') : ChgV b B C w w' := ⟨h.os, h.tape, h.output, h.size, fun k hk _ _ => h.block k hk⟩
theorem ChgV.of_only {b B C D : Nat} {w w' : World} (h : Only D w w') (hD : D = B ∨ D = C ∨ b ≤ D) : ChgV b B C w w' := ⟨h.os, h.tape, h.output, by rw [h.size]; exact Nat.le_refl _, fun k hk h1 h2 => h.block k (by omega)⟩
theorem ChgV.chg {b B C : Nat} {w W W' : World} (h : ChgV b B C w W) (k : Chg B W W') (hb : b ≤ W.heap.size) : ChgV b B C w W' := h.both (.of_chg k hb)
theorem ChgV.toChg {b B C : Nat} {w0 w w' : World} (h : Chg B w0 w) (k : ChgV b B C w w') (hb : w0.heap.size ≤ b) (hC : w0.heap.size ≤ C) : Chg B w0 w' :=
 ⟨k.os.trans h.os, k.tape.trans h.tape, k.output.trans h.output, Nat.le_trans h.size k.size, fun i hi h1 => (k.block i (Nat.lt_of_lt_of_le hi hb) h1 (by omega)).trans (h.block i hi h1)⟩
theorem Blk.chgV {b B C D : Nat} {w w' : World} {cs : List Value} (h : Blk w D cs) (k : ChgV b B C w w') (hb : D < b) (h1 : D ≠ B) (h2 : D ≠ C) : Blk w' D cs := by
 obtain ⟨t, ht⟩ := h
 exact ⟨t, (k.block D hb h1 h2).trans ht⟩
theorem LL.chgV {L : List Nat} {b B C : Nat} {w w' : World} (h : LL L w) (k : ChgV b B C w w') : LL L w' := fun x hx => Nat.lt_of_lt_of_le (h x hx) k.size
def CX (P : Program) (F : FuncId) (args : List Value) (w : World) (D : World → World → Prop) (R : Value → World → Prop) : Prop := Calls P F args.toArray w fun e w' => ∃ v, e = .returned v ∧ R v w' ∧ D w w'
def finX (P : Program) (fn : Func) (R : Value → World → Prop) (D : World → World → Prop) (w0 : World) (a : Act) (w : World) : Prop := a.defers = [] ∧ ∃ v, (results fn a.tmps).run P w = .ok v w ∧ R v w ∧ D w0 w
theorem cx_enter {P : Program} {F : FuncId} {fn : Func} {body : Code} {w : World} {D : World → World → Prop} {R : Value → World → Prop} {N : Nat} {vs : List Value} (hf : P.funcs[F]? = some fn) (hb : fn.body = some body) (hn : fn.ntmps = N) (hN : decide (vs.length ≤ N) = true) {f : Fl}
  (hfr : (vs.zipIdx.map fun p => (p.2, p.1)) = f) (h : ∀ Q : Exit → Act → World → Prop, (∀ {a W}, finX P fn R D w a W → Q .ret a W) → (∀ {a W}, finX P fn R D w a W → Q .normal a W) → WC P N body Q f w) : CX P F vs w D R :=
 calls_sx vs f hf hb hn hN hfr.symm (h _ (fun {a W} ⟨h1, v, h2, h3, h4⟩ => ⟨h1, v, h2, v, rfl, h3, h4⟩) (fun {a W} ⟨h1, v, h2, h3, h4⟩ => ⟨h1, v, h2, v, rfl, h3, h4⟩))
section
variable {P : Program} {ops : Array Oper} {o : Oper} {N : Nat} {f : Fl} {w : World} {R : Value → World → Prop} {fn : Func} {D : World → World → Prop}
theorem cx_ret1 {w0 : World} {r0 : ResultVar} {v0 : Value} (h : fn.results = #[r0]) (h0 : RV P f w r0 v0) (hR : R v0 w) (hb : D w0 w) {a : Act} (ha : Fr N a f) : finX P fn R D w0 a w := by
 obtain ⟨x, v, hv, v', he, h1, h2⟩ := fn1 (Rr := fun e w' => ∃ v, e = .returned v ∧ R v w' ∧ D w0 w') h h0 ⟨_, rfl, hR, hb⟩ ha
 cases he
 exact ⟨x, _, hv, h1, h2⟩
theorem dx_cx {F : FuncId} {fn : Func} {xs : List Operand} {ts : Array TypeId} {vs : List Value} (ho : o.op = .call { callee := .value (.func F), args := xs.toArray, argTypes := ts }) (hf : P.funcs[F]? = some fn) (hn : (fn.name == "runtime.NumGoroutine") = false) (hb : fn.body.isNone = false)
  (hx : evl f xs = some vs) (hc : CX P F vs w D R) (hw : wantF ops o f = some true := by rfl) : DR P ops o N f w fun v W => R v W ∧ D w W :=
 dx_call (cap := #[]) ho rfl hf hn hb hx (by rw [Array.append_empty]; exact Calls.mono hc fun e w' ⟨v, he, h⟩ => ⟨v, he, h⟩) hw
def FX (P : Program) (g : Value) (args : List Value) (w : World) (D : World → World → Prop) (R : Value → World → Prop) : Prop := ∃ F fs cs fn, g = .func (.func F) fs cs ∧ P.funcs[F]? = some fn ∧ (fn.name == "runtime.NumGoroutine") = false ∧ fn.body.isNone = false ∧ CX P F (fs.toList ++ args ++ cs.toList) w D R
theorem dx_fx {c : Operand} {g : Value} {xs : List Operand} {ts : Array TypeId} {vs : List Value} (ho : o.op = .call { callee := .value c, args := xs.toArray, argTypes := ts }) (hcv : ev f c = some g)
  (hx : evl f xs = some vs) (hc : FX P g vs w D R) (hw : wantF ops o f = some true := by rfl) : DR P ops o N f w fun v W => R v W ∧ D w W := fun a ha => by
 obtain ⟨F, fs, cs, fn, rfl, hf, hn, hb, hc⟩ := hc
 have he := evl_args (ha.evl hx)
 have hc' := ha.ev hcv
 exact Does.call (wantF_of ha hw) F (fs ++ vs.toArray ++ cs) (by
  unfold execOp
  simp only [ho, resolve, he, hc', Deferred.ofValue, Sem.run_bind, Sem.run_pure, Result.andThen_ok, invoke]
  simp only [callFunc, Sem.run_bind, run_program, Result.andThen_ok, hf, hn, hb]
  rfl) (by
  unfold CX at hc
  rw [show (fs.toList ++ vs ++ cs.toList).toArray = fs ++ vs.toArray ++ cs from by apply Array.ext'; simp] at hc
  exact Calls.mono hc fun e w' ⟨v, he, h⟩ => ⟨v, he, h⟩)
end
def StI {σ : Type} (P : Nat) (I : σ → World → Prop) (st : σ) (W : World) : Prop := (∀ st W W', I st W → Chg P W W' → I st W') ∧ I st W
theorem StI.chgL {σ : Type} {P : Nat} {I : σ → World → Prop} {st : σ} {W W' : World} (h : StI P I st W) (g : Chg P W W') {L : List Nat} (_ : P ∈ L) : StI P I st W' := ⟨h.1, h.1 _ _ _ h.2 g⟩
theorem StI.below {σ : Type} {P : Nat} {I : σ → World → Prop} {st : σ} {W W' : World} (h : StI P I st W) (g : Below W.heap.size W W') : StI P I st W' := ⟨h.1, h.1 _ _ _ h.2 (.of_below g)⟩
def memL {σ : Type} (s : ByteArray) (one : Nat → σ → Except Int (σ × Nat)) (la : Int) : Nat → Nat → σ → Except Int (σ × Nat)
 | 0, _, _ => .error 2
 | n + 1, k, st => match one (blankS s k) st with
  | .error e => .error e
  | .ok (st', k2) => if takeS s (blankS s k2) la = true then .ok (st', blankS s k2 + 1) else if takeS s (blankS s k2) 44 = true then memL s one la n (blankS s k2 + 1) st' else .error 2
def memS {σ : Type} (s : ByteArray) (one : Nat → σ → Except Int (σ × Nat)) (la : Int) (k : Nat) (st : σ) : Except Int (σ × Nat) :=
 if takeS s (blankS s (k + 1)) la = true then .ok (st, blankS s (k + 1) + 1) else memL s one la (s.size + 1) (blankS s (k + 1)) st
section
variable {σ : Type} {s : ByteArray} {one : Nat → σ → Except Int (σ × Nat)} {la e : Int} {n k k1 k2 k3 k4 : Nat} {st st' : σ}
theorem memS_0 (e1 : k1 = k + 1) (e2 : k2 = blankS s k1) (t : takeS s k2 la = true) (e3 : k3 = k2 + 1) : memS s one la k st = .ok (st, k3) := by subst e3 e2 e1; unfold memS; rw [if_pos t]
theorem memS_1 (e1 : k1 = k + 1) (e2 : k2 = blankS s k1) (t : takeS s k2 la = false) : memS s one la k st = memL s one la (s.size + 1) k2 st := by subst e2 e1; unfold memS; rw [t]; rfl
theorem memL_e (e1 : k1 = blankS s k) (h : one k1 st = .error e) : memL s one la (n + 1) k st = .error e := by subst e1; rw [memL, h]
theorem memL_0 (e1 : k1 = blankS s k) (h : one k1 st = .ok (st', k2)) (e2 : k3 = blankS s k2) (t : takeS s k3 la = true) (e3 : k4 = k3 + 1) : memL s one la (n + 1) k st = .ok (st', k4) := by subst e3 e2 e1; rw [memL, h]; dsimp only; rw [if_pos t]
theorem memL_c (e1 : k1 = blankS s k) (h : one k1 st = .ok (st', k2)) (e2 : k3 = blankS s k2) (t : takeS s k3 la = false) (t2 : takeS s k3 44 = true) (e3 : k4 = k3 + 1) : memL s one la (n + 1) k st = memL s one la n k4 st' := by subst e3 e2 e1; rw [memL, h]; dsimp only; rw [t, t2]; rfl
theorem memL_x (e1 : k1 = blankS s k) (h : one k1 st = .ok (st', k2)) (e2 : k3 = blankS s k2) (t : takeS s k3 la = false) (t2 : takeS s k3 44 = false) : memL s one la (n + 1) k st = .error 2 := by subst e2 e1; rw [memL, h]; dsimp only; rw [t, t2]; rfl
end
theorem members_v {σ : Type} (I : σ → World → Prop) (E : World → Prop) (one : Nat → σ → Except Int (σ × Nat)) (fi la : Int) (g : Value) (b V : Nat) (st0 : σ) (m : σ → Nat) (s : ByteArray) (P ka dp : Nat) (w : World) (L : List Nat) (hL : LL L w) (hPL : P ∈ L) (hs : s.size ≤ 1000000) (hk : ka ≤ s.size) (hp : Blk w P (psC s ka dp))
  (hbw : b ≤ w.heap.size) (hE : ∀ st W, I st W → E W) (hst : StI P I st0 w) (hm0 : m st0 ≤ ka) (hq : takeS s ka fi = true)
  (hg : ∀ (W : World) (L' : List Nat) (k : Nat) (st : σ), LL L' W → P ∈ L' → b ≤ W.heap.size → k ≤ s.size → Blk W P (psC s k dp) → I st W → m st ≤ k → FX Try.prog g [] W (ChgV b P V) (fun v W' => (∃ k' st', v = .int .i64 0 ∧ one k st = .ok (st', k') ∧ k < k' ∧ k' ≤ s.size ∧ m st' ≤ k' ∧ I st' W' ∧ Blk W' P (psC s k' dp)) ∨ (∃ k' e, v = .int .i64 e ∧ e ≠ 0 ∧ one k st = .error e ∧ k' ≤ s.size ∧ E W' ∧ Blk W' P (psC s k' dp)))) :
  CX Try.prog 88 [.pointer (some ⟨P, 0, none⟩), .int .u8 fi, .int .u8 la, g] w (ChgV b P V) fun v W => (∃ k' st', v = .int .i64 0 ∧ memS s one la ka st0 = .ok (st', k') ∧ ka < k' ∧ k' ≤ s.size ∧ I st' W ∧ Blk W P (psC s k' dp)) ∨ (∃ k' e, v = .int .i64 e ∧ e ≠ 0 ∧ memS s one la ka st0 = .error e ∧ k' ≤ s.size ∧ E W ∧ Blk W P (psC s k' dp)) := by
 refine cx_enter (N := 47) (f := [(0, .pointer (some ⟨P, 0, none⟩)), (1, .int .u8 fi), (2, .int .u8 la), (3, g)]) Try.func88 rfl rfl rfl rfl fun Q hQ hE_ => ?_
 have hB := ChgV.refl b P V w
 have hL0 := hL
 refine Sq fun K1 hK1 => (Rg (Pu rfl (Ni (hK1 (Sq fun K2 hK2 => (Rg (Pu rfl ?_)))))))
 refine Va (dx_nilCheck rfl rfl) rfl rfl (Va (dx_fld (o1 := 0) rfl ty_fld_55_0_0 rfl rfl) rfl rfl (Pu rfl ?_))
 refine Ge (dx_cw rfl Try.func58 rfl rfl rfl (take_y fi s P ka dp w _ hL hPL hs (by omega) hp hq)) rfl rfl ?_
 rintro _ W13 ⟨⟨k9, rfl, hk10, hk11, hp14⟩, g12⟩
 replace hst := hst.chgL g12 hPL
 replace hB := hB.chg g12 (Nat.le_trans hbw hB.size)
 replace hL := hL.chg g12
 refine Ni (hK2 (Sq fun K15 hK15 => (Rg (Pu rfl (Va (dx_nilCheck rfl rfl) rfl rfl (Va (dx_fld (o1 := 0) rfl ty_fld_55_0_0 rfl rfl) rfl rfl ?_))))))
 refine Ge (dx_cw rfl Try.func33 rfl rfl rfl (blanks_v s P k9 dp W13 _ hL hPL hs (by omega) hp14)) rfl rfl ?_
 rintro _ W26 ⟨hp27, g25⟩
 replace hst := hst.chgL g25 hPL
 replace hB := hB.chg g25 (Nat.le_trans hbw hB.size)
 replace hL := hL.chg g25
 obtain ⟨k22, hk23⟩ : ∃ k, k = blankS s k9 := ⟨_, rfl⟩
 rw [← hk23] at hp27
 have hk24 := blankS_le (s := s) (k := k9) (by omega)
 rw [← hk23] at hk24
 refine Ni (hK15 (Sq fun K28 hK28 => (Sq fun K29 hK29 => (Rg (Pu rfl (Va (dx_nilCheck rfl rfl) rfl rfl (Va (dx_fld (o1 := 0) rfl ty_fld_55_0_0 rfl rfl) rfl rfl ?_)))))))
 refine Pu rfl ?_
 refine Ge (dx_cw rfl Try.func58 rfl rfl rfl (take_v la s P k22 dp W26 _ hL hPL hs (by omega) hp27)) rfl rfl ?_
 rintro _ W40 ⟨⟨k36, rfl, hk37, hk38, hp41⟩, g39⟩
 replace hst := hst.chgL g39 hPL
 replace hB := hB.chg g39 (Nat.le_trans hbw hB.size)
 replace hL := hL.chg g39
 cases hT42 : takeS s k22 la with
 | false =>
  rw [hT42] at hk37
  replace hk37 : k22 = k36 := Eq.symm hk37
  subst hk37
  refine Ni (hK29 (WC.condF rfl (WC.skip (hK28 (WC.block ?_)))))
  refine WC.loop2 (fun (kb : Nat) (st : σ) => [(0, .pointer (some ⟨P, 0, none⟩)), (1, .int .u8 fi), (2, .int .u8 la), (3, g)]) (fun (kb : Nat) (st : σ) W => kb ≤ s.size ∧ ka < kb ∧ m st ≤ kb ∧ (∃ n, s.size - kb < n ∧ memS s one la ka st0 = memL s one la n kb st) ∧ ChgV b P V w W ∧ LL (L) W ∧ StI P I st W ∧ Blk W P [.string s, .int .i64 (kb : Int), .int .i64 (dp : Int)]) (fun (kb : Nat) (st : σ) => s.size - kb) k22 st0 (by repeat first | exact trivial | exact And.intro rfl trivial | refine And.intro rfl ?_ | refine And.intro (congrArg (fun z : Int => some (Value.int .i64 z)) (by omega)) ?_) ⟨(by omega), (by omega), (by omega), ⟨s.size + 1, by omega, (by apply memS_1 <;> first | assumption | omega)⟩, hB, hL, hst, hp41⟩ ?_
  clear hst hp41 hB hL
  rintro K43 kb st W44 ⟨hkb, hkk, hmk, hv, hB, hL, hst, hp41⟩ hK43
  refine WC.block (Sq fun K45 hK45 => ?_)
  obtain ⟨n_, hn1, hv⟩ := hv
  obtain ⟨n, rfl⟩ : ∃ m, n_ = m + 1 := ⟨n_ - 1, by omega⟩
  refine Rg (Pu rfl (Va (dx_nilCheck rfl rfl) rfl rfl (Va (dx_fld (o1 := 0) rfl ty_fld_55_0_0 rfl rfl) rfl rfl ?_)))
  refine Ge (dx_cw rfl Try.func33 rfl rfl rfl (blanks_v s P kb dp W44 _ hL hPL hs (by omega) hp41)) rfl rfl ?_
  rintro _ W56 ⟨hp57, g55⟩
  replace hst := hst.chgL g55 hPL
  replace hB := hB.chg g55 (Nat.le_trans hbw hB.size)
  replace hL := hL.chg g55
  obtain ⟨k52, hk53⟩ : ∃ k, k = blankS s kb := ⟨_, rfl⟩
  rw [← hk53] at hp57
  have hk54 := blankS_le (s := s) (k := kb) (by omega)
  rw [← hk53] at hk54
  refine Ni (hK45 (Sq fun K58 hK58 => (Sq fun K59 hK59 => (Rg (Pu rfl ?_)))))
  refine Ge (dx_fx rfl rfl rfl (hg W56 _ k52 _ hL hPL (Nat.le_trans hbw hB.size) (by omega) hp57 hst.2 (by omega))) rfl rfl ?_
  rintro _ W74 ⟨(⟨k60, st61, rfl, hg64, hg65, hg66, hm72, hg67, hp75⟩ | ⟨k62, e63, rfl, hg68, hg69, hg70, hg71, hp75⟩), g73⟩
  ·
   replace hB := hB.both g73
   replace hL := hL.chgV g73
   replace hst : StI P I st61 W74 := ⟨hst.1, hg67⟩
   refine Pu rfl (Ni (hK59 (Sq fun K76 hK76 => (Rg (Pu rfl (Va (dx_neq rfl rfl rfl) rfl rfl (Ni ?_)))))))
   refine hK76 (WC.condF rfl (WC.skip (hK58 (Sq fun K77 hK77 => (Rg (Pu rfl (Va (dx_nilCheck rfl rfl) rfl rfl ?_)))))))
   refine Va (dx_fld (o1 := 0) rfl ty_fld_55_0_0 rfl rfl) rfl rfl ?_
   refine Ge (dx_cw rfl Try.func33 rfl rfl rfl (blanks_v s P k60 dp W74 _ hL hPL hs (by omega) hp75)) rfl rfl ?_
   rintro _ W88 ⟨hp89, g87⟩
   replace hst := hst.chgL g87 hPL
   replace hB := hB.chg g87 (Nat.le_trans hbw hB.size)
   replace hL := hL.chg g87
   obtain ⟨k84, hk85⟩ : ∃ k, k = blankS s k60 := ⟨_, rfl⟩
   rw [← hk85] at hp89
   have hk86 := blankS_le (s := s) (k := k60) (by omega)
   rw [← hk85] at hk86
   refine Ni (hK77 (Sq fun K90 hK90 => (Sq fun K91 hK91 => (Rg (Pu rfl (Va (dx_nilCheck rfl rfl) rfl rfl (Va (dx_fld (o1 := 0) rfl ty_fld_55_0_0 rfl rfl) rfl rfl ?_)))))))
   refine Pu rfl ?_
   refine Ge (dx_cw rfl Try.func58 rfl rfl rfl (take_v la s P k84 dp W88 _ hL hPL hs (by omega) hp89)) rfl rfl ?_
   rintro _ W102 ⟨⟨k98, rfl, hk99, hk100, hp103⟩, g101⟩
   replace hst := hst.chgL g101 hPL
   replace hB := hB.chg g101 (Nat.le_trans hbw hB.size)
   replace hL := hL.chg g101
   cases hT104 : takeS s k84 la with
   | false =>
    rw [hT104] at hk99
    replace hk99 : k84 = k98 := Eq.symm hk99
    subst hk99
    refine Ni (hK91 (WC.condF rfl (WC.skip (hK90 (Sq fun K105 hK105 => (Rg (Pu rfl ?_)))))))
    refine Va (dx_nilCheck rfl rfl) rfl rfl (Va (dx_fld (o1 := 0) rfl ty_fld_55_0_0 rfl rfl) rfl rfl ?_)
    refine Ge (dx_cw rfl Try.func58 rfl rfl rfl (take_v 44 s P k84 dp W102 _ hL hPL hs (by omega) hp103)) rfl rfl ?_
    rintro _ W116 ⟨⟨k112, rfl, hk113, hk114, hp117⟩, g115⟩
    replace hst := hst.chgL g115 hPL
    replace hB := hB.chg g115 (Nat.le_trans hbw hB.size)
    replace hL := hL.chg g115
    cases hT118 : takeS s k84 44 with
    | false =>
     rw [hT118] at hk113
     replace hk113 : k84 = k112 := Eq.symm hk113
     subst hk113
     refine Va (dx_not rfl rfl) rfl rfl (Ni (hK105 (WC.condT rfl (Sq fun K119 hK119 => (Rg (Pu rfl (Ni ?_)))))))
     refine hK119 ?_
     exact WC.ret fun a_ ha_ => hQ (cx_ret1 rfl (.tmp rfl) (.inr ⟨k84, 2, rfl, by decide, hv.trans (by apply memL_x <;> first | assumption | omega), by omega, hE _ _ hst.2, hp117⟩) hB ha_)
    | true =>
     rw [hT118] at hk113
     have hthT118 := take_t hT118
     replace hk113 : k112 = k84 + 1 := hk113
     refine Va (dx_not rfl rfl) rfl rfl (Ni (hK105 (WC.condF rfl (WC.skip ?_))))
     exact hK43 k112 st61 ⟨(by omega), (by omega), (by omega), ⟨n, by omega, hv.trans (by apply memL_c <;> first | assumption | omega)⟩, hB, hL, hst, hp117⟩ (by omega) (by repeat first | exact trivial | exact And.intro rfl trivial | refine And.intro rfl ?_ | refine And.intro (congrArg (fun z : Int => some (Value.int .i64 z)) (by omega)) ?_)
   | true =>
    rw [hT104] at hk99
    have hthT104 := take_t hT104
    replace hk99 : k98 = k84 + 1 := hk99
    refine Ni (hK91 (WC.condT rfl (Sq fun K120 hK120 => (Rg (Pu rfl (Ni (hK120 ?_)))))))
    exact WC.ret fun a_ ha_ => hQ (cx_ret1 rfl (.tmp rfl) (.inl ⟨k98, st61, rfl, (by first | (apply memS_0 <;> first | assumption | omega; done) | (refine hv.trans ?_; apply memL_0 <;> first | assumption | omega; done)), by omega, by omega, hst.2, hp103⟩) hB ha_)
  ·
   replace hB := hB.both g73
   refine Pu rfl (Ni (hK59 (Sq fun K121 hK121 => (Rg (Pu rfl (Va (dv_NT (dx_neq rfl rfl rfl) hg68) rfl rfl (Ni ?_)))))))
   refine hK121 (WC.condT rfl (Sq fun K122 hK122 => (Rg (Pu rfl (Pu rfl (Ni (hK122 ?_)))))))
   exact WC.ret fun a_ ha_ => hQ (cx_ret1 rfl (.tmp rfl) (.inr ⟨k62, e63, rfl, hg68, hv.trans (by apply memL_e <;> first | assumption | omega), by omega, hg71, hp75⟩) hB ha_)
 | true =>
  rw [hT42] at hk37
  have hthT42 := take_t hT42
  replace hk37 : k36 = k22 + 1 := hk37
  refine Ni (hK29 (WC.condT rfl (Sq fun K123 hK123 => (Rg (Pu rfl (Ni (hK123 ?_)))))))
  exact WC.ret fun a_ ha_ => hQ (cx_ret1 rfl (.tmp rfl) (.inl ⟨k36, st0, rfl, (by first | (apply memS_0 <;> first | assumption | omega; done) | (refine hv.trans ?_; apply memL_0 <;> first | assumption | omega; done)), by omega, by omega, hst.2, hp41⟩) hB ha_)

def nestS (dp : Nat) (rd : Except Int (Js × Nat)) : Except Int (Js × Nat) := if dp = 12 then .error 4 else rd
set_option maxHeartbeats 1000000 in
theorem nested_v (g : Value) (n : Nat) (rd : Except Int (Js × Nat)) (s : ByteArray) (P ka dp : Nat) (w : World) (L : List Nat) (hL : LL L w) (hPL : P ∈ L) (hs : s.size ≤ 1000000) (hk : ka ≤ s.size) (hp : Blk w P (psC s ka dp))  (hdp : dp ≤ 12) (hg : ¬ dp = 12 → ∀ (W : World) (L' : List Nat), LL L' W → P ∈ L' → w.heap.size ≤ W.heap.size → ∀ d, d = dp + 1 → Blk W P (psC s ka d) → FW Try.prog g [] W P (fun v W' => (∃ k' t, v = .tuple #[.agg #[.int .i64 t.kind, .int .i64 t.num, .string t.text, t.nv, t.iv], .int .i64 0] ∧ rd = .ok (t.er, k') ∧ RdT (n + 1) L' W' t ∧ ka < k' ∧ k' ≤ s.size ∧ Blk W' P (psC s k' d)) ∨ (∃ k' e cs, v = .tuple #[.agg (List.toArray cs), .int .i64 e] ∧ e ≠ 0 ∧ cs.length = 5 ∧ (∀ u ∈ cs, u.oneCell' = true) ∧ rd = .error e ∧ k' ≤ s.size ∧ Blk W' P (psC s k' d)))) : CW Try.prog 63 [.pointer (some ⟨P, 0, none⟩), g] w P fun v W => (∃ k' t, v = .tuple #[.agg #[.int .i64 t.kind, .int .i64 t.num, .string t.text, t.nv, t.iv], .int .i64 0] ∧ nestS dp rd = .ok (t.er, k') ∧ RdT (n + 1) L W t ∧ ka < k' ∧ k' ≤ s.size ∧ Blk W P (psC s k' dp)) ∨ (∃ k' e, v = .tuple #[.agg #[.int .i64 0, .int .i64 0, .string ⟨#[]⟩, .slice none 0 0, .slice none 0 0], .int .i64 e] ∧ e ≠ 0 ∧ nestS dp rd = .error e ∧ k' ≤ s.size ∧ Blk W P (psC s k' dp)) := by
 refine cw_enter (N := 38) (f := [(0, .pointer (some ⟨P, 0, none⟩)), (1, g)]) Try.func63 rfl rfl rfl rfl fun Q hQ hE => ?_
 have hB := Chg.refl P w
 have hL0 := hL
 refine Sq fun K1 hK1 => (Rg ?_)
 refine Ge (dx_alloc rfl ty_zero_26 rfl) rfl rfl ?_
 rintro _ W2 ⟨rfl, k3, b4, z5⟩
 have n6 : P ≠ w.heap.size := Nat.ne_of_lt hp.lt
 have l7 := hB.size
 replace hp := hp.below b4
 replace hB := Chg.thenB hB b4
 replace hL := LL.more hL z5
 refine Pu rfl (Ni (hK1 (Sq fun K8 hK8 => (Sq fun K9 hK9 => (Rg (Pu rfl (Va (dx_nilCheck rfl rfl) rfl rfl ?_)))))))
 refine Va (dx_fld (o1 := 2) rfl ty_fld_55_1_2 rfl rfl) rfl rfl (Va (dx_load rfl ty_one_3 rfl (hp.cell (k := 2) rfl)) rfl rfl (Va (dx_eql rfl rfl rfl) rfl rfl (Ni (hK9 ?_))))
 refine WC.cond rfl (fun c10 => ?_) (fun c10 => ?_)
 ·
  replace c10 := dT c10
  refine Sq fun K11 hK11 => (Rg (Va (dx_build rfl rfl (built_of_O (cs := zV) (by kernel_rfl) oc_nil)) rfl rfl ?_))
  refine WL.do (dx_store (cs' := zV) (vs := zV) rfl ty_size_26_5 rfl rfl rfl (oc_cons rfl (oc_cons rfl (oc_cons rfl (oc_cons rfl (oc_cons rfl oc_nil))))) k3 rfl (Nat.le_of_ble_eq_true rfl) rfl) rfl ?_
  rintro _ W12 ⟨k14, o13⟩
  replace hp := hp.other o13 n6
  clear k3
  replace hB := Chg.only hB o13 (.inr l7)
  refine Pu rfl (Ni (hK11 ?_))
  exact WC.ret fun a_ ha_ => hQ (cw_ret2 rfl (.agg rfl ty_agg_26_5 k14.range rfl) (.tmp rfl) (.inr ⟨ka, 4, rfl, by decide, (by unfold nestS; rw [if_pos (by omega)]), by omega, hp⟩) hB ha_)
 ·
  replace c10 := dF c10
  refine WC.skip (hK8 (Sq fun K15 hK15 => ?_))
  have hd12 : ¬ dp = 12 := by omega
  obtain ⟨dq, hdq⟩ : ∃ q, q = dp + 1 := ⟨_, rfl⟩
  refine Rg (Pu rfl (Va (dx_nilCheck rfl rfl) rfl rfl (Va (dx_fld (o1 := 2) rfl ty_fld_55_1_2 rfl rfl) rfl rfl (Va (dx_load rfl ty_one_3 rfl (hp.cell (k := 2) rfl)) rfl rfl (Va (dx_add (r := (dq : Int)) rfl rfl rfl (by rw [wrap64_id (by omega)]; omega)) rfl rfl (Va (dx_nilCheck rfl rfl) rfl rfl (Va (dx_fld (o1 := 2) rfl ty_fld_55_1_2 rfl rfl) rfl rfl ?_)))))))
  refine WL.do (dx_store (cs' := [.string s, .int .i64 (ka : Int), .int .i64 (dq : Int)]) (vs := [.int .i64 (dq : Int)]) rfl ty_size_3_1 rfl rfl rfl (oc_cons rfl oc_nil) hp rfl (Nat.le_of_ble_eq_true rfl) rfl) rfl ?_
  rintro _ W16 ⟨k18, o17⟩
  replace k3 := k3.other o17 n6.symm
  clear hp
  replace hB := Chg.only hB o17 (.inl rfl)
  replace hL := LL.only hL o17
  refine Ni (hK15 (Sq fun K19 hK19 => (Rg (Pu rfl ?_))))
  refine Ge (dx_fw rfl rfl rfl (hg hd12 W16 _ hL (.tail _ hPL) hB.size dq hdq k18)) rfl rfl ?_
  rintro _ W49 ⟨(⟨k34, t35, rfl, hg39, hg40, hg41, hg42, hp50⟩ | ⟨k36, e37, cs38, rfl, hg43, hg44, hg45, hg46, hg47, hp50⟩), g48⟩
  ·
   replace k3 := k3.chg g48 n6.symm
   replace hB := Chg.both hB g48
   refine Pu rfl (Pu rfl (Pu rfl ?_))
   refine Ge (dx_alloc rfl ty_zero_26 rfl) rfl rfl ?_
   rintro _ W51 ⟨rfl, k52, b53, z54⟩
   have n55 : P ≠ W49.heap.size := Nat.ne_of_lt hp50.lt
   have n56 : w.heap.size ≠ W49.heap.size := Nat.ne_of_lt k3.lt
   have l57 := hB.size
   replace hg40 := hg40.more b53 (Nat.le_refl _)
   replace hp50 := hp50.below b53
   replace k3 := k3.below b53
   replace hB := Chg.thenB hB b53
   refine WL.do (dx_store (cs' := [.int .i64 t35.kind, .int .i64 t35.num, .string t35.text, t35.nv, t35.iv]) (vs := [.int .i64 t35.kind, .int .i64 t35.num, .string t35.text, t35.nv, t35.iv]) rfl ty_size_26_5 rfl rfl rfl (oc_cons rfl (oc_cons rfl (oc_cons rfl (oc_cons (hg40.1).one (oc_cons (hg40.2.1).one oc_nil))))) k52 rfl (Nat.le_of_ble_eq_true rfl) rfl) rfl ?_
   rintro _ W58 ⟨k60, o59⟩
   replace hp50 := hp50.other o59 n55
   replace k3 := k3.other o59 n56
   clear k52
   replace hg40 := hg40.only o59 (.head _)
   replace hB := Chg.only hB o59 (.inr l57)
   refine Pu rfl (Ni (hK19 (Sq fun K61 hK61 => (Rg (Pu rfl (Va (dx_nilCheck rfl rfl) rfl rfl (Va (dx_fld (o1 := 2) rfl ty_fld_55_1_2 rfl rfl) rfl rfl ?_)))))))
   refine Va (dx_load rfl ty_one_3 rfl (hp50.cell (k := 2) rfl)) rfl rfl (Va (dx_sub (r := (dp : Int)) rfl rfl rfl (by rw [wrap64_id (by omega)]; omega)) rfl rfl (Va (dx_nilCheck rfl rfl) rfl rfl (Va (dx_fld (o1 := 2) rfl ty_fld_55_1_2 rfl rfl) rfl rfl ?_)))
   refine WL.do (dx_store (cs' := [.string s, .int .i64 (k34 : Int), .int .i64 (dp : Int)]) (vs := [.int .i64 (dp : Int)]) rfl ty_size_3_1 rfl rfl rfl (oc_cons rfl oc_nil) hp50 rfl (Nat.le_of_ble_eq_true rfl) rfl) rfl ?_
   rintro _ W62 ⟨k64, o63⟩
   replace k3 := k3.other o63 n6.symm
   replace k60 := k60.other o63 n55.symm
   clear hp50
   replace hg40 := hg40.only o63 (.tail _ (.tail _ hPL))
   replace hB := Chg.only hB o63 (.inl rfl)
   refine Ni (hK61 (Sq fun K65 hK65 => (Sq fun K66 hK66 => (Rg (Pu rfl (Va (dx_neq rfl rfl rfl) rfl rfl (Ni ?_)))))))
   refine hK66 (WC.condF rfl (WC.skip (hK65 (Sq fun K67 hK67 => (Rg (Va (dx_loadN rfl ty_agg_26_5 rfl k60.range rfl) rfl rfl ?_))))))
   refine WL.do (dx_store (cs' := [.int .i64 t35.kind, .int .i64 t35.num, .string t35.text, t35.nv, t35.iv]) (vs := [.int .i64 t35.kind, .int .i64 t35.num, .string t35.text, t35.nv, t35.iv]) rfl ty_size_26_5 rfl rfl rfl (oc_cons rfl (oc_cons rfl (oc_cons rfl (oc_cons (hg40.1).one (oc_cons (hg40.2.1).one oc_nil))))) k3 rfl (Nat.le_of_ble_eq_true rfl) rfl) rfl ?_
   rintro _ W68 ⟨k70, o69⟩
   replace k64 := k64.other o69 n6
   clear k3
   replace hg40 := hg40.only o69 (.tail _ (.head _))
   replace hB := Chg.only hB o69 (.inr l7)
   refine Pu rfl (Ni (hK67 ?_))
   exact WC.ret fun a_ ha_ => hQ (cw_ret2 rfl (.agg rfl ty_agg_26_5 k70.range rfl) (.tmp rfl) (.inl ⟨k34, t35, rfl, (by unfold nestS; rw [if_neg hd12]; exact hg39), (hg40.less (fun x hx => (.tail _ (.tail _ hx)))), by omega, by omega, k64⟩) hB ha_)
  ·
   replace k3 := k3.chg g48 n6.symm
   replace hB := Chg.both hB g48
   refine Pu rfl (Pu rfl (Pu rfl ?_))
   refine Ge (dx_alloc rfl ty_zero_26 rfl) rfl rfl ?_
   rintro _ W71 ⟨rfl, k72, b73, z74⟩
   have n75 : P ≠ W49.heap.size := Nat.ne_of_lt hp50.lt
   have n76 : w.heap.size ≠ W49.heap.size := Nat.ne_of_lt k3.lt
   have l77 := hB.size
   replace hp50 := hp50.below b73
   replace k3 := k3.below b73
   replace hB := Chg.thenB hB b73
   refine WL.do (dx_storeW (vs := cs38) rfl ty_size_26_5 rfl rfl rfl hg45 k72 hg44 rfl) rfl ?_
   rintro _ W78 ⟨k80, o79⟩
   replace hp50 := hp50.other o79 n75
   replace k3 := k3.other o79 n76
   clear k72
   replace hB := Chg.only hB o79 (.inr l77)
   refine Pu rfl (Ni (hK19 (Sq fun K81 hK81 => (Rg (Pu rfl (Va (dx_nilCheck rfl rfl) rfl rfl (Va (dx_fld (o1 := 2) rfl ty_fld_55_1_2 rfl rfl) rfl rfl ?_)))))))
   refine Va (dx_load rfl ty_one_3 rfl (hp50.cell (k := 2) rfl)) rfl rfl (Va (dx_sub (r := (dp : Int)) rfl rfl rfl (by rw [wrap64_id (by omega)]; omega)) rfl rfl (Va (dx_nilCheck rfl rfl) rfl rfl (Va (dx_fld (o1 := 2) rfl ty_fld_55_1_2 rfl rfl) rfl rfl ?_)))
   refine WL.do (dx_store (cs' := [.string s, .int .i64 (k36 : Int), .int .i64 (dp : Int)]) (vs := [.int .i64 (dp : Int)]) rfl ty_size_3_1 rfl rfl rfl (oc_cons rfl oc_nil) hp50 rfl (Nat.le_of_ble_eq_true rfl) rfl) rfl ?_
   rintro _ W82 ⟨k84, o83⟩
   replace k3 := k3.other o83 n6.symm
   clear hp50
   replace hB := Chg.only hB o83 (.inl rfl)
   refine Ni (hK81 (Sq fun K85 hK85 => (Sq fun K86 hK86 => (Rg (Pu rfl (Va (dv_NT (dx_neq rfl rfl rfl) hg43) rfl rfl (Ni ?_)))))))
   refine hK86 (WC.condT rfl (Sq fun K87 hK87 => (Rg (Va (dx_build rfl rfl (built_of_O (cs := zV) (by kernel_rfl) oc_nil)) rfl rfl (Pu rfl ?_)))))
   refine WL.do (dx_store (cs' := zV) (vs := zV) rfl ty_size_26_5 rfl rfl rfl (oc_cons rfl (oc_cons rfl (oc_cons rfl (oc_cons rfl (oc_cons rfl oc_nil))))) k3 rfl (Nat.le_of_ble_eq_true rfl) rfl) rfl ?_
   rintro _ W88 ⟨k90, o89⟩
   replace k84 := k84.other o89 n6
   clear k3
   replace hB := Chg.only hB o89 (.inr l7)
   refine Pu rfl (Ni (hK87 ?_))
   exact WC.ret fun a_ ha_ => hQ (cw_ret2 rfl (.agg rfl ty_agg_26_5 k90.range rfl) (.tmp rfl) (.inr ⟨k36, e37, rfl, hg43, (by unfold nestS; rw [if_neg hd12]; exact hg46), by omega, k84⟩) hB ha_)

end Go.Proofs.Ytpinidlfcifeeaa
