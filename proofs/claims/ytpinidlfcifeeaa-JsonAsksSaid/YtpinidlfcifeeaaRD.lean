/- One step deeper. A value. A whole text. A list. The cursor of the reference. Numbers in the reference. Texts in the reference. Words: letter by letter, or all at once. A region whose order is drawn, of which several operations write in place to what others of it have made. No program stands here. A region whose order is drawn, of which any operation may write to what was there: an invariant of what has run and of the world. No program stands here. Appends and literals, told exactly: which block, how many. No program stands here. An item is put behind the others: a drawn region that writes to what was there. One item of a list. -/
import Derived.Test.YtpinidlfcifeeaaRC
namespace Go.Proofs.Ytpinidlfcifeeaa
open Go.RowKit
set_option linter.unusedVariables false
set_option linter.unusedSimpArgs false
set_option maxRecDepth 8000

def nestS (dp : Nat) (rd : Except Int (Js × Nat)) : Except Int (Js × Nat) := if dp = 12 then .error 4 else rd
set_option maxHeartbeats 1000000 in
theorem nested_v (g : Value) (n : Nat) (rd : Except Int (Js × Nat)) (s : ByteArray) (P ka dp : Nat) (w : World) (L : List Nat) (hL : LL L w) (hPL : P ∈ L) (hs : s.size ≤ 1000000) (hk : ka ≤ s.size) (hp : Blk w P (psC s ka dp))  (hdp : dp ≤ 12) (hg : ¬ dp = 12 → ∀ (W : World) (L' : List Nat), LL L' W → P ∈ L' → w.heap.size ≤ W.heap.size → ∀ d, d = dp + 1 → Blk W P (psC s ka d) → FW Try.prog g [] W P (fun v W' => (∃ k' t, v = .tuple #[.agg #[.int .i64 t.kind, .int .i64 t.num, .string t.text, t.nv, t.iv], .int .i64 0] ∧ rd = .ok (t.er, k') ∧ RdT (n + 1) L' W' t ∧ ka < k' ∧ k' ≤ s.size ∧ Blk W' P (psC s k' d)) ∨ (∃ k' e cs, v = .tuple #[.agg (List.toArray cs), .int .i64 e] ∧ e ≠ 0 ∧ cs.length = 5 ∧ (∀ u ∈ cs, u.oneCell' = true) ∧ rd = .error e ∧ k' ≤ s.size ∧ Blk W' P (psC s k' d)))) : CW Try.prog 63 [.pointer (some ⟨P, 0, none⟩), g] w P fun v W => (∃ k' t, v = .tuple #[.agg #[.int .i64 t.kind, .int .i64 t.num, .string t.text, t.nv, t.iv], .int .i64 0] ∧ nestS dp rd = .ok (t.er, k') ∧ RdT (n + 1) L W t ∧ ka < k' ∧ k' ≤ s.size ∧ Blk W P (psC s k' dp)) ∨ (∃ k' e, v = .tuple #[.agg #[.int .i64 0, .int .i64 0, .string ⟨#[]⟩, .slice none 0 0, .slice none 0 0], .int .i64 e] ∧ e ≠ 0 ∧ nestS dp rd = .error e ∧ k' ≤ s.size ∧ Blk W P (psC s k' dp)) := by
  refine cw_enter (N := 38) (f := [(0, .pointer (some ⟨P, 0, none⟩)), (1, g)]) Try.func63 rfl rfl rfl rfl fun Q hQ hE => ?_
  have hB := Chg.refl P w
  have hL0 := hL
  refine WC.seq fun K1 hK1 => ?_
  refine WC.region ?_
  refine WL.get (dx_alloc rfl ty_zero_26 rfl) rfl rfl ?_
  rintro _ W2 ⟨rfl, k3, b4, z5⟩
  have n6 : P ≠ w.heap.size := Nat.ne_of_lt hp.lt
  have l7 := hB.size
  replace hp := hp.below b4
  replace hB := Chg.thenB hB b4
  replace hL := LL.more hL z5
  refine WL.val (dx_assign rfl rfl) rfl rfl ?_
  refine WL.nil ?_
  refine hK1 ?_
  refine WC.seq fun K8 hK8 => ?_
  refine WC.seq fun K9 hK9 => ?_
  refine WC.region ?_
  refine WL.val (dx_move rfl rfl) rfl rfl ?_
  refine WL.val (dx_nilCheck rfl rfl) rfl rfl ?_
  refine WL.val (dx_fld (o1 := 2) rfl ty_fld_55_1_2 rfl rfl) rfl rfl ?_
  refine WL.val (dx_load rfl ty_one_3 rfl (hp.cell (k := 2) rfl)) rfl rfl ?_
  refine WL.val (dx_eql rfl rfl rfl) rfl rfl ?_
  refine WL.nil ?_
  refine hK9 ?_
  refine WC.cond rfl (fun c10 => ?_) (fun c10 => ?_)
  ·
    replace c10 := of_decide_eq_true c10
    refine WC.seq fun K11 hK11 => ?_
    refine WC.region ?_
    refine WL.val (dx_build rfl rfl (built_of_O (cs := [.int .i64 0, .int .i64 0, .string ⟨#[]⟩, .slice none 0 0, .slice none 0 0]) (by kernel_rfl) oc_nil)) rfl rfl ?_
    refine WL.do (dx_store (cs' := [.int .i64 0, .int .i64 0, .string ⟨#[]⟩, .slice none 0 0, .slice none 0 0]) (vs := [.int .i64 0, .int .i64 0, .string ⟨#[]⟩, .slice none 0 0, .slice none 0 0]) rfl ty_size_26_5 rfl rfl rfl (oc_cons rfl (oc_cons rfl (oc_cons rfl (oc_cons rfl (oc_cons rfl oc_nil))))) k3 rfl (Nat.le_of_ble_eq_true rfl) rfl) rfl ?_
    rintro _ W12 ⟨k14, o13⟩
    replace hp := hp.other o13 n6
    clear k3
    replace hB := Chg.only hB o13 (.inr l7)
    replace hL := LL.only hL o13
    refine WL.val (dx_assign rfl rfl) rfl rfl ?_
    refine WL.nil ?_
    refine hK11 ?_
    refine WC.ret fun a_ ha_ => ?_
    exact hQ (cw_ret2 rfl (.agg rfl ty_agg_26_5 k14.range rfl) (.tmp rfl) (.inr ⟨ka, 4, rfl, by decide, (by unfold nestS; rw [if_pos (by omega)]), by omega, hp⟩) hB ha_)
  ·
    replace c10 := of_decide_eq_false c10
    refine WC.skip ?_
    refine hK8 ?_
    refine WC.seq fun K15 hK15 => ?_
    have hd12 : ¬ dp = 12 := by omega
    obtain ⟨dq, hdq⟩ : ∃ q, q = dp + 1 := ⟨_, rfl⟩
    refine WC.region ?_
    refine WL.val (dx_move rfl rfl) rfl rfl ?_
    refine WL.val (dx_nilCheck rfl rfl) rfl rfl ?_
    refine WL.val (dx_fld (o1 := 2) rfl ty_fld_55_1_2 rfl rfl) rfl rfl ?_
    refine WL.val (dx_load rfl ty_one_3 rfl (hp.cell (k := 2) rfl)) rfl rfl ?_
    refine WL.val (dx_add (r := (dq : Int)) rfl rfl rfl (by rw [wrap64_id (by omega)]; omega)) rfl rfl ?_
    refine WL.val (dx_nilCheck rfl rfl) rfl rfl ?_
    refine WL.val (dx_fld (o1 := 2) rfl ty_fld_55_1_2 rfl rfl) rfl rfl ?_
    refine WL.do (dx_store (cs' := [.string s, .int .i64 (ka : Int), .int .i64 (dq : Int)]) (vs := [.int .i64 (dq : Int)]) rfl ty_size_3_1 rfl rfl rfl (oc_cons rfl oc_nil) hp rfl (Nat.le_of_ble_eq_true rfl) rfl) rfl ?_
    rintro _ W16 ⟨k18, o17⟩
    replace k3 := k3.other o17 n6.symm
    clear hp
    replace hB := Chg.only hB o17 (.inl rfl)
    replace hL := LL.only hL o17
    refine WL.nil ?_
    refine hK15 ?_
    refine WC.seq fun K19 hK19 => ?_
    refine WC.region ?_
    refine WL.val (dx_move rfl rfl) rfl rfl ?_
    refine WL.get (dx_fw rfl rfl rfl (hg hd12 W16 _ hL (.tail _ hPL) hB.size dq hdq k18)) rfl rfl ?_
    rintro _ W49 ⟨(⟨k34, t35, rfl, hg39, hg40, hg41, hg42, hp50⟩ | ⟨k36, e37, cs38, rfl, hg43, hg44, hg45, hg46, hg47, hp50⟩), g48⟩
    ·
      replace k3 := k3.chg g48 n6.symm
      replace hB := Chg.both hB g48
      replace hL := hL.chg g48
      refine WL.val (dx_move rfl rfl) rfl rfl ?_
      refine WL.val (dx_extract rfl rfl rfl) rfl rfl ?_
      refine WL.val (dx_extract rfl rfl rfl) rfl rfl ?_
      refine WL.get (dx_alloc rfl ty_zero_26 rfl) rfl rfl ?_
      rintro _ W51 ⟨rfl, k52, b53, z54⟩
      have n55 : P ≠ W49.heap.size := Nat.ne_of_lt hp50.lt
      have n56 : w.heap.size ≠ W49.heap.size := Nat.ne_of_lt k3.lt
      have l57 := hB.size
      replace hg40 := hg40.more b53 (Nat.le_refl _)
      replace hp50 := hp50.below b53
      replace k3 := k3.below b53
      replace hB := Chg.thenB hB b53
      replace hL := LL.more hL z54
      refine WL.do (dx_store (cs' := [.int .i64 t35.kind, .int .i64 t35.num, .string t35.text, t35.nv, t35.iv]) (vs := [.int .i64 t35.kind, .int .i64 t35.num, .string t35.text, t35.nv, t35.iv]) rfl ty_size_26_5 rfl rfl rfl (oc_cons rfl (oc_cons rfl (oc_cons rfl (oc_cons (hg40.1).one (oc_cons (hg40.2.1).one oc_nil))))) k52 rfl (Nat.le_of_ble_eq_true rfl) rfl) rfl ?_
      rintro _ W58 ⟨k60, o59⟩
      replace hp50 := hp50.other o59 n55
      replace k3 := k3.other o59 n56
      clear k52
      replace hg40 := hg40.only o59 (.head _)
      replace hB := Chg.only hB o59 (.inr l57)
      replace hL := LL.only hL o59
      refine WL.val (dx_assign rfl rfl) rfl rfl ?_
      refine WL.nil ?_
      refine hK19 ?_
      refine WC.seq fun K61 hK61 => ?_
      refine WC.region ?_
      refine WL.val (dx_move rfl rfl) rfl rfl ?_
      refine WL.val (dx_nilCheck rfl rfl) rfl rfl ?_
      refine WL.val (dx_fld (o1 := 2) rfl ty_fld_55_1_2 rfl rfl) rfl rfl ?_
      refine WL.val (dx_load rfl ty_one_3 rfl (hp50.cell (k := 2) rfl)) rfl rfl ?_
      refine WL.val (dx_sub (r := (dp : Int)) rfl rfl rfl (by rw [wrap64_id (by omega)]; omega)) rfl rfl ?_
      refine WL.val (dx_nilCheck rfl rfl) rfl rfl ?_
      refine WL.val (dx_fld (o1 := 2) rfl ty_fld_55_1_2 rfl rfl) rfl rfl ?_
      refine WL.do (dx_store (cs' := [.string s, .int .i64 (k34 : Int), .int .i64 (dp : Int)]) (vs := [.int .i64 (dp : Int)]) rfl ty_size_3_1 rfl rfl rfl (oc_cons rfl oc_nil) hp50 rfl (Nat.le_of_ble_eq_true rfl) rfl) rfl ?_
      rintro _ W62 ⟨k64, o63⟩
      replace k3 := k3.other o63 n6.symm
      replace k60 := k60.other o63 n55.symm
      clear hp50
      replace hg40 := hg40.only o63 (.tail _ (.tail _ hPL))
      replace hB := Chg.only hB o63 (.inl rfl)
      replace hL := LL.only hL o63
      refine WL.nil ?_
      refine hK61 ?_
      refine WC.seq fun K65 hK65 => ?_
      refine WC.seq fun K66 hK66 => ?_
      refine WC.region ?_
      refine WL.val (dx_move rfl rfl) rfl rfl ?_
      refine WL.val (dx_neq rfl rfl rfl) rfl rfl ?_
      refine WL.nil ?_
      refine hK66 ?_
      refine WC.condF rfl ?_
      refine WC.skip ?_
      refine hK65 ?_
      refine WC.seq fun K67 hK67 => ?_
      refine WC.region ?_
      refine WL.val (dx_loadN rfl ty_agg_26_5 rfl k60.range rfl) rfl rfl ?_
      refine WL.do (dx_store (cs' := [.int .i64 t35.kind, .int .i64 t35.num, .string t35.text, t35.nv, t35.iv]) (vs := [.int .i64 t35.kind, .int .i64 t35.num, .string t35.text, t35.nv, t35.iv]) rfl ty_size_26_5 rfl rfl rfl (oc_cons rfl (oc_cons rfl (oc_cons rfl (oc_cons (hg40.1).one (oc_cons (hg40.2.1).one oc_nil))))) k3 rfl (Nat.le_of_ble_eq_true rfl) rfl) rfl ?_
      rintro _ W68 ⟨k70, o69⟩
      replace k64 := k64.other o69 n6
      replace k60 := k60.other o69 n56.symm
      clear k3
      replace hg40 := hg40.only o69 (.tail _ (.head _))
      replace hB := Chg.only hB o69 (.inr l7)
      replace hL := LL.only hL o69
      refine WL.val (dx_assign rfl rfl) rfl rfl ?_
      refine WL.nil ?_
      refine hK67 ?_
      refine WC.ret fun a_ ha_ => ?_
      exact hQ (cw_ret2 rfl (.agg rfl ty_agg_26_5 k70.range rfl) (.tmp rfl) (.inl ⟨k34, t35, rfl, (by unfold nestS; rw [if_neg hd12]; exact hg39), (hg40.less (fun x hx => (.tail _ (.tail _ hx)))), by omega, by omega, k64⟩) hB ha_)
    ·
      replace k3 := k3.chg g48 n6.symm
      replace hB := Chg.both hB g48
      replace hL := hL.chg g48
      refine WL.val (dx_move rfl rfl) rfl rfl ?_
      refine WL.val (dx_extract rfl rfl rfl) rfl rfl ?_
      refine WL.val (dx_extract rfl rfl rfl) rfl rfl ?_
      refine WL.get (dx_alloc rfl ty_zero_26 rfl) rfl rfl ?_
      rintro _ W71 ⟨rfl, k72, b73, z74⟩
      have n75 : P ≠ W49.heap.size := Nat.ne_of_lt hp50.lt
      have n76 : w.heap.size ≠ W49.heap.size := Nat.ne_of_lt k3.lt
      have l77 := hB.size
      replace hp50 := hp50.below b73
      replace k3 := k3.below b73
      replace hB := Chg.thenB hB b73
      replace hL := LL.more hL z74
      refine WL.do (dx_storeW (vs := cs38) rfl ty_size_26_5 rfl rfl rfl hg45 k72 hg44 rfl) rfl ?_
      rintro _ W78 ⟨k80, o79⟩
      replace hp50 := hp50.other o79 n75
      replace k3 := k3.other o79 n76
      clear k72
      replace hB := Chg.only hB o79 (.inr l77)
      replace hL := LL.only hL o79
      refine WL.val (dx_assign rfl rfl) rfl rfl ?_
      refine WL.nil ?_
      refine hK19 ?_
      refine WC.seq fun K81 hK81 => ?_
      refine WC.region ?_
      refine WL.val (dx_move rfl rfl) rfl rfl ?_
      refine WL.val (dx_nilCheck rfl rfl) rfl rfl ?_
      refine WL.val (dx_fld (o1 := 2) rfl ty_fld_55_1_2 rfl rfl) rfl rfl ?_
      refine WL.val (dx_load rfl ty_one_3 rfl (hp50.cell (k := 2) rfl)) rfl rfl ?_
      refine WL.val (dx_sub (r := (dp : Int)) rfl rfl rfl (by rw [wrap64_id (by omega)]; omega)) rfl rfl ?_
      refine WL.val (dx_nilCheck rfl rfl) rfl rfl ?_
      refine WL.val (dx_fld (o1 := 2) rfl ty_fld_55_1_2 rfl rfl) rfl rfl ?_
      refine WL.do (dx_store (cs' := [.string s, .int .i64 (k36 : Int), .int .i64 (dp : Int)]) (vs := [.int .i64 (dp : Int)]) rfl ty_size_3_1 rfl rfl rfl (oc_cons rfl oc_nil) hp50 rfl (Nat.le_of_ble_eq_true rfl) rfl) rfl ?_
      rintro _ W82 ⟨k84, o83⟩
      replace k3 := k3.other o83 n6.symm
      replace k80 := k80.other o83 n75.symm
      clear hp50
      replace hB := Chg.only hB o83 (.inl rfl)
      replace hL := LL.only hL o83
      refine WL.nil ?_
      refine hK81 ?_
      refine WC.seq fun K85 hK85 => ?_
      refine WC.seq fun K86 hK86 => ?_
      refine WC.region ?_
      refine WL.val (dx_move rfl rfl) rfl rfl ?_
      refine WL.val (dv_NT (dx_neq rfl rfl rfl) hg43) rfl rfl ?_
      refine WL.nil ?_
      refine hK86 ?_
      refine WC.condT rfl ?_
      refine WC.seq fun K87 hK87 => ?_
      refine WC.region ?_
      refine WL.val (dx_build rfl rfl (built_of_O (cs := [.int .i64 0, .int .i64 0, .string ⟨#[]⟩, .slice none 0 0, .slice none 0 0]) (by kernel_rfl) oc_nil)) rfl rfl ?_
      refine WL.val (dx_move rfl rfl) rfl rfl ?_
      refine WL.do (dx_store (cs' := [.int .i64 0, .int .i64 0, .string ⟨#[]⟩, .slice none 0 0, .slice none 0 0]) (vs := [.int .i64 0, .int .i64 0, .string ⟨#[]⟩, .slice none 0 0, .slice none 0 0]) rfl ty_size_26_5 rfl rfl rfl (oc_cons rfl (oc_cons rfl (oc_cons rfl (oc_cons rfl (oc_cons rfl oc_nil))))) k3 rfl (Nat.le_of_ble_eq_true rfl) rfl) rfl ?_
      rintro _ W88 ⟨k90, o89⟩
      replace k84 := k84.other o89 n6
      replace k80 := k80.other o89 n76.symm
      clear k3
      replace hB := Chg.only hB o89 (.inr l7)
      replace hL := LL.only hL o89
      refine WL.val (dx_assign rfl rfl) rfl rfl ?_
      refine WL.nil ?_
      refine hK87 ?_
      refine WC.ret fun a_ ha_ => ?_
      exact hQ (cw_ret2 rfl (.agg rfl ty_agg_26_5 k90.range rfl) (.tmp rfl) (.inr ⟨k36, e37, rfl, hg43, (by unfold nestS; rw [if_neg hd12]; exact hg46), by omega, k84⟩) hB ha_)

end Go.Proofs.Ytpinidlfcifeeaa
namespace Go.Proofs.Ytpinidlfcifeeaa
open Go.RowKit
set_option linter.unusedVariables false
set_option linter.unusedSimpArgs false
set_option maxRecDepth 8000

def leafT (k n : Int) (t : ByteArray) : Tr := .mk k n t (.slice none 0 0) [] (.slice none 0 0) []
def leafS (k n : Int) (t : ByteArray) : Js := .mk k n t [] []
theorem leaf_er' (k n : Int) (t : ByteArray) : (leafT k n t).er = leafS k n t := by unfold leafT leafS; rw [Tr.er_mk]; rfl
theorem leaf_rd (k n : Int) (t : ByteArray) (m : Nat) (L : List Nat) (w : World) : RdT (m + 1) L w (leafT k n t) := ⟨RdF.nil (by decide), RdF.nil (by decide), fun c hc => by cases hc⟩
def wordR (s w : ByteArray) (kd : Int) (k : Nat) : Except Int (Js × Nat) := if wordS s w k = true then .ok (leafS kd 0 ⟨#[]⟩, k + w.size) else .error 2
def numR (s : ByteArray) (k : Nat) : Except Int (Js × Nat) := match numS s k with
  | .error e => .error e
  | .ok (n, k') => .ok (leafS 3 n ⟨#[]⟩, k')
def quoR (s : ByteArray) (k : Nat) : Except Int (Js × Nat) := match quoS s k with
  | none => .error 2
  | some (l, k') => .ok (leafS 4 0 (strOfNums l), k')
def valB (s : ByteArray) (dp : Nat) (rl ro : Except Int (Js × Nat)) (k : Nat) : Except Int (Js × Nat) :=
  if k < s.size then
    if atS s k = 110 then wordR s ⟨#[110, 117, 108, 108]⟩ 0 k else if atS s k = 116 then wordR s ⟨#[116, 114, 117, 101]⟩ 1 k else if atS s k = 102 then wordR s ⟨#[102, 97, 108, 115, 101]⟩ 2 k
    else if atS s k = 45 ∨ (48 ≤ atS s k ∧ atS s k ≤ 57) then numR s k else if atS s k = 34 then quoR s k
    else if atS s k = 91 then nestS dp rl else if atS s k = 123 then nestS dp ro else .error 2
  else .error 2
def valC (s : ByteArray) (dp : Nat) (rl ro : Except Int (Js × Nat)) (k : Nat) (c : Int) : Except Int (Js × Nat) :=
    if c = 110 then wordR s ⟨#[110, 117, 108, 108]⟩ 0 k else if c = 116 then wordR s ⟨#[116, 114, 117, 101]⟩ 1 k else if c = 102 then wordR s ⟨#[102, 97, 108, 115, 101]⟩ 2 k
    else if c = 45 ∨ (48 ≤ c ∧ c ≤ 57) then numR s k else if c = 34 then quoR s k
    else if c = 91 then nestS dp rl else if c = 123 then nestS dp ro else .error 2
theorem valB_c {s : ByteArray} {dp : Nat} {rl ro : Except Int (Js × Nat)} {k : Nat} {c : Int} (h : k < s.size → c = atS s k) (h0 : s.size ≤ k → c = 0) : valB s dp rl ro k = valC s dp rl ro k c := by
  unfold valB
  split
  · rename_i hk
    rw [← h hk]; rfl
  · rename_i hk
    obtain rfl := h0 (by omega)
    rfl
section
variable {P : Program} {ops : Array Oper} {o : Oper} {N : Nat} {f : Fl} {w : World}
theorem dx_funcP {fn : FuncId} {x : Operand} {X q : Nat} (ho : o.op = .makeFunc (.func fn) #[x] #[]) (hx : ev f x = some (.pointer (some ⟨X, q, none⟩))) (hw : wantF ops o f = some true := by rfl) : DV P ops o N f w (.func (.func fn) #[.pointer (some ⟨X, q, none⟩)] #[]) := fun a ha => by
  have hx := ha.ev hx
  exact Does.pure (wantF_of ha hw) _ (by unfold execOp; simp [ho, Instr.makeFunc, hx, Sem.run_bind, Sem.run_pure, Result.andThen_ok]) ⟨rfl, rfl⟩
end
section
variable {s wd : ByteArray} {dp k k' : Nat} {rl ro : Except Int (Js × Nat)} {c n e kd : Int} {l : List Int}
theorem valC_n (h : c = 45 ∨ (48 ≤ c ∧ c ≤ 57)) : valC s dp rl ro k c = numR s k := by unfold valC; rw [if_neg (by omega), if_neg (by omega), if_neg (by omega), if_pos h]
theorem valC_q (h : c = 34) : valC s dp rl ro k c = quoR s k := by unfold valC; rw [if_neg (by omega), if_neg (by omega), if_neg (by omega), if_neg (by omega), if_pos h]
theorem valC_l (h : c = 91) : valC s dp rl ro k c = nestS dp rl := by unfold valC; rw [if_neg (by omega), if_neg (by omega), if_neg (by omega), if_neg (by omega), if_neg (by omega), if_pos h]
theorem valC_o (h : c = 123) : valC s dp rl ro k c = nestS dp ro := by unfold valC; rw [if_neg (by omega), if_neg (by omega), if_neg (by omega), if_neg (by omega), if_neg (by omega), if_neg (by omega), if_pos h]
theorem valC_0 (h0 : ¬ c = 110) (h1 : ¬ c = 116) (h2 : ¬ c = 102) (h3 : ¬ c = 45) (h4 : ¬ (48 ≤ c ∧ c ≤ 57)) (h5 : ¬ c = 34) (h6 : ¬ c = 91) (h7 : ¬ c = 123) : valC s dp rl ro k c = .error 2 := by unfold valC; rw [if_neg h0, if_neg h1, if_neg h2, if_neg (by omega), if_neg h5, if_neg h6, if_neg h7]
theorem valC_w0 (h : c = 110) : valC s dp rl ro k c = wordR s ⟨#[110, 117, 108, 108]⟩ 0 k := by unfold valC; rw [if_pos h]
theorem valC_w1 (h : c = 116) : valC s dp rl ro k c = wordR s ⟨#[116, 114, 117, 101]⟩ 1 k := by unfold valC; rw [if_neg (by omega), if_pos h]
theorem valC_w2 (h : c = 102) : valC s dp rl ro k c = wordR s ⟨#[102, 97, 108, 115, 101]⟩ 2 k := by unfold valC; rw [if_neg (by omega), if_neg (by omega), if_pos h]
theorem wordR_t (h : wordS s wd k = true) (e1 : k' = k + wd.size) : wordR s wd kd k = .ok ((leafT kd 0 ⟨#[]⟩).er, k') := by rw [leaf_er', e1]; unfold wordR; rw [if_pos h]
theorem wordR_f (h : wordS s wd k = false) : wordR s wd kd k = .error 2 := by unfold wordR; rw [h]; rfl
theorem numR_t (h : numS s k = .ok (n, k')) : numR s k = .ok ((leafT 3 n ⟨#[]⟩).er, k') := by rw [leaf_er']; unfold numR; rw [h]
theorem numR_f (h : numS s k = .error e) : numR s k = .error e := by unfold numR; rw [h]
theorem quoR_t (h : quoS s k = some (l, k')) : quoR s k = .ok ((leafT 4 0 (strOfNums l)).er, k') := by rw [leaf_er']; unfold quoR; rw [h]
theorem quoR_f (h : quoS s k = none) : quoR s k = .error 2 := by unfold quoR; rw [h]
end
set_option maxHeartbeats 1000000 in
theorem value_v (n : Nat) (rl ro : Except Int (Js × Nat)) (s : ByteArray) (P ka dp : Nat) (w : World) (L : List Nat) (hL : LL L w) (hPL : P ∈ L) (hs : s.size ≤ 1000000) (hk : ka ≤ s.size) (hp : Blk w P (psC s ka dp))  (hdp : dp ≤ 12) (hl : ¬ dp = 12 → takeS s ka 91 = true → ∀ (W : World) (L' : List Nat), LL L' W → P ∈ L' → ∀ d, d = dp + 1 → Blk W P (psC s ka d) → CW Try.prog 64 [.pointer (some ⟨P, 0, none⟩)] W P (fun v W' => (∃ k' t, v = .tuple #[.agg #[.int .i64 t.kind, .int .i64 t.num, .string t.text, t.nv, t.iv], .int .i64 0] ∧ rl = .ok (t.er, k') ∧ RdT (n + 1) L' W' t ∧ ka < k' ∧ k' ≤ s.size ∧ Blk W' P (psC s k' d)) ∨ (∃ k' e cs, v = .tuple #[.agg (List.toArray cs), .int .i64 e] ∧ e ≠ 0 ∧ cs.length = 5 ∧ (∀ u ∈ cs, u.oneCell' = true) ∧ rl = .error e ∧ k' ≤ s.size ∧ Blk W' P (psC s k' d)))) (ho : ¬ dp = 12 → takeS s ka 123 = true → ∀ (W : World) (L' : List Nat), LL L' W → P ∈ L' → ∀ d, d = dp + 1 → Blk W P (psC s ka d) → CW Try.prog 65 [.pointer (some ⟨P, 0, none⟩)] W P (fun v W' => (∃ k' t, v = .tuple #[.agg #[.int .i64 t.kind, .int .i64 t.num, .string t.text, t.nv, t.iv], .int .i64 0] ∧ ro = .ok (t.er, k') ∧ RdT (n + 1) L' W' t ∧ ka < k' ∧ k' ≤ s.size ∧ Blk W' P (psC s k' d)) ∨ (∃ k' e cs, v = .tuple #[.agg (List.toArray cs), .int .i64 e] ∧ e ≠ 0 ∧ cs.length = 5 ∧ (∀ u ∈ cs, u.oneCell' = true) ∧ ro = .error e ∧ k' ≤ s.size ∧ Blk W' P (psC s k' d)))) : CW Try.prog 34 [.pointer (some ⟨P, 0, none⟩)] w P fun v W => (∃ k' t, v = .tuple #[.agg #[.int .i64 t.kind, .int .i64 t.num, .string t.text, t.nv, t.iv], .int .i64 0] ∧ valB s dp rl ro ka = .ok (t.er, k') ∧ RdT (n + 1) L W t ∧ ka < k' ∧ k' ≤ s.size ∧ Blk W P (psC s k' dp)) ∨ (∃ k' e, v = .tuple #[.agg #[.int .i64 0, .int .i64 0, .string ⟨#[]⟩, .slice none 0 0, .slice none 0 0], .int .i64 e] ∧ e ≠ 0 ∧ valB s dp rl ro ka = .error e ∧ k' ≤ s.size ∧ Blk W P (psC s k' dp)) := by
  refine cw_enter (N := 80) (f := [(0, .pointer (some ⟨P, 0, none⟩))]) Try.func34 rfl rfl rfl rfl fun Q hQ hE => ?_
  have hB := Chg.refl P w
  have hL0 := hL
  refine WC.seq fun K1 hK1 => ?_
  refine WC.region ?_
  refine WL.get (dx_alloc rfl ty_zero_26 rfl) rfl rfl ?_
  rintro _ W2 ⟨rfl, k3, b4, z5⟩
  have n6 : P ≠ w.heap.size := Nat.ne_of_lt hp.lt
  have l7 := hB.size
  replace hp := hp.below b4
  replace hB := Chg.thenB hB b4
  replace hL := LL.more hL z5
  refine WL.val (dx_assign rfl rfl) rfl rfl ?_
  refine WL.nil ?_
  refine hK1 ?_
  refine WC.seq fun K8 hK8 => ?_
  refine WC.seq fun K9 hK9 => ?_
  refine WC.region ?_
  refine WL.val (dx_move rfl rfl) rfl rfl ?_
  refine WL.val (dx_nilCheck rfl rfl) rfl rfl ?_
  refine WL.val (dx_fld (o1 := 0) rfl ty_fld_55_0_0 rfl rfl) rfl rfl ?_
  refine WL.get (dx_cv rfl Try.func59 rfl rfl rfl (peek_c s P ka dp W2 _ hL (.tail _ hPL) hs (by omega) hp)) rfl rfl ?_
  rintro _ W31 ⟨⟨c25, rfl, hc26, hc27, hc28, hc29⟩, b30⟩
  replace hp := hp.below b30
  replace k3 := k3.below b30
  replace hB := Chg.thenB hB b30
  replace hL := LL.below hL b30
  refine WL.val (dx_assign rfl rfl) rfl rfl ?_
  refine WL.nil ?_
  refine hK9 ?_
  refine WC.block ?_
  refine WC.seq fun K32 hK32 => ?_
  refine WC.region ?_
  refine WL.val (dx_move rfl rfl) rfl rfl ?_
  refine WL.val (dx_eql rfl rfl rfl) rfl rfl ?_
  refine WL.val (dx_assign rfl rfl) rfl rfl ?_
  refine WL.nil ?_
  refine hK32 ?_
  refine WC.cond rfl (fun c33 => ?_) (fun c33 => ?_)
  ·
    replace c33 := of_decide_eq_true c33
    refine WC.seq fun K34 hK34 => ?_
    refine WC.region ?_
    refine WL.val (dx_move rfl rfl) rfl rfl ?_
    refine WL.get (dx_cw rfl Try.func60 rfl rfl rfl (plain_v ({ data := #[110, 117, 108, 108] }) 0 s P ka dp W31 _ hL (.tail _ hPL) hs (by omega) hp (by decide))) rfl rfl ?_
    rintro _ W50 ⟨(⟨k42, rfl, hw44, hw45, hw46, hp51⟩ | ⟨k43, rfl, hw47, hw48, hp51⟩), g49⟩
    ·
      replace k3 := k3.chg g49 n6.symm
      replace hB := Chg.both hB g49
      replace hL := hL.chg g49
      refine WL.val (dx_extract rfl rfl rfl) rfl rfl ?_
      refine WL.val (dx_extract rfl rfl rfl) rfl rfl ?_
      refine WL.do (dx_store (cs' := [.int .i64 0, .int .i64 0, .string ⟨#[]⟩, .slice none 0 0, .slice none 0 0]) (vs := [.int .i64 0, .int .i64 0, .string ⟨#[]⟩, .slice none 0 0, .slice none 0 0]) rfl ty_size_26_5 rfl rfl rfl (oc_cons rfl (oc_cons rfl (oc_cons rfl (oc_cons rfl (oc_cons rfl oc_nil))))) k3 rfl (Nat.le_of_ble_eq_true rfl) rfl) rfl ?_
      rintro _ W52 ⟨k54, o53⟩
      replace hp51 := hp51.other o53 n6
      clear k3
      replace hB := Chg.only hB o53 (.inr l7)
      replace hL := LL.only hL o53
      refine WL.val (dx_assign rfl rfl) rfl rfl ?_
      refine WL.nil ?_
      refine hK34 ?_
      refine WC.ret fun a_ ha_ => ?_
      exact hQ (cw_ret2 rfl (.agg rfl ty_agg_26_5 k54.range rfl) (.tmp rfl) (.inl ⟨k42, leafT 0 0 ⟨#[]⟩, rfl, (valB_c hc28 hc29).trans ((valC_w0 (by omega)).trans (wordR_t hw44 hw45)), leaf_rd _ _ _ _ _ _, by first | omega | (simp only [ByteArray.size] at *; simp at *; omega), by omega, hp51⟩) hB ha_)
    ·
      replace k3 := k3.chg g49 n6.symm
      replace hB := Chg.both hB g49
      replace hL := hL.chg g49
      refine WL.val (dx_extract rfl rfl rfl) rfl rfl ?_
      refine WL.val (dx_extract rfl rfl rfl) rfl rfl ?_
      refine WL.do (dx_store (cs' := [.int .i64 0, .int .i64 0, .string ⟨#[]⟩, .slice none 0 0, .slice none 0 0]) (vs := [.int .i64 0, .int .i64 0, .string ⟨#[]⟩, .slice none 0 0, .slice none 0 0]) rfl ty_size_26_5 rfl rfl rfl (oc_cons rfl (oc_cons rfl (oc_cons rfl (oc_cons rfl (oc_cons rfl oc_nil))))) k3 rfl (Nat.le_of_ble_eq_true rfl) rfl) rfl ?_
      rintro _ W55 ⟨k57, o56⟩
      replace hp51 := hp51.other o56 n6
      clear k3
      replace hB := Chg.only hB o56 (.inr l7)
      replace hL := LL.only hL o56
      refine WL.val (dx_assign rfl rfl) rfl rfl ?_
      refine WL.nil ?_
      refine hK34 ?_
      refine WC.ret fun a_ ha_ => ?_
      exact hQ (cw_ret2 rfl (.agg rfl ty_agg_26_5 k57.range rfl) (.tmp rfl) (.inr ⟨k43, 2, rfl, (by decide), (valB_c hc28 hc29).trans ((valC_w0 (by omega)).trans (wordR_f hw47)), by omega, hp51⟩) hB ha_)
  ·
    replace c33 := of_decide_eq_false c33
    refine WC.seq fun K58 hK58 => ?_
    refine WC.region ?_
    refine WL.val (dx_move rfl rfl) rfl rfl ?_
    refine WL.val (dx_eql rfl rfl rfl) rfl rfl ?_
    refine WL.val (dx_assign rfl rfl) rfl rfl ?_
    refine WL.nil ?_
    refine hK58 ?_
    refine WC.cond rfl (fun c59 => ?_) (fun c59 => ?_)
    ·
      replace c59 := of_decide_eq_true c59
      refine WC.seq fun K60 hK60 => ?_
      refine WC.region ?_
      refine WL.val (dx_move rfl rfl) rfl rfl ?_
      refine WL.get (dx_cw rfl Try.func60 rfl rfl rfl (plain_v ({ data := #[116, 114, 117, 101] }) 1 s P ka dp W31 _ hL (.tail _ hPL) hs (by omega) hp (by decide))) rfl rfl ?_
      rintro _ W76 ⟨(⟨k68, rfl, hw70, hw71, hw72, hp77⟩ | ⟨k69, rfl, hw73, hw74, hp77⟩), g75⟩
      ·
        replace k3 := k3.chg g75 n6.symm
        replace hB := Chg.both hB g75
        replace hL := hL.chg g75
        refine WL.val (dx_extract rfl rfl rfl) rfl rfl ?_
        refine WL.val (dx_extract rfl rfl rfl) rfl rfl ?_
        refine WL.do (dx_store (cs' := [.int .i64 1, .int .i64 0, .string ⟨#[]⟩, .slice none 0 0, .slice none 0 0]) (vs := [.int .i64 1, .int .i64 0, .string ⟨#[]⟩, .slice none 0 0, .slice none 0 0]) rfl ty_size_26_5 rfl rfl rfl (oc_cons rfl (oc_cons rfl (oc_cons rfl (oc_cons rfl (oc_cons rfl oc_nil))))) k3 rfl (Nat.le_of_ble_eq_true rfl) rfl) rfl ?_
        rintro _ W78 ⟨k80, o79⟩
        replace hp77 := hp77.other o79 n6
        clear k3
        replace hB := Chg.only hB o79 (.inr l7)
        replace hL := LL.only hL o79
        refine WL.val (dx_assign rfl rfl) rfl rfl ?_
        refine WL.nil ?_
        refine hK60 ?_
        refine WC.ret fun a_ ha_ => ?_
        exact hQ (cw_ret2 rfl (.agg rfl ty_agg_26_5 k80.range rfl) (.tmp rfl) (.inl ⟨k68, leafT 1 0 ⟨#[]⟩, rfl, (valB_c hc28 hc29).trans ((valC_w1 (by omega)).trans (wordR_t hw70 hw71)), leaf_rd _ _ _ _ _ _, by first | omega | (simp only [ByteArray.size] at *; simp at *; omega), by omega, hp77⟩) hB ha_)
      ·
        replace k3 := k3.chg g75 n6.symm
        replace hB := Chg.both hB g75
        replace hL := hL.chg g75
        refine WL.val (dx_extract rfl rfl rfl) rfl rfl ?_
        refine WL.val (dx_extract rfl rfl rfl) rfl rfl ?_
        refine WL.do (dx_store (cs' := [.int .i64 0, .int .i64 0, .string ⟨#[]⟩, .slice none 0 0, .slice none 0 0]) (vs := [.int .i64 0, .int .i64 0, .string ⟨#[]⟩, .slice none 0 0, .slice none 0 0]) rfl ty_size_26_5 rfl rfl rfl (oc_cons rfl (oc_cons rfl (oc_cons rfl (oc_cons rfl (oc_cons rfl oc_nil))))) k3 rfl (Nat.le_of_ble_eq_true rfl) rfl) rfl ?_
        rintro _ W81 ⟨k83, o82⟩
        replace hp77 := hp77.other o82 n6
        clear k3
        replace hB := Chg.only hB o82 (.inr l7)
        replace hL := LL.only hL o82
        refine WL.val (dx_assign rfl rfl) rfl rfl ?_
        refine WL.nil ?_
        refine hK60 ?_
        refine WC.ret fun a_ ha_ => ?_
        exact hQ (cw_ret2 rfl (.agg rfl ty_agg_26_5 k83.range rfl) (.tmp rfl) (.inr ⟨k69, 2, rfl, (by decide), (valB_c hc28 hc29).trans ((valC_w1 (by omega)).trans (wordR_f hw73)), by omega, hp77⟩) hB ha_)
    ·
      replace c59 := of_decide_eq_false c59
      refine WC.seq fun K84 hK84 => ?_
      refine WC.region ?_
      refine WL.val (dx_move rfl rfl) rfl rfl ?_
      refine WL.val (dx_eql rfl rfl rfl) rfl rfl ?_
      refine WL.val (dx_assign rfl rfl) rfl rfl ?_
      refine WL.nil ?_
      refine hK84 ?_
      refine WC.cond rfl (fun c85 => ?_) (fun c85 => ?_)
      ·
        replace c85 := of_decide_eq_true c85
        refine WC.seq fun K86 hK86 => ?_
        refine WC.region ?_
        refine WL.val (dx_move rfl rfl) rfl rfl ?_
        refine WL.get (dx_cw rfl Try.func60 rfl rfl rfl (plain_v ({ data := #[102, 97, 108, 115, 101] }) 2 s P ka dp W31 _ hL (.tail _ hPL) hs (by omega) hp (by decide))) rfl rfl ?_
        rintro _ W102 ⟨(⟨k94, rfl, hw96, hw97, hw98, hp103⟩ | ⟨k95, rfl, hw99, hw100, hp103⟩), g101⟩
        ·
          replace k3 := k3.chg g101 n6.symm
          replace hB := Chg.both hB g101
          replace hL := hL.chg g101
          refine WL.val (dx_extract rfl rfl rfl) rfl rfl ?_
          refine WL.val (dx_extract rfl rfl rfl) rfl rfl ?_
          refine WL.do (dx_store (cs' := [.int .i64 2, .int .i64 0, .string ⟨#[]⟩, .slice none 0 0, .slice none 0 0]) (vs := [.int .i64 2, .int .i64 0, .string ⟨#[]⟩, .slice none 0 0, .slice none 0 0]) rfl ty_size_26_5 rfl rfl rfl (oc_cons rfl (oc_cons rfl (oc_cons rfl (oc_cons rfl (oc_cons rfl oc_nil))))) k3 rfl (Nat.le_of_ble_eq_true rfl) rfl) rfl ?_
          rintro _ W104 ⟨k106, o105⟩
          replace hp103 := hp103.other o105 n6
          clear k3
          replace hB := Chg.only hB o105 (.inr l7)
          replace hL := LL.only hL o105
          refine WL.val (dx_assign rfl rfl) rfl rfl ?_
          refine WL.nil ?_
          refine hK86 ?_
          refine WC.ret fun a_ ha_ => ?_
          exact hQ (cw_ret2 rfl (.agg rfl ty_agg_26_5 k106.range rfl) (.tmp rfl) (.inl ⟨k94, leafT 2 0 ⟨#[]⟩, rfl, (valB_c hc28 hc29).trans ((valC_w2 (by omega)).trans (wordR_t hw96 hw97)), leaf_rd _ _ _ _ _ _, by first | omega | (simp only [ByteArray.size] at *; simp at *; omega), by omega, hp103⟩) hB ha_)
        ·
          replace k3 := k3.chg g101 n6.symm
          replace hB := Chg.both hB g101
          replace hL := hL.chg g101
          refine WL.val (dx_extract rfl rfl rfl) rfl rfl ?_
          refine WL.val (dx_extract rfl rfl rfl) rfl rfl ?_
          refine WL.do (dx_store (cs' := [.int .i64 0, .int .i64 0, .string ⟨#[]⟩, .slice none 0 0, .slice none 0 0]) (vs := [.int .i64 0, .int .i64 0, .string ⟨#[]⟩, .slice none 0 0, .slice none 0 0]) rfl ty_size_26_5 rfl rfl rfl (oc_cons rfl (oc_cons rfl (oc_cons rfl (oc_cons rfl (oc_cons rfl oc_nil))))) k3 rfl (Nat.le_of_ble_eq_true rfl) rfl) rfl ?_
          rintro _ W107 ⟨k109, o108⟩
          replace hp103 := hp103.other o108 n6
          clear k3
          replace hB := Chg.only hB o108 (.inr l7)
          replace hL := LL.only hL o108
          refine WL.val (dx_assign rfl rfl) rfl rfl ?_
          refine WL.nil ?_
          refine hK86 ?_
          refine WC.ret fun a_ ha_ => ?_
          exact hQ (cw_ret2 rfl (.agg rfl ty_agg_26_5 k109.range rfl) (.tmp rfl) (.inr ⟨k95, 2, rfl, (by decide), (valB_c hc28 hc29).trans ((valC_w2 (by omega)).trans (wordR_f hw99)), by omega, hp103⟩) hB ha_)
      ·
        replace c85 := of_decide_eq_false c85
        refine WC.seq fun K110 hK110 => ?_
        refine WC.region ?_
        refine WL.val (dx_move rfl rfl) rfl rfl ?_
        refine WL.val (dx_eql rfl rfl rfl) rfl rfl ?_
        refine WL.val (dx_move rfl rfl) rfl rfl ?_
        refine WL.split 35 rfl (fun g111 => ?_) (fun g111 => ?_)
        ·
          replace g111 := of_decide_eq_true g111
          refine WL.off rfl rfl rfl ?_
          refine WL.off rfl rfl rfl ?_
          refine WL.off rfl rfl rfl ?_
          refine WL.off rfl rfl rfl ?_
          refine WL.off rfl rfl rfl ?_
          refine WL.off rfl rfl rfl ?_
          refine WL.val (dx_pick rfl rfl rfl) rfl rfl ?_
          refine WL.val (dx_assign rfl rfl) rfl rfl ?_
          refine WL.nil ?_
          refine hK110 ?_
          refine WC.condT rfl ?_
          refine WC.seq fun K112 hK112 => ?_
          refine WC.region ?_
          refine WL.val (dx_move rfl rfl) rfl rfl ?_
          refine WL.get (dx_cw rfl Try.func61 rfl rfl rfl (number_v s P ka dp W31 _ hL (.tail _ hPL) hs (by omega) hp)) rfl rfl ?_
          rintro _ W140 ⟨(⟨k126, n128, rfl, hw130, hw131, hw132, hw133, hw134, hp141⟩ | ⟨k127, e129, rfl, hw135, hw136, hw137, hp141⟩), g139⟩
          ·
            replace k3 := k3.chg g139 n6.symm
            replace hB := Chg.both hB g139
            replace hL := hL.chg g139
            refine WL.val (dx_extract rfl rfl rfl) rfl rfl ?_
            refine WL.val (dx_extract rfl rfl rfl) rfl rfl ?_
            refine WL.do (dx_store (cs' := [.int .i64 3, .int .i64 n128, .string ⟨#[]⟩, .slice none 0 0, .slice none 0 0]) (vs := [.int .i64 3, .int .i64 n128, .string ⟨#[]⟩, .slice none 0 0, .slice none 0 0]) rfl ty_size_26_5 rfl rfl rfl (oc_cons rfl (oc_cons rfl (oc_cons rfl (oc_cons rfl (oc_cons rfl oc_nil))))) k3 rfl (Nat.le_of_ble_eq_true rfl) rfl) rfl ?_
            rintro _ W142 ⟨k144, o143⟩
            replace hp141 := hp141.other o143 n6
            clear k3
            replace hB := Chg.only hB o143 (.inr l7)
            replace hL := LL.only hL o143
            refine WL.val (dx_assign rfl rfl) rfl rfl ?_
            refine WL.nil ?_
            refine hK112 ?_
            refine WC.ret fun a_ ha_ => ?_
            exact hQ (cw_ret2 rfl (.agg rfl ty_agg_26_5 k144.range rfl) (.tmp rfl) (.inl ⟨k126, leafT 3 n128 ⟨#[]⟩, rfl, (valB_c hc28 hc29).trans ((valC_n (by omega)).trans (numR_t hw130)), leaf_rd _ _ _ _ _ _, by first | omega | (simp only [ByteArray.size] at *; simp at *; omega), by omega, hp141⟩) hB ha_)
          ·
            replace k3 := k3.chg g139 n6.symm
            replace hB := Chg.both hB g139
            replace hL := hL.chg g139
            refine WL.val (dx_extract rfl rfl rfl) rfl rfl ?_
            refine WL.val (dx_extract rfl rfl rfl) rfl rfl ?_
            refine WL.do (dx_store (cs' := [.int .i64 0, .int .i64 0, .string ⟨#[]⟩, .slice none 0 0, .slice none 0 0]) (vs := [.int .i64 0, .int .i64 0, .string ⟨#[]⟩, .slice none 0 0, .slice none 0 0]) rfl ty_size_26_5 rfl rfl rfl (oc_cons rfl (oc_cons rfl (oc_cons rfl (oc_cons rfl (oc_cons rfl oc_nil))))) k3 rfl (Nat.le_of_ble_eq_true rfl) rfl) rfl ?_
            rintro _ W145 ⟨k147, o146⟩
            replace hp141 := hp141.other o146 n6
            clear k3
            replace hB := Chg.only hB o146 (.inr l7)
            replace hL := LL.only hL o146
            refine WL.val (dx_assign rfl rfl) rfl rfl ?_
            refine WL.nil ?_
            refine hK112 ?_
            refine WC.ret fun a_ ha_ => ?_
            exact hQ (cw_ret2 rfl (.agg rfl ty_agg_26_5 k147.range rfl) (.tmp rfl) (.inr ⟨k127, e129, rfl, hw135, (valB_c hc28 hc29).trans ((valC_n (by omega)).trans (numR_f hw136)), by omega, hp141⟩) hB ha_)
        ·
          replace g111 := of_decide_eq_false g111
          refine WL.val (dx_move rfl rfl) rfl rfl ?_
          refine WL.val (dx_geq rfl rfl rfl) rfl rfl ?_
          refine WL.val (dx_move rfl rfl) rfl rfl ?_
          refine WL.split 38 rfl (fun g148 => ?_) (fun g148 => ?_)
          ·
            replace g148 := of_decide_eq_true g148
            refine WL.val (dx_move rfl rfl) rfl rfl ?_
            refine WL.val (dx_leq rfl rfl rfl) rfl rfl ?_
            refine WL.val (dx_pick rfl rfl rfl) rfl rfl ?_
            refine WL.val (dx_pick rfl rfl rfl) rfl rfl ?_
            refine WL.val (dx_assign rfl rfl) rfl rfl ?_
            refine WL.nil ?_
            refine hK110 ?_
            refine WC.cond rfl (fun c149 => ?_) (fun c149 => ?_)
            ·
              replace c149 := of_decide_eq_true c149
              refine WC.seq fun K150 hK150 => ?_
              refine WC.region ?_
              refine WL.val (dx_move rfl rfl) rfl rfl ?_
              refine WL.get (dx_cw rfl Try.func61 rfl rfl rfl (number_v s P ka dp W31 _ hL (.tail _ hPL) hs (by omega) hp)) rfl rfl ?_
              rintro _ W178 ⟨(⟨k164, n166, rfl, hw168, hw169, hw170, hw171, hw172, hp179⟩ | ⟨k165, e167, rfl, hw173, hw174, hw175, hp179⟩), g177⟩
              ·
                replace k3 := k3.chg g177 n6.symm
                replace hB := Chg.both hB g177
                replace hL := hL.chg g177
                refine WL.val (dx_extract rfl rfl rfl) rfl rfl ?_
                refine WL.val (dx_extract rfl rfl rfl) rfl rfl ?_
                refine WL.do (dx_store (cs' := [.int .i64 3, .int .i64 n166, .string ⟨#[]⟩, .slice none 0 0, .slice none 0 0]) (vs := [.int .i64 3, .int .i64 n166, .string ⟨#[]⟩, .slice none 0 0, .slice none 0 0]) rfl ty_size_26_5 rfl rfl rfl (oc_cons rfl (oc_cons rfl (oc_cons rfl (oc_cons rfl (oc_cons rfl oc_nil))))) k3 rfl (Nat.le_of_ble_eq_true rfl) rfl) rfl ?_
                rintro _ W180 ⟨k182, o181⟩
                replace hp179 := hp179.other o181 n6
                clear k3
                replace hB := Chg.only hB o181 (.inr l7)
                replace hL := LL.only hL o181
                refine WL.val (dx_assign rfl rfl) rfl rfl ?_
                refine WL.nil ?_
                refine hK150 ?_
                refine WC.ret fun a_ ha_ => ?_
                exact hQ (cw_ret2 rfl (.agg rfl ty_agg_26_5 k182.range rfl) (.tmp rfl) (.inl ⟨k164, leafT 3 n166 ⟨#[]⟩, rfl, (valB_c hc28 hc29).trans ((valC_n (by omega)).trans (numR_t hw168)), leaf_rd _ _ _ _ _ _, by first | omega | (simp only [ByteArray.size] at *; simp at *; omega), by omega, hp179⟩) hB ha_)
              ·
                replace k3 := k3.chg g177 n6.symm
                replace hB := Chg.both hB g177
                replace hL := hL.chg g177
                refine WL.val (dx_extract rfl rfl rfl) rfl rfl ?_
                refine WL.val (dx_extract rfl rfl rfl) rfl rfl ?_
                refine WL.do (dx_store (cs' := [.int .i64 0, .int .i64 0, .string ⟨#[]⟩, .slice none 0 0, .slice none 0 0]) (vs := [.int .i64 0, .int .i64 0, .string ⟨#[]⟩, .slice none 0 0, .slice none 0 0]) rfl ty_size_26_5 rfl rfl rfl (oc_cons rfl (oc_cons rfl (oc_cons rfl (oc_cons rfl (oc_cons rfl oc_nil))))) k3 rfl (Nat.le_of_ble_eq_true rfl) rfl) rfl ?_
                rintro _ W183 ⟨k185, o184⟩
                replace hp179 := hp179.other o184 n6
                clear k3
                replace hB := Chg.only hB o184 (.inr l7)
                replace hL := LL.only hL o184
                refine WL.val (dx_assign rfl rfl) rfl rfl ?_
                refine WL.nil ?_
                refine hK150 ?_
                refine WC.ret fun a_ ha_ => ?_
                exact hQ (cw_ret2 rfl (.agg rfl ty_agg_26_5 k185.range rfl) (.tmp rfl) (.inr ⟨k165, e167, rfl, hw173, (valB_c hc28 hc29).trans ((valC_n (by omega)).trans (numR_f hw174)), by omega, hp179⟩) hB ha_)
            ·
              replace c149 := of_decide_eq_false c149
              refine WC.seq fun K186 hK186 => ?_
              refine WC.region ?_
              refine WL.val (dx_move rfl rfl) rfl rfl ?_
              refine WL.val (dx_eql rfl rfl rfl) rfl rfl ?_
              refine WL.val (dx_assign rfl rfl) rfl rfl ?_
              refine WL.nil ?_
              refine hK186 ?_
              refine WC.cond rfl (fun c187 => ?_) (fun c187 => ?_)
              ·
                replace c187 := of_decide_eq_true c187
                refine WC.seq fun K188 hK188 => ?_
                refine WC.region ?_
                refine WL.val (dx_move rfl rfl) rfl rfl ?_
                refine WL.get (dx_cw rfl Try.func62 rfl rfl rfl (quoted_v s P ka dp W31 _ hL (.tail _ hPL) hs (by omega) hp (take_of (by rcases Nat.lt_or_ge ka s.size with h_ | h_; exact h_; (have := hc29 h_; omega)) (by have h_ : ka < s.size := (by rcases Nat.lt_or_ge ka s.size with h_ | h_; exact h_; (have := hc29 h_; omega)); have := hc28 h_; omega)))) rfl rfl ?_
                rintro _ W214 ⟨(⟨k201, l203, rfl, hw204, hw205, hw206, hw207, hw208, hp215⟩ | ⟨k202, rfl, hw209, hw210, hp215⟩), g213⟩
                ·
                  replace k3 := k3.chg g213 n6.symm
                  replace hB := Chg.both hB g213
                  replace hL := hL.chg g213
                  refine WL.val (dx_move rfl rfl) rfl rfl ?_
                  refine WL.val (dx_extract rfl rfl rfl) rfl rfl ?_
                  refine WL.val (dx_extract rfl rfl rfl) rfl rfl ?_
                  refine WL.val (dx_assign rfl rfl) rfl rfl ?_
                  refine WL.val (dx_assign rfl rfl) rfl rfl ?_
                  refine WL.nil ?_
                  refine hK188 ?_
                  refine WC.seq fun K216 hK216 => ?_
                  refine WC.seq fun K217 hK217 => ?_
                  refine WC.region ?_
                  refine WL.val (dx_move rfl rfl) rfl rfl ?_
                  refine WL.val (dx_neq rfl rfl rfl) rfl rfl ?_
                  refine WL.nil ?_
                  refine hK217 ?_
                  refine WC.condF rfl ?_
                  refine WC.skip ?_
                  refine hK216 ?_
                  refine WC.seq fun K218 hK218 => ?_
                  refine WC.region ?_
                  refine WL.val (dx_move rfl rfl) rfl rfl ?_
                  refine WL.val (dx_build rfl rfl (built_of_O (cs := [.int .i64 4, .int .i64 0, .string (strOfNums l203), .slice none 0 0, .slice none 0 0]) (by kernel_rfl) (oc_cons rfl (oc_cons rfl oc_nil)))) rfl rfl ?_
                  refine WL.do (dx_store (cs' := [.int .i64 4, .int .i64 0, .string (strOfNums l203), .slice none 0 0, .slice none 0 0]) (vs := [.int .i64 4, .int .i64 0, .string (strOfNums l203), .slice none 0 0, .slice none 0 0]) rfl ty_size_26_5 rfl rfl rfl (oc_cons rfl (oc_cons rfl (oc_cons rfl (oc_cons rfl (oc_cons rfl oc_nil))))) k3 rfl (Nat.le_of_ble_eq_true rfl) rfl) rfl ?_
                  rintro _ W219 ⟨k221, o220⟩
                  replace hp215 := hp215.other o220 n6
                  clear k3
                  replace hB := Chg.only hB o220 (.inr l7)
                  replace hL := LL.only hL o220
                  refine WL.val (dx_assign rfl rfl) rfl rfl ?_
                  refine WL.nil ?_
                  refine hK218 ?_
                  refine WC.ret fun a_ ha_ => ?_
                  exact hQ (cw_ret2 rfl (.agg rfl ty_agg_26_5 k221.range rfl) (.tmp rfl) (.inl ⟨k201, leafT 4 0 (strOfNums l203), rfl, (valB_c hc28 hc29).trans ((valC_q (by omega)).trans (quoR_t hw204)), leaf_rd _ _ _ _ _ _, by first | omega | (simp only [ByteArray.size] at *; simp at *; omega), by omega, hp215⟩) hB ha_)
                ·
                  replace k3 := k3.chg g213 n6.symm
                  replace hB := Chg.both hB g213
                  replace hL := hL.chg g213
                  refine WL.val (dx_move rfl rfl) rfl rfl ?_
                  refine WL.val (dx_extract rfl rfl rfl) rfl rfl ?_
                  refine WL.val (dx_extract rfl rfl rfl) rfl rfl ?_
                  refine WL.val (dx_assign rfl rfl) rfl rfl ?_
                  refine WL.val (dx_assign rfl rfl) rfl rfl ?_
                  refine WL.nil ?_
                  refine hK188 ?_
                  refine WC.seq fun K222 hK222 => ?_
                  refine WC.seq fun K223 hK223 => ?_
                  refine WC.region ?_
                  refine WL.val (dx_move rfl rfl) rfl rfl ?_
                  refine WL.val (dx_neq rfl rfl rfl) rfl rfl ?_
                  refine WL.nil ?_
                  refine hK223 ?_
                  refine WC.condT rfl ?_
                  refine WC.seq fun K224 hK224 => ?_
                  refine WC.region ?_
                  refine WL.val (dx_build rfl rfl (built_of_O (cs := [.int .i64 0, .int .i64 0, .string ⟨#[]⟩, .slice none 0 0, .slice none 0 0]) (by kernel_rfl) oc_nil)) rfl rfl ?_
                  refine WL.val (dx_move rfl rfl) rfl rfl ?_
                  refine WL.do (dx_store (cs' := [.int .i64 0, .int .i64 0, .string ⟨#[]⟩, .slice none 0 0, .slice none 0 0]) (vs := [.int .i64 0, .int .i64 0, .string ⟨#[]⟩, .slice none 0 0, .slice none 0 0]) rfl ty_size_26_5 rfl rfl rfl (oc_cons rfl (oc_cons rfl (oc_cons rfl (oc_cons rfl (oc_cons rfl oc_nil))))) k3 rfl (Nat.le_of_ble_eq_true rfl) rfl) rfl ?_
                  rintro _ W225 ⟨k227, o226⟩
                  replace hp215 := hp215.other o226 n6
                  clear k3
                  replace hB := Chg.only hB o226 (.inr l7)
                  replace hL := LL.only hL o226
                  refine WL.val (dx_assign rfl rfl) rfl rfl ?_
                  refine WL.nil ?_
                  refine hK224 ?_
                  refine WC.ret fun a_ ha_ => ?_
                  exact hQ (cw_ret2 rfl (.agg rfl ty_agg_26_5 k227.range rfl) (.tmp rfl) (.inr ⟨k202, 2, rfl, (by decide), (valB_c hc28 hc29).trans ((valC_q (by omega)).trans (quoR_f hw209)), by omega, hp215⟩) hB ha_)
              ·
                replace c187 := of_decide_eq_false c187
                refine WC.seq fun K228 hK228 => ?_
                refine WC.region ?_
                refine WL.val (dx_move rfl rfl) rfl rfl ?_
                refine WL.val (dx_eql rfl rfl rfl) rfl rfl ?_
                refine WL.val (dx_assign rfl rfl) rfl rfl ?_
                refine WL.nil ?_
                refine hK228 ?_
                refine WC.cond rfl (fun c229 => ?_) (fun c229 => ?_)
                ·
                  replace c229 := of_decide_eq_true c229
                  refine WC.seq fun K230 hK230 => ?_
                  refine WC.region ?_
                  refine WL.val (dx_move rfl rfl) rfl rfl ?_
                  refine WL.val (dx_move rfl rfl) rfl rfl ?_
                  refine WL.val (dx_funcP rfl rfl) rfl rfl ?_
                  refine WL.get (dx_cw rfl Try.func63 rfl rfl rfl (nested_v (.func (.func 64) #[.pointer (some ⟨P, 0, none⟩)] #[]) n rl s P ka dp W31 _ hL (.tail _ hPL) hs (by omega) hp hdp (fun h12 W_ L_ h1_ h2_ h3_ d_ h4_ h5_ => ⟨64, #[.pointer (some ⟨P, 0, none⟩)], #[], _, rfl, Try.func64, rfl, rfl, hl h12 (take_of (by rcases Nat.lt_or_ge ka s.size with h_ | h_; exact h_; (have := hc29 h_; omega)) (by have h_ : ka < s.size := (by rcases Nat.lt_or_ge ka s.size with h_ | h_; exact h_; (have := hc29 h_; omega)); have := hc28 h_; omega)) W_ L_ h1_ h2_ d_ h4_ h5_⟩))) rfl rfl ?_
                  rintro _ W258 ⟨(⟨k244, t246, rfl, hw248, hw249, hw250, hw251, hp259⟩ | ⟨k245, e247, rfl, hw252, hw253, hw254, hp259⟩), g257⟩
                  ·
                    replace k3 := k3.chg g257 n6.symm
                    replace hB := Chg.both hB g257
                    replace hL := hL.chg g257
                    refine WL.val (dx_extract rfl rfl rfl) rfl rfl ?_
                    refine WL.val (dx_extract rfl rfl rfl) rfl rfl ?_
                    refine WL.do (dx_store (cs' := [.int .i64 t246.kind, .int .i64 t246.num, .string t246.text, t246.nv, t246.iv]) (vs := [.int .i64 t246.kind, .int .i64 t246.num, .string t246.text, t246.nv, t246.iv]) rfl ty_size_26_5 rfl rfl rfl (oc_cons rfl (oc_cons rfl (oc_cons rfl (oc_cons (hw249.1).one (oc_cons (hw249.2.1).one oc_nil))))) k3 rfl (Nat.le_of_ble_eq_true rfl) rfl) rfl ?_
                    rintro _ W260 ⟨k262, o261⟩
                    replace hp259 := hp259.other o261 n6
                    clear k3
                    replace hw249 := hw249.only o261 (.head _)
                    replace hB := Chg.only hB o261 (.inr l7)
                    replace hL := LL.only hL o261
                    refine WL.val (dx_assign rfl rfl) rfl rfl ?_
                    refine WL.nil ?_
                    refine hK230 ?_
                    refine WC.ret fun a_ ha_ => ?_
                    exact hQ (cw_ret2 rfl (.agg rfl ty_agg_26_5 k262.range rfl) (.tmp rfl) (.inl ⟨k244, t246, rfl, (valB_c hc28 hc29).trans ((valC_l (by omega)).trans hw248), (hw249.less (fun x hx => (.tail _ hx))), by omega, by omega, hp259⟩) hB ha_)
                  ·
                    replace k3 := k3.chg g257 n6.symm
                    replace hB := Chg.both hB g257
                    replace hL := hL.chg g257
                    refine WL.val (dx_extract rfl rfl rfl) rfl rfl ?_
                    refine WL.val (dx_extract rfl rfl rfl) rfl rfl ?_
                    refine WL.do (dx_store (cs' := [.int .i64 0, .int .i64 0, .string ⟨#[]⟩, .slice none 0 0, .slice none 0 0]) (vs := [.int .i64 0, .int .i64 0, .string ⟨#[]⟩, .slice none 0 0, .slice none 0 0]) rfl ty_size_26_5 rfl rfl rfl (oc_cons rfl (oc_cons rfl (oc_cons rfl (oc_cons rfl (oc_cons rfl oc_nil))))) k3 rfl (Nat.le_of_ble_eq_true rfl) rfl) rfl ?_
                    rintro _ W263 ⟨k265, o264⟩
                    replace hp259 := hp259.other o264 n6
                    clear k3
                    replace hB := Chg.only hB o264 (.inr l7)
                    replace hL := LL.only hL o264
                    refine WL.val (dx_assign rfl rfl) rfl rfl ?_
                    refine WL.nil ?_
                    refine hK230 ?_
                    refine WC.ret fun a_ ha_ => ?_
                    exact hQ (cw_ret2 rfl (.agg rfl ty_agg_26_5 k265.range rfl) (.tmp rfl) (.inr ⟨k245, e247, rfl, hw252, (valB_c hc28 hc29).trans ((valC_l (by omega)).trans hw253), by omega, hp259⟩) hB ha_)
                ·
                  replace c229 := of_decide_eq_false c229
                  refine WC.seq fun K266 hK266 => ?_
                  refine WC.region ?_
                  refine WL.val (dx_move rfl rfl) rfl rfl ?_
                  refine WL.val (dx_eql rfl rfl rfl) rfl rfl ?_
                  refine WL.val (dx_assign rfl rfl) rfl rfl ?_
                  refine WL.nil ?_
                  refine hK266 ?_
                  refine WC.cond rfl (fun c267 => ?_) (fun c267 => ?_)
                  ·
                    replace c267 := of_decide_eq_true c267
                    refine WC.seq fun K268 hK268 => ?_
                    refine WC.region ?_
                    refine WL.val (dx_move rfl rfl) rfl rfl ?_
                    refine WL.val (dx_move rfl rfl) rfl rfl ?_
                    refine WL.val (dx_funcP rfl rfl) rfl rfl ?_
                    refine WL.get (dx_cw rfl Try.func63 rfl rfl rfl (nested_v (.func (.func 65) #[.pointer (some ⟨P, 0, none⟩)] #[]) n ro s P ka dp W31 _ hL (.tail _ hPL) hs (by omega) hp hdp (fun h12 W_ L_ h1_ h2_ h3_ d_ h4_ h5_ => ⟨65, #[.pointer (some ⟨P, 0, none⟩)], #[], _, rfl, Try.func65, rfl, rfl, ho h12 (take_of (by rcases Nat.lt_or_ge ka s.size with h_ | h_; exact h_; (have := hc29 h_; omega)) (by have h_ : ka < s.size := (by rcases Nat.lt_or_ge ka s.size with h_ | h_; exact h_; (have := hc29 h_; omega)); have := hc28 h_; omega)) W_ L_ h1_ h2_ d_ h4_ h5_⟩))) rfl rfl ?_
                    rintro _ W296 ⟨(⟨k282, t284, rfl, hw286, hw287, hw288, hw289, hp297⟩ | ⟨k283, e285, rfl, hw290, hw291, hw292, hp297⟩), g295⟩
                    ·
                      replace k3 := k3.chg g295 n6.symm
                      replace hB := Chg.both hB g295
                      replace hL := hL.chg g295
                      refine WL.val (dx_extract rfl rfl rfl) rfl rfl ?_
                      refine WL.val (dx_extract rfl rfl rfl) rfl rfl ?_
                      refine WL.do (dx_store (cs' := [.int .i64 t284.kind, .int .i64 t284.num, .string t284.text, t284.nv, t284.iv]) (vs := [.int .i64 t284.kind, .int .i64 t284.num, .string t284.text, t284.nv, t284.iv]) rfl ty_size_26_5 rfl rfl rfl (oc_cons rfl (oc_cons rfl (oc_cons rfl (oc_cons (hw287.1).one (oc_cons (hw287.2.1).one oc_nil))))) k3 rfl (Nat.le_of_ble_eq_true rfl) rfl) rfl ?_
                      rintro _ W298 ⟨k300, o299⟩
                      replace hp297 := hp297.other o299 n6
                      clear k3
                      replace hw287 := hw287.only o299 (.head _)
                      replace hB := Chg.only hB o299 (.inr l7)
                      replace hL := LL.only hL o299
                      refine WL.val (dx_assign rfl rfl) rfl rfl ?_
                      refine WL.nil ?_
                      refine hK268 ?_
                      refine WC.ret fun a_ ha_ => ?_
                      exact hQ (cw_ret2 rfl (.agg rfl ty_agg_26_5 k300.range rfl) (.tmp rfl) (.inl ⟨k282, t284, rfl, (valB_c hc28 hc29).trans ((valC_o (by omega)).trans hw286), (hw287.less (fun x hx => (.tail _ hx))), by omega, by omega, hp297⟩) hB ha_)
                    ·
                      replace k3 := k3.chg g295 n6.symm
                      replace hB := Chg.both hB g295
                      replace hL := hL.chg g295
                      refine WL.val (dx_extract rfl rfl rfl) rfl rfl ?_
                      refine WL.val (dx_extract rfl rfl rfl) rfl rfl ?_
                      refine WL.do (dx_store (cs' := [.int .i64 0, .int .i64 0, .string ⟨#[]⟩, .slice none 0 0, .slice none 0 0]) (vs := [.int .i64 0, .int .i64 0, .string ⟨#[]⟩, .slice none 0 0, .slice none 0 0]) rfl ty_size_26_5 rfl rfl rfl (oc_cons rfl (oc_cons rfl (oc_cons rfl (oc_cons rfl (oc_cons rfl oc_nil))))) k3 rfl (Nat.le_of_ble_eq_true rfl) rfl) rfl ?_
                      rintro _ W301 ⟨k303, o302⟩
                      replace hp297 := hp297.other o302 n6
                      clear k3
                      replace hB := Chg.only hB o302 (.inr l7)
                      replace hL := LL.only hL o302
                      refine WL.val (dx_assign rfl rfl) rfl rfl ?_
                      refine WL.nil ?_
                      refine hK268 ?_
                      refine WC.ret fun a_ ha_ => ?_
                      exact hQ (cw_ret2 rfl (.agg rfl ty_agg_26_5 k303.range rfl) (.tmp rfl) (.inr ⟨k283, e285, rfl, hw290, (valB_c hc28 hc29).trans ((valC_o (by omega)).trans hw291), by omega, hp297⟩) hB ha_)
                  ·
                    replace c267 := of_decide_eq_false c267
                    refine WC.skip ?_
                    refine hK8 ?_
                    refine WC.seq fun K304 hK304 => ?_
                    refine WC.region ?_
                    refine WL.val (dx_build rfl rfl (built_of_O (cs := [.int .i64 0, .int .i64 0, .string ⟨#[]⟩, .slice none 0 0, .slice none 0 0]) (by kernel_rfl) oc_nil)) rfl rfl ?_
                    refine WL.do (dx_store (cs' := [.int .i64 0, .int .i64 0, .string ⟨#[]⟩, .slice none 0 0, .slice none 0 0]) (vs := [.int .i64 0, .int .i64 0, .string ⟨#[]⟩, .slice none 0 0, .slice none 0 0]) rfl ty_size_26_5 rfl rfl rfl (oc_cons rfl (oc_cons rfl (oc_cons rfl (oc_cons rfl (oc_cons rfl oc_nil))))) k3 rfl (Nat.le_of_ble_eq_true rfl) rfl) rfl ?_
                    rintro _ W305 ⟨k307, o306⟩
                    replace hp := hp.other o306 n6
                    clear k3
                    replace hB := Chg.only hB o306 (.inr l7)
                    replace hL := LL.only hL o306
                    refine WL.val (dx_assign rfl rfl) rfl rfl ?_
                    refine WL.nil ?_
                    refine hK304 ?_
                    refine WC.ret fun a_ ha_ => ?_
                    exact hQ (cw_ret2 rfl (.agg rfl ty_agg_26_5 k307.range rfl) (.tmp rfl) (.inr ⟨ka, 2, rfl, by decide, (valB_c hc28 hc29).trans (valC_0 (by omega) (by omega) (by omega) (by omega) (by first | omega | simp_all) (by omega) (by omega) (by omega)), by omega, hp⟩) hB ha_)
          ·
            replace g148 := of_decide_eq_false g148
            refine WL.off rfl rfl rfl ?_
            refine WL.off rfl rfl rfl ?_
            refine WL.val (dx_pick rfl rfl rfl) rfl rfl ?_
            refine WL.val (dx_pick rfl rfl rfl) rfl rfl ?_
            refine WL.val (dx_assign rfl rfl) rfl rfl ?_
            refine WL.nil ?_
            refine hK110 ?_
            refine WC.condF rfl ?_
            refine WC.seq fun K308 hK308 => ?_
            refine WC.region ?_
            refine WL.val (dx_move rfl rfl) rfl rfl ?_
            refine WL.val (dx_eql rfl rfl rfl) rfl rfl ?_
            refine WL.val (dx_assign rfl rfl) rfl rfl ?_
            refine WL.nil ?_
            refine hK308 ?_
            refine WC.cond rfl (fun c309 => ?_) (fun c309 => ?_)
            ·
              replace c309 := of_decide_eq_true c309
              refine WC.seq fun K310 hK310 => ?_
              refine WC.region ?_
              refine WL.val (dx_move rfl rfl) rfl rfl ?_
              refine WL.get (dx_cw rfl Try.func62 rfl rfl rfl (quoted_v s P ka dp W31 _ hL (.tail _ hPL) hs (by omega) hp (take_of (by rcases Nat.lt_or_ge ka s.size with h_ | h_; exact h_; (have := hc29 h_; omega)) (by have h_ : ka < s.size := (by rcases Nat.lt_or_ge ka s.size with h_ | h_; exact h_; (have := hc29 h_; omega)); have := hc28 h_; omega)))) rfl rfl ?_
              rintro _ W336 ⟨(⟨k323, l325, rfl, hw326, hw327, hw328, hw329, hw330, hp337⟩ | ⟨k324, rfl, hw331, hw332, hp337⟩), g335⟩
              ·
                replace k3 := k3.chg g335 n6.symm
                replace hB := Chg.both hB g335
                replace hL := hL.chg g335
                refine WL.val (dx_move rfl rfl) rfl rfl ?_
                refine WL.val (dx_extract rfl rfl rfl) rfl rfl ?_
                refine WL.val (dx_extract rfl rfl rfl) rfl rfl ?_
                refine WL.val (dx_assign rfl rfl) rfl rfl ?_
                refine WL.val (dx_assign rfl rfl) rfl rfl ?_
                refine WL.nil ?_
                refine hK310 ?_
                refine WC.seq fun K338 hK338 => ?_
                refine WC.seq fun K339 hK339 => ?_
                refine WC.region ?_
                refine WL.val (dx_move rfl rfl) rfl rfl ?_
                refine WL.val (dx_neq rfl rfl rfl) rfl rfl ?_
                refine WL.nil ?_
                refine hK339 ?_
                refine WC.condF rfl ?_
                refine WC.skip ?_
                refine hK338 ?_
                refine WC.seq fun K340 hK340 => ?_
                refine WC.region ?_
                refine WL.val (dx_move rfl rfl) rfl rfl ?_
                refine WL.val (dx_build rfl rfl (built_of_O (cs := [.int .i64 4, .int .i64 0, .string (strOfNums l325), .slice none 0 0, .slice none 0 0]) (by kernel_rfl) (oc_cons rfl (oc_cons rfl oc_nil)))) rfl rfl ?_
                refine WL.do (dx_store (cs' := [.int .i64 4, .int .i64 0, .string (strOfNums l325), .slice none 0 0, .slice none 0 0]) (vs := [.int .i64 4, .int .i64 0, .string (strOfNums l325), .slice none 0 0, .slice none 0 0]) rfl ty_size_26_5 rfl rfl rfl (oc_cons rfl (oc_cons rfl (oc_cons rfl (oc_cons rfl (oc_cons rfl oc_nil))))) k3 rfl (Nat.le_of_ble_eq_true rfl) rfl) rfl ?_
                rintro _ W341 ⟨k343, o342⟩
                replace hp337 := hp337.other o342 n6
                clear k3
                replace hB := Chg.only hB o342 (.inr l7)
                replace hL := LL.only hL o342
                refine WL.val (dx_assign rfl rfl) rfl rfl ?_
                refine WL.nil ?_
                refine hK340 ?_
                refine WC.ret fun a_ ha_ => ?_
                exact hQ (cw_ret2 rfl (.agg rfl ty_agg_26_5 k343.range rfl) (.tmp rfl) (.inl ⟨k323, leafT 4 0 (strOfNums l325), rfl, (valB_c hc28 hc29).trans ((valC_q (by omega)).trans (quoR_t hw326)), leaf_rd _ _ _ _ _ _, by first | omega | (simp only [ByteArray.size] at *; simp at *; omega), by omega, hp337⟩) hB ha_)
              ·
                replace k3 := k3.chg g335 n6.symm
                replace hB := Chg.both hB g335
                replace hL := hL.chg g335
                refine WL.val (dx_move rfl rfl) rfl rfl ?_
                refine WL.val (dx_extract rfl rfl rfl) rfl rfl ?_
                refine WL.val (dx_extract rfl rfl rfl) rfl rfl ?_
                refine WL.val (dx_assign rfl rfl) rfl rfl ?_
                refine WL.val (dx_assign rfl rfl) rfl rfl ?_
                refine WL.nil ?_
                refine hK310 ?_
                refine WC.seq fun K344 hK344 => ?_
                refine WC.seq fun K345 hK345 => ?_
                refine WC.region ?_
                refine WL.val (dx_move rfl rfl) rfl rfl ?_
                refine WL.val (dx_neq rfl rfl rfl) rfl rfl ?_
                refine WL.nil ?_
                refine hK345 ?_
                refine WC.condT rfl ?_
                refine WC.seq fun K346 hK346 => ?_
                refine WC.region ?_
                refine WL.val (dx_build rfl rfl (built_of_O (cs := [.int .i64 0, .int .i64 0, .string ⟨#[]⟩, .slice none 0 0, .slice none 0 0]) (by kernel_rfl) oc_nil)) rfl rfl ?_
                refine WL.val (dx_move rfl rfl) rfl rfl ?_
                refine WL.do (dx_store (cs' := [.int .i64 0, .int .i64 0, .string ⟨#[]⟩, .slice none 0 0, .slice none 0 0]) (vs := [.int .i64 0, .int .i64 0, .string ⟨#[]⟩, .slice none 0 0, .slice none 0 0]) rfl ty_size_26_5 rfl rfl rfl (oc_cons rfl (oc_cons rfl (oc_cons rfl (oc_cons rfl (oc_cons rfl oc_nil))))) k3 rfl (Nat.le_of_ble_eq_true rfl) rfl) rfl ?_
                rintro _ W347 ⟨k349, o348⟩
                replace hp337 := hp337.other o348 n6
                clear k3
                replace hB := Chg.only hB o348 (.inr l7)
                replace hL := LL.only hL o348
                refine WL.val (dx_assign rfl rfl) rfl rfl ?_
                refine WL.nil ?_
                refine hK346 ?_
                refine WC.ret fun a_ ha_ => ?_
                exact hQ (cw_ret2 rfl (.agg rfl ty_agg_26_5 k349.range rfl) (.tmp rfl) (.inr ⟨k324, 2, rfl, (by decide), (valB_c hc28 hc29).trans ((valC_q (by omega)).trans (quoR_f hw331)), by omega, hp337⟩) hB ha_)
            ·
              replace c309 := of_decide_eq_false c309
              refine WC.seq fun K350 hK350 => ?_
              refine WC.region ?_
              refine WL.val (dx_move rfl rfl) rfl rfl ?_
              refine WL.val (dx_eql rfl rfl rfl) rfl rfl ?_
              refine WL.val (dx_assign rfl rfl) rfl rfl ?_
              refine WL.nil ?_
              refine hK350 ?_
              refine WC.cond rfl (fun c351 => ?_) (fun c351 => ?_)
              ·
                replace c351 := of_decide_eq_true c351
                refine WC.seq fun K352 hK352 => ?_
                refine WC.region ?_
                refine WL.val (dx_move rfl rfl) rfl rfl ?_
                refine WL.val (dx_move rfl rfl) rfl rfl ?_
                refine WL.val (dx_funcP rfl rfl) rfl rfl ?_
                refine WL.get (dx_cw rfl Try.func63 rfl rfl rfl (nested_v (.func (.func 64) #[.pointer (some ⟨P, 0, none⟩)] #[]) n rl s P ka dp W31 _ hL (.tail _ hPL) hs (by omega) hp hdp (fun h12 W_ L_ h1_ h2_ h3_ d_ h4_ h5_ => ⟨64, #[.pointer (some ⟨P, 0, none⟩)], #[], _, rfl, Try.func64, rfl, rfl, hl h12 (take_of (by rcases Nat.lt_or_ge ka s.size with h_ | h_; exact h_; (have := hc29 h_; omega)) (by have h_ : ka < s.size := (by rcases Nat.lt_or_ge ka s.size with h_ | h_; exact h_; (have := hc29 h_; omega)); have := hc28 h_; omega)) W_ L_ h1_ h2_ d_ h4_ h5_⟩))) rfl rfl ?_
                rintro _ W380 ⟨(⟨k366, t368, rfl, hw370, hw371, hw372, hw373, hp381⟩ | ⟨k367, e369, rfl, hw374, hw375, hw376, hp381⟩), g379⟩
                ·
                  replace k3 := k3.chg g379 n6.symm
                  replace hB := Chg.both hB g379
                  replace hL := hL.chg g379
                  refine WL.val (dx_extract rfl rfl rfl) rfl rfl ?_
                  refine WL.val (dx_extract rfl rfl rfl) rfl rfl ?_
                  refine WL.do (dx_store (cs' := [.int .i64 t368.kind, .int .i64 t368.num, .string t368.text, t368.nv, t368.iv]) (vs := [.int .i64 t368.kind, .int .i64 t368.num, .string t368.text, t368.nv, t368.iv]) rfl ty_size_26_5 rfl rfl rfl (oc_cons rfl (oc_cons rfl (oc_cons rfl (oc_cons (hw371.1).one (oc_cons (hw371.2.1).one oc_nil))))) k3 rfl (Nat.le_of_ble_eq_true rfl) rfl) rfl ?_
                  rintro _ W382 ⟨k384, o383⟩
                  replace hp381 := hp381.other o383 n6
                  clear k3
                  replace hw371 := hw371.only o383 (.head _)
                  replace hB := Chg.only hB o383 (.inr l7)
                  replace hL := LL.only hL o383
                  refine WL.val (dx_assign rfl rfl) rfl rfl ?_
                  refine WL.nil ?_
                  refine hK352 ?_
                  refine WC.ret fun a_ ha_ => ?_
                  exact hQ (cw_ret2 rfl (.agg rfl ty_agg_26_5 k384.range rfl) (.tmp rfl) (.inl ⟨k366, t368, rfl, (valB_c hc28 hc29).trans ((valC_l (by omega)).trans hw370), (hw371.less (fun x hx => (.tail _ hx))), by omega, by omega, hp381⟩) hB ha_)
                ·
                  replace k3 := k3.chg g379 n6.symm
                  replace hB := Chg.both hB g379
                  replace hL := hL.chg g379
                  refine WL.val (dx_extract rfl rfl rfl) rfl rfl ?_
                  refine WL.val (dx_extract rfl rfl rfl) rfl rfl ?_
                  refine WL.do (dx_store (cs' := [.int .i64 0, .int .i64 0, .string ⟨#[]⟩, .slice none 0 0, .slice none 0 0]) (vs := [.int .i64 0, .int .i64 0, .string ⟨#[]⟩, .slice none 0 0, .slice none 0 0]) rfl ty_size_26_5 rfl rfl rfl (oc_cons rfl (oc_cons rfl (oc_cons rfl (oc_cons rfl (oc_cons rfl oc_nil))))) k3 rfl (Nat.le_of_ble_eq_true rfl) rfl) rfl ?_
                  rintro _ W385 ⟨k387, o386⟩
                  replace hp381 := hp381.other o386 n6
                  clear k3
                  replace hB := Chg.only hB o386 (.inr l7)
                  replace hL := LL.only hL o386
                  refine WL.val (dx_assign rfl rfl) rfl rfl ?_
                  refine WL.nil ?_
                  refine hK352 ?_
                  refine WC.ret fun a_ ha_ => ?_
                  exact hQ (cw_ret2 rfl (.agg rfl ty_agg_26_5 k387.range rfl) (.tmp rfl) (.inr ⟨k367, e369, rfl, hw374, (valB_c hc28 hc29).trans ((valC_l (by omega)).trans hw375), by omega, hp381⟩) hB ha_)
              ·
                replace c351 := of_decide_eq_false c351
                refine WC.seq fun K388 hK388 => ?_
                refine WC.region ?_
                refine WL.val (dx_move rfl rfl) rfl rfl ?_
                refine WL.val (dx_eql rfl rfl rfl) rfl rfl ?_
                refine WL.val (dx_assign rfl rfl) rfl rfl ?_
                refine WL.nil ?_
                refine hK388 ?_
                refine WC.cond rfl (fun c389 => ?_) (fun c389 => ?_)
                ·
                  replace c389 := of_decide_eq_true c389
                  refine WC.seq fun K390 hK390 => ?_
                  refine WC.region ?_
                  refine WL.val (dx_move rfl rfl) rfl rfl ?_
                  refine WL.val (dx_move rfl rfl) rfl rfl ?_
                  refine WL.val (dx_funcP rfl rfl) rfl rfl ?_
                  refine WL.get (dx_cw rfl Try.func63 rfl rfl rfl (nested_v (.func (.func 65) #[.pointer (some ⟨P, 0, none⟩)] #[]) n ro s P ka dp W31 _ hL (.tail _ hPL) hs (by omega) hp hdp (fun h12 W_ L_ h1_ h2_ h3_ d_ h4_ h5_ => ⟨65, #[.pointer (some ⟨P, 0, none⟩)], #[], _, rfl, Try.func65, rfl, rfl, ho h12 (take_of (by rcases Nat.lt_or_ge ka s.size with h_ | h_; exact h_; (have := hc29 h_; omega)) (by have h_ : ka < s.size := (by rcases Nat.lt_or_ge ka s.size with h_ | h_; exact h_; (have := hc29 h_; omega)); have := hc28 h_; omega)) W_ L_ h1_ h2_ d_ h4_ h5_⟩))) rfl rfl ?_
                  rintro _ W418 ⟨(⟨k404, t406, rfl, hw408, hw409, hw410, hw411, hp419⟩ | ⟨k405, e407, rfl, hw412, hw413, hw414, hp419⟩), g417⟩
                  ·
                    replace k3 := k3.chg g417 n6.symm
                    replace hB := Chg.both hB g417
                    replace hL := hL.chg g417
                    refine WL.val (dx_extract rfl rfl rfl) rfl rfl ?_
                    refine WL.val (dx_extract rfl rfl rfl) rfl rfl ?_
                    refine WL.do (dx_store (cs' := [.int .i64 t406.kind, .int .i64 t406.num, .string t406.text, t406.nv, t406.iv]) (vs := [.int .i64 t406.kind, .int .i64 t406.num, .string t406.text, t406.nv, t406.iv]) rfl ty_size_26_5 rfl rfl rfl (oc_cons rfl (oc_cons rfl (oc_cons rfl (oc_cons (hw409.1).one (oc_cons (hw409.2.1).one oc_nil))))) k3 rfl (Nat.le_of_ble_eq_true rfl) rfl) rfl ?_
                    rintro _ W420 ⟨k422, o421⟩
                    replace hp419 := hp419.other o421 n6
                    clear k3
                    replace hw409 := hw409.only o421 (.head _)
                    replace hB := Chg.only hB o421 (.inr l7)
                    replace hL := LL.only hL o421
                    refine WL.val (dx_assign rfl rfl) rfl rfl ?_
                    refine WL.nil ?_
                    refine hK390 ?_
                    refine WC.ret fun a_ ha_ => ?_
                    exact hQ (cw_ret2 rfl (.agg rfl ty_agg_26_5 k422.range rfl) (.tmp rfl) (.inl ⟨k404, t406, rfl, (valB_c hc28 hc29).trans ((valC_o (by omega)).trans hw408), (hw409.less (fun x hx => (.tail _ hx))), by omega, by omega, hp419⟩) hB ha_)
                  ·
                    replace k3 := k3.chg g417 n6.symm
                    replace hB := Chg.both hB g417
                    replace hL := hL.chg g417
                    refine WL.val (dx_extract rfl rfl rfl) rfl rfl ?_
                    refine WL.val (dx_extract rfl rfl rfl) rfl rfl ?_
                    refine WL.do (dx_store (cs' := [.int .i64 0, .int .i64 0, .string ⟨#[]⟩, .slice none 0 0, .slice none 0 0]) (vs := [.int .i64 0, .int .i64 0, .string ⟨#[]⟩, .slice none 0 0, .slice none 0 0]) rfl ty_size_26_5 rfl rfl rfl (oc_cons rfl (oc_cons rfl (oc_cons rfl (oc_cons rfl (oc_cons rfl oc_nil))))) k3 rfl (Nat.le_of_ble_eq_true rfl) rfl) rfl ?_
                    rintro _ W423 ⟨k425, o424⟩
                    replace hp419 := hp419.other o424 n6
                    clear k3
                    replace hB := Chg.only hB o424 (.inr l7)
                    replace hL := LL.only hL o424
                    refine WL.val (dx_assign rfl rfl) rfl rfl ?_
                    refine WL.nil ?_
                    refine hK390 ?_
                    refine WC.ret fun a_ ha_ => ?_
                    exact hQ (cw_ret2 rfl (.agg rfl ty_agg_26_5 k425.range rfl) (.tmp rfl) (.inr ⟨k405, e407, rfl, hw412, (valB_c hc28 hc29).trans ((valC_o (by omega)).trans hw413), by omega, hp419⟩) hB ha_)
                ·
                  replace c389 := of_decide_eq_false c389
                  refine WC.skip ?_
                  refine hK8 ?_
                  refine WC.seq fun K426 hK426 => ?_
                  refine WC.region ?_
                  refine WL.val (dx_build rfl rfl (built_of_O (cs := [.int .i64 0, .int .i64 0, .string ⟨#[]⟩, .slice none 0 0, .slice none 0 0]) (by kernel_rfl) oc_nil)) rfl rfl ?_
                  refine WL.do (dx_store (cs' := [.int .i64 0, .int .i64 0, .string ⟨#[]⟩, .slice none 0 0, .slice none 0 0]) (vs := [.int .i64 0, .int .i64 0, .string ⟨#[]⟩, .slice none 0 0, .slice none 0 0]) rfl ty_size_26_5 rfl rfl rfl (oc_cons rfl (oc_cons rfl (oc_cons rfl (oc_cons rfl (oc_cons rfl oc_nil))))) k3 rfl (Nat.le_of_ble_eq_true rfl) rfl) rfl ?_
                  rintro _ W427 ⟨k429, o428⟩
                  replace hp := hp.other o428 n6
                  clear k3
                  replace hB := Chg.only hB o428 (.inr l7)
                  replace hL := LL.only hL o428
                  refine WL.val (dx_assign rfl rfl) rfl rfl ?_
                  refine WL.nil ?_
                  refine hK426 ?_
                  refine WC.ret fun a_ ha_ => ?_
                  exact hQ (cw_ret2 rfl (.agg rfl ty_agg_26_5 k429.range rfl) (.tmp rfl) (.inr ⟨ka, 2, rfl, by decide, (valB_c hc28 hc29).trans (valC_0 (by omega) (by omega) (by omega) (by omega) (by first | omega | simp_all) (by omega) (by omega) (by omega)), by omega, hp⟩) hB ha_)

end Go.Proofs.Ytpinidlfcifeeaa
namespace Go.Proofs.Ytpinidlfcifeeaa
open Go.RowKit
set_option linter.unusedVariables false
set_option linter.unusedSimpArgs false
set_option maxRecDepth 8000

def parS (s : ByteArray) (vs : Nat → Except Int (Js × Nat)) : Except Int Js :=
  if 8192 < s.size then .error 3 else if upB s = false then .error 2 else match vs (blankS s 0) with
    | .error e => .error e
    | .ok (j, k) => if s.size ≤ blankS s k then .ok j else .error 2
section
variable {s : ByteArray} {vs : Nat → Except Int (Js × Nat)} {e : Int} {j : Js} {k0 k k1 k2 : Nat}
theorem parS_l (h : 8192 < s.size) : parS s vs = .error 3 := by unfold parS; rw [if_pos h]
theorem parS_u (h : ¬ 8192 < s.size) (u : upB s = false) : parS s vs = .error 2 := by unfold parS; rw [if_neg h, if_pos u]
theorem parS_e (h : ¬ 8192 < s.size) (u : upB s = true) (h0 : k0 = 0) (e1 : k1 = blankS s k0) (hv : vs k1 = .error e) : parS s vs = .error e := by subst e1 h0; unfold parS; rw [if_neg h, if_neg (by rw [u]; decide), hv]
theorem parS_t (h : ¬ 8192 < s.size) (u : upB s = true) (h0 : k0 = 0) (e1 : k1 = blankS s k0) (hv : vs k1 = .ok (j, k)) (e2 : k2 = blankS s k) (h2 : s.size ≤ k2) : parS s vs = .ok j := by subst e2 e1 h0; unfold parS; rw [if_neg h, if_neg (by rw [u]; decide), hv]; dsimp only; rw [if_pos h2]
theorem parS_f (h : ¬ 8192 < s.size) (u : upB s = true) (h0 : k0 = 0) (e1 : k1 = blankS s k0) (hv : vs k1 = .ok (j, k)) (e2 : k2 = blankS s k) (h2 : ¬ s.size ≤ k2) : parS s vs = .error 2 := by subst e2 e1 h0; unfold parS; rw [if_neg h, if_neg (by rw [u]; decide), hv]; dsimp only; rw [if_neg h2]
end
theorem Below.thenChg {B : Nat} {w W W' : World} (hle : w.heap.size ≤ B) (h : Below w.heap.size w W) (g : Chg B W W') : Below w.heap.size w W' := ⟨g.os.trans h.os, g.tape.trans h.tape, g.output.trans h.output, Nat.le_trans h.size g.size, fun k hk => (g.block k (Nat.lt_of_lt_of_le hk h.size) (by omega)).trans (h.block k hk)⟩
theorem bld_53 (a : ByteArray) : Try.prog.built 53 [(0, .string a)] = some [.string a, .int .i64 0].toArray := by kernel_rfl
theorem bld_55 (a : ByteArray) (b : Int) : Try.prog.built 55 [(0, .agg #[.string a, .int .i64 b])] = some [.string a, .int .i64 b, .int .i64 0].toArray := by kernel_rfl
abbrev ValAt (n : Nat) (vs : Nat → Except Int (Js × Nat)) (s : ByteArray) (dp : Nat) : Prop := ∀ (P ka : Nat) (w : World) (L : List Nat), LL L w → P ∈ L → ka ≤ s.size → Blk w P (psC s ka dp) → CW Try.prog 34 [.pointer (some ⟨P, 0, none⟩)] w P fun v W => (∃ k' t, v = .tuple #[.agg #[.int .i64 t.kind, .int .i64 t.num, .string t.text, t.nv, t.iv], .int .i64 0] ∧ vs ka = .ok (t.er, k') ∧ RdT n L W t ∧ ka < k' ∧ k' ≤ s.size ∧ Blk W P (psC s k' dp)) ∨ (∃ k' e, v = .tuple #[.agg #[.int .i64 0, .int .i64 0, .string ⟨#[]⟩, .slice none 0 0, .slice none 0 0], .int .i64 e] ∧ e ≠ 0 ∧ vs ka = .error e ∧ k' ≤ s.size ∧ Blk W P (psC s k' dp))
set_option maxHeartbeats 1000000 in
theorem parse_v (n : Nat) (vs : Nat → Except Int (Js × Nat)) (s : ByteArray) (w : World) (L : List Nat) (hL : LL L w)   (hv : s.size ≤ 8192 → ∀ dq, dq = 0 → ValAt (n + 1) vs s dq) : CV Try.prog 12 [.string s] w fun v W => (∃ t, v = .tuple #[.agg #[.int .i64 t.kind, .int .i64 t.num, .string t.text, t.nv, t.iv], .int .i64 0] ∧ parS s vs = .ok t.er ∧ RdT (n + 1) L W t) ∨ (∃ e, v = .tuple #[.agg #[.int .i64 0, .int .i64 0, .string ⟨#[]⟩, .slice none 0 0, .slice none 0 0], .int .i64 e] ∧ e ≠ 0 ∧ parS s vs = .error e) := by
  refine cv_enter (N := 44) (f := [(0, .string s)]) Try.func12 rfl rfl rfl rfl fun Q hQ hE => ?_
  have hB := Below.refl w.heap.size w
  refine WC.seq fun K1 hK1 => ?_
  refine WC.region ?_
  refine WL.get (dx_alloc rfl ty_zero_26 rfl) rfl rfl ?_
  rintro _ W2 ⟨rfl, k3, b4, z5⟩
  have l6 := hB.size
  replace hB := below_then hB b4
  replace hL := LL.more hL z5
  refine WL.val (dx_assign rfl rfl) rfl rfl ?_
  refine WL.nil ?_
  refine hK1 ?_
  refine WC.seq fun K7 hK7 => ?_
  refine WC.seq fun K8 hK8 => ?_
  refine WC.region ?_
  refine WL.val (dx_move rfl rfl) rfl rfl ?_
  refine WL.val (dx_lenT rfl Try.underlying9 rfl) rfl rfl ?_
  refine WL.val (dx_gtr rfl rfl rfl) rfl rfl ?_
  refine WL.nil ?_
  refine hK8 ?_
  refine WC.cond rfl (fun c9 => ?_) (fun c9 => ?_)
  ·
    replace c9 := of_decide_eq_true c9
    refine WC.seq fun K10 hK10 => ?_
    refine WC.region ?_
    refine WL.val (dx_build rfl rfl (built_of_O (cs := [.int .i64 0, .int .i64 0, .string ⟨#[]⟩, .slice none 0 0, .slice none 0 0]) (by kernel_rfl) oc_nil)) rfl rfl ?_
    refine WL.do (dx_store (cs' := [.int .i64 0, .int .i64 0, .string ⟨#[]⟩, .slice none 0 0, .slice none 0 0]) (vs := [.int .i64 0, .int .i64 0, .string ⟨#[]⟩, .slice none 0 0, .slice none 0 0]) rfl ty_size_26_5 rfl rfl rfl (oc_cons rfl (oc_cons rfl (oc_cons rfl (oc_cons rfl (oc_cons rfl oc_nil))))) k3 rfl (Nat.le_of_ble_eq_true rfl) rfl) rfl ?_
    rintro _ W11 ⟨k13, o12⟩
    clear k3
    replace hB := o12.below hB l6
    replace hL := LL.only hL o12
    refine WL.val (dx_assign rfl rfl) rfl rfl ?_
    refine WL.nil ?_
    refine hK10 ?_
    refine WC.ret fun a_ ha_ => ?_
    exact hQ (cv_ret2 rfl (.agg rfl ty_agg_26_5 k13.range rfl) (.tmp rfl) (.inr ⟨3, rfl, by decide, parS_l (by omega)⟩) hB ha_)
  ·
    replace c9 := of_decide_eq_false c9
    refine WC.skip ?_
    refine hK7 ?_
    refine WC.seq fun K14 hK14 => ?_
    refine WC.seq fun K15 hK15 => ?_
    have hs : s.size ≤ 1000000 := by omega
    refine WC.region ?_
    refine WL.val (dx_move rfl rfl) rfl rfl ?_
    refine WL.get (dx_sb (L := w.heap.size :: L) rfl Try.underlying9 Try.underlying50 Try.underlying5 rfl hL (by unfold maxLen; omega)) rfl rfl ?_
    rintro u16 W17 ⟨k18, b19⟩
    replace k3 := k3.below b19
    replace hB := below_then hB b19
    replace hL := LL.below hL b19
    refine WL.get (dx_cv rfl Try.func32 rfl rfl rfl ((show CV _ _ [_] _ (fun v _ => v = .bool (upB s)) from cv_oldB (right_any u16 (sb s) W17 (rdI_of k18) (sb_bytes _) (by rw [sb_length]; omega))))) rfl rfl ?_
    rintro _ W21 ⟨rfl, b20⟩
    replace k18 := k18.below b20
    replace k3 := k3.below b20
    replace hB := below_then hB b20
    replace hL := LL.below hL b20
    refine WL.val (dx_not rfl rfl) rfl rfl ?_
    refine WL.nil ?_
    refine hK15 ?_
    refine WC.cond rfl (fun c22 => ?_) (fun c22 => ?_)
    ·
      replace c22 := bnot_t c22
      refine WC.seq fun K23 hK23 => ?_
      refine WC.region ?_
      refine WL.val (dx_build rfl rfl (built_of_O (cs := [.int .i64 0, .int .i64 0, .string ⟨#[]⟩, .slice none 0 0, .slice none 0 0]) (by kernel_rfl) oc_nil)) rfl rfl ?_
      refine WL.do (dx_store (cs' := [.int .i64 0, .int .i64 0, .string ⟨#[]⟩, .slice none 0 0, .slice none 0 0]) (vs := [.int .i64 0, .int .i64 0, .string ⟨#[]⟩, .slice none 0 0, .slice none 0 0]) rfl ty_size_26_5 rfl rfl rfl (oc_cons rfl (oc_cons rfl (oc_cons rfl (oc_cons rfl (oc_cons rfl oc_nil))))) k3 rfl (Nat.le_of_ble_eq_true rfl) rfl) rfl ?_
      rintro _ W24 ⟨k26, o25⟩
      clear k3
      replace k18 := k18.only o25 (.head _)
      replace hB := o25.below hB l6
      replace hL := LL.only hL o25
      refine WL.val (dx_assign rfl rfl) rfl rfl ?_
      refine WL.nil ?_
      refine hK23 ?_
      refine WC.ret fun a_ ha_ => ?_
      exact hQ (cv_ret2 rfl (.agg rfl ty_agg_26_5 k26.range rfl) (.tmp rfl) (.inr ⟨2, rfl, by decide, (by first | exact parS_u (by omega) (by assumption) | (apply parS_f (k0 := k0) <;> first | assumption | omega; done))⟩) hB ha_)
    ·
      replace c22 := bnot_f c22
      refine WC.skip ?_
      refine hK14 ?_
      refine WC.seq fun K27 hK27 => ?_
      refine WC.region ?_
      refine WL.val (dx_move rfl rfl) rfl rfl ?_
      refine WL.val (dx_build rfl rfl (bld_53 _)) rfl rfl ?_
      refine WL.val (dx_build rfl rfl (bld_55 _ _)) rfl rfl ?_
      refine WL.get (dx_box rfl rfl rfl) rfl rfl ?_
      rintro _ W28 ⟨rfl, k29, b30, z31⟩
      have n32 : w.heap.size ≠ W21.heap.size := Nat.ne_of_lt k3.lt
      have l33 := hB.size
      replace k3 := k3.below b30
      replace hB := below_then hB b30
      replace hL := LL.more hL z31
      have hPle : w.heap.size ≤ W21.heap.size := l33
      obtain ⟨P, hPe⟩ : ∃ P, P = W21.heap.size := ⟨_, rfl⟩
      rw [← hPe] at k29 hL hPle n32 ⊢
      obtain ⟨k0, hk0⟩ : ∃ q : Nat, q = 0 := ⟨_, rfl⟩
      obtain ⟨d0, hd0⟩ : ∃ q : Nat, q = 0 := ⟨_, rfl⟩
      replace k29 : Blk W28 P (psC s k0 d0) := by rw [hk0, hd0]; exact k29
      refine WL.val (dx_assign rfl rfl) rfl rfl ?_
      refine WL.nil ?_
      refine hK27 ?_
      refine WC.seq fun K34 hK34 => ?_
      refine WC.region ?_
      refine WL.val (dx_move rfl rfl) rfl rfl ?_
      refine WL.val (dx_nilCheck rfl rfl) rfl rfl ?_
      refine WL.val (dx_fld (o1 := 0) rfl ty_fld_55_0_0 rfl rfl) rfl rfl ?_
      refine WL.get (dx_cw rfl Try.func33 rfl rfl rfl (blanks_v s P k0 d0 W28 _ hL (.head _) hs (by omega) k29)) rfl rfl ?_
      rintro _ W45 ⟨hp46, g44⟩
      replace k3 := k3.chg g44 n32
      replace hB := Below.thenChg hPle hB g44
      replace hL := hL.chg g44
      obtain ⟨k41, hk42⟩ : ∃ k, k = blankS s k0 := ⟨_, rfl⟩
      rw [← hk42] at hp46
      have hk43 := blankS_le (s := s) (k := k0) (by omega)
      rw [← hk42] at hk43
      refine WL.nil ?_
      refine hK34 ?_
      refine WC.seq fun K47 hK47 => ?_
      refine WC.region ?_
      refine WL.val (dx_move rfl rfl) rfl rfl ?_
      refine WL.get (dx_cw rfl Try.func34 rfl rfl rfl (hv (by omega) d0 hd0 P k41 W45 _ hL (.head _) (by omega) (by first | exact hp46 | (subst hd0; exact hp46)))) rfl rfl ?_
      rintro _ W75 ⟨(⟨k61, t63, rfl, hw65, hw66, hw67, hw68, hp76⟩ | ⟨k62, e64, rfl, hw69, hw70, hw71, hp76⟩), g74⟩
      ·
        replace k3 := k3.chg g74 n32
        replace hB := Below.thenChg hPle hB g74
        replace hL := hL.chg g74
        refine WL.val (dx_move rfl rfl) rfl rfl ?_
        refine WL.val (dx_extract rfl rfl rfl) rfl rfl ?_
        refine WL.val (dx_extract rfl rfl rfl) rfl rfl ?_
        refine WL.get (dx_alloc rfl ty_zero_26 rfl) rfl rfl ?_
        rintro _ W77 ⟨rfl, k78, b79, z80⟩
        have n81 : w.heap.size ≠ W75.heap.size := Nat.ne_of_lt k3.lt
        have n82 : P ≠ W75.heap.size := Nat.ne_of_lt hp76.lt
        have l83 := hB.size
        replace hw66 := hw66.more b79 (Nat.le_refl _)
        replace k3 := k3.below b79
        replace hp76 := hp76.below b79
        replace hB := below_then hB b79
        replace hL := LL.more hL z80
        refine WL.do (dx_store (cs' := [.int .i64 t63.kind, .int .i64 t63.num, .string t63.text, t63.nv, t63.iv]) (vs := [.int .i64 t63.kind, .int .i64 t63.num, .string t63.text, t63.nv, t63.iv]) rfl ty_size_26_5 rfl rfl rfl (oc_cons rfl (oc_cons rfl (oc_cons rfl (oc_cons (hw66.1).one (oc_cons (hw66.2.1).one oc_nil))))) k78 rfl (Nat.le_of_ble_eq_true rfl) rfl) rfl ?_
        rintro _ W84 ⟨k86, o85⟩
        replace k3 := k3.other o85 n81
        replace hp76 := hp76.other o85 n82
        clear k78
        replace hw66 := hw66.only o85 (.head _)
        replace hB := o85.below hB l83
        replace hL := LL.only hL o85
        refine WL.val (dx_assign rfl rfl) rfl rfl ?_
        refine WL.nil ?_
        refine hK47 ?_
        refine WC.seq fun K87 hK87 => ?_
        refine WC.seq fun K88 hK88 => ?_
        refine WC.region ?_
        refine WL.val (dx_move rfl rfl) rfl rfl ?_
        refine WL.val (dx_neq rfl rfl rfl) rfl rfl ?_
        refine WL.nil ?_
        refine hK88 ?_
        refine WC.condF rfl ?_
        refine WC.skip ?_
        refine hK87 ?_
        refine WC.seq fun K89 hK89 => ?_
        refine WC.region ?_
        refine WL.val (dx_move rfl rfl) rfl rfl ?_
        refine WL.val (dx_nilCheck rfl rfl) rfl rfl ?_
        refine WL.val (dx_fld (o1 := 0) rfl ty_fld_55_0_0 rfl rfl) rfl rfl ?_
        refine WL.get (dx_cw rfl Try.func33 rfl rfl rfl (blanks_v s P k61 d0 W84 _ hL (.tail _ (.head _)) hs (by omega) hp76)) rfl rfl ?_
        rintro _ W100 ⟨hp101, g99⟩
        replace hw66 := hw66.chgL g99 (.tail _ (.head _))
        replace k3 := k3.chg g99 n32
        replace k86 := k86.chg g99 n82.symm
        replace hB := Below.thenChg hPle hB g99
        replace hL := hL.chg g99
        obtain ⟨k96, hk97⟩ : ∃ k, k = blankS s k61 := ⟨_, rfl⟩
        rw [← hk97] at hp101
        have hk98 := blankS_le (s := s) (k := k61) (by omega)
        rw [← hk97] at hk98
        refine WL.nil ?_
        refine hK89 ?_
        refine WC.seq fun K102 hK102 => ?_
        refine WC.seq fun K103 hK103 => ?_
        refine WC.region ?_
        refine WL.val (dx_move rfl rfl) rfl rfl ?_
        refine WL.val (dx_nilCheck rfl rfl) rfl rfl ?_
        refine WL.val (dx_fld (o1 := 0) rfl ty_fld_55_0_0 rfl rfl) rfl rfl ?_
        refine WL.get (dx_cv rfl Try.func35 rfl rfl rfl (ended_v s P k96 d0 W100 _ hL (.tail _ (.head _)) hs (by omega) hp101)) rfl rfl ?_
        rintro _ W105 ⟨rfl, b104⟩
        replace hw66 := hw66.below b104
        replace k3 := k3.below b104
        replace hp101 := hp101.below b104
        replace k86 := k86.below b104
        replace hB := below_then hB b104
        replace hL := LL.below hL b104
        refine WL.val (dx_not rfl rfl) rfl rfl ?_
        refine WL.nil ?_
        refine hK103 ?_
        refine WC.cond rfl (fun c106 => ?_) (fun c106 => ?_)
        ·
          replace c106 := bnot_t c106
          replace c106 := of_decide_eq_false c106
          refine WC.seq fun K107 hK107 => ?_
          refine WC.region ?_
          refine WL.val (dx_build rfl rfl (built_of_O (cs := [.int .i64 0, .int .i64 0, .string ⟨#[]⟩, .slice none 0 0, .slice none 0 0]) (by kernel_rfl) oc_nil)) rfl rfl ?_
          refine WL.do (dx_store (cs' := [.int .i64 0, .int .i64 0, .string ⟨#[]⟩, .slice none 0 0, .slice none 0 0]) (vs := [.int .i64 0, .int .i64 0, .string ⟨#[]⟩, .slice none 0 0, .slice none 0 0]) rfl ty_size_26_5 rfl rfl rfl (oc_cons rfl (oc_cons rfl (oc_cons rfl (oc_cons rfl (oc_cons rfl oc_nil))))) k3 rfl (Nat.le_of_ble_eq_true rfl) rfl) rfl ?_
          rintro _ W108 ⟨k110, o109⟩
          replace hp101 := hp101.other o109 n32.symm
          replace k86 := k86.other o109 n81.symm
          clear k3
          replace hw66 := hw66.only o109 (.tail _ (.tail _ (.head _)))
          replace hB := o109.below hB l6
          replace hL := LL.only hL o109
          refine WL.val (dx_assign rfl rfl) rfl rfl ?_
          refine WL.nil ?_
          refine hK107 ?_
          refine WC.ret fun a_ ha_ => ?_
          exact hQ (cv_ret2 rfl (.agg rfl ty_agg_26_5 k110.range rfl) (.tmp rfl) (.inr ⟨2, rfl, by decide, (by first | exact parS_u (by omega) (by assumption) | (apply parS_f (k0 := k0) <;> first | assumption | omega; done))⟩) hB ha_)
        ·
          replace c106 := bnot_f c106
          replace c106 := of_decide_eq_true c106
          refine WC.skip ?_
          refine hK102 ?_
          refine WC.seq fun K111 hK111 => ?_
          refine WC.region ?_
          refine WL.val (dx_loadN rfl ty_agg_26_5 rfl k86.range rfl) rfl rfl ?_
          refine WL.do (dx_store (cs' := [.int .i64 t63.kind, .int .i64 t63.num, .string t63.text, t63.nv, t63.iv]) (vs := [.int .i64 t63.kind, .int .i64 t63.num, .string t63.text, t63.nv, t63.iv]) rfl ty_size_26_5 rfl rfl rfl (oc_cons rfl (oc_cons rfl (oc_cons rfl (oc_cons (hw66.1).one (oc_cons (hw66.2.1).one oc_nil))))) k3 rfl (Nat.le_of_ble_eq_true rfl) rfl) rfl ?_
          rintro _ W112 ⟨k114, o113⟩
          replace hp101 := hp101.other o113 n32.symm
          replace k86 := k86.other o113 n81.symm
          clear k3
          replace hw66 := hw66.only o113 (.tail _ (.tail _ (.head _)))
          replace hB := o113.below hB l6
          replace hL := LL.only hL o113
          refine WL.val (dx_assign rfl rfl) rfl rfl ?_
          refine WL.nil ?_
          refine hK111 ?_
          refine WC.ret fun a_ ha_ => ?_
          exact hQ (cv_ret2 rfl (.agg rfl ty_agg_26_5 k114.range rfl) (.tmp rfl) (.inl ⟨t63, rfl, (by apply parS_t (k0 := k0) <;> first | assumption | omega), (hw66.less (fun x hx => (.tail _ (.tail _ (.tail _ hx)))))⟩) hB ha_)
      ·
        replace k3 := k3.chg g74 n32
        replace hB := Below.thenChg hPle hB g74
        replace hL := hL.chg g74
        refine WL.val (dx_move rfl rfl) rfl rfl ?_
        refine WL.val (dx_extract rfl rfl rfl) rfl rfl ?_
        refine WL.val (dx_extract rfl rfl rfl) rfl rfl ?_
        refine WL.get (dx_alloc rfl ty_zero_26 rfl) rfl rfl ?_
        rintro _ W115 ⟨rfl, k116, b117, z118⟩
        have n119 : w.heap.size ≠ W75.heap.size := Nat.ne_of_lt k3.lt
        have n120 : P ≠ W75.heap.size := Nat.ne_of_lt hp76.lt
        have l121 := hB.size
        replace k3 := k3.below b117
        replace hp76 := hp76.below b117
        replace hB := below_then hB b117
        replace hL := LL.more hL z118
        refine WL.do (dx_store (cs' := [.int .i64 0, .int .i64 0, .string ⟨#[]⟩, .slice none 0 0, .slice none 0 0]) (vs := [.int .i64 0, .int .i64 0, .string ⟨#[]⟩, .slice none 0 0, .slice none 0 0]) rfl ty_size_26_5 rfl rfl rfl (oc_cons rfl (oc_cons rfl (oc_cons rfl (oc_cons rfl (oc_cons rfl oc_nil))))) k116 rfl (Nat.le_of_ble_eq_true rfl) rfl) rfl ?_
        rintro _ W122 ⟨k124, o123⟩
        replace k3 := k3.other o123 n119
        replace hp76 := hp76.other o123 n120
        clear k116
        replace hB := o123.below hB l121
        replace hL := LL.only hL o123
        refine WL.val (dx_assign rfl rfl) rfl rfl ?_
        refine WL.nil ?_
        refine hK47 ?_
        refine WC.seq fun K125 hK125 => ?_
        refine WC.seq fun K126 hK126 => ?_
        refine WC.region ?_
        refine WL.val (dx_move rfl rfl) rfl rfl ?_
        refine WL.val (dv_NT (dx_neq rfl rfl rfl) hw69) rfl rfl ?_
        refine WL.nil ?_
        refine hK126 ?_
        refine WC.condT rfl ?_
        refine WC.seq fun K127 hK127 => ?_
        refine WC.region ?_
        refine WL.val (dx_build rfl rfl (built_of_O (cs := [.int .i64 0, .int .i64 0, .string ⟨#[]⟩, .slice none 0 0, .slice none 0 0]) (by kernel_rfl) oc_nil)) rfl rfl ?_
        refine WL.val (dx_move rfl rfl) rfl rfl ?_
        refine WL.do (dx_store (cs' := [.int .i64 0, .int .i64 0, .string ⟨#[]⟩, .slice none 0 0, .slice none 0 0]) (vs := [.int .i64 0, .int .i64 0, .string ⟨#[]⟩, .slice none 0 0, .slice none 0 0]) rfl ty_size_26_5 rfl rfl rfl (oc_cons rfl (oc_cons rfl (oc_cons rfl (oc_cons rfl (oc_cons rfl oc_nil))))) k3 rfl (Nat.le_of_ble_eq_true rfl) rfl) rfl ?_
        rintro _ W128 ⟨k130, o129⟩
        replace hp76 := hp76.other o129 n32.symm
        replace k124 := k124.other o129 n119.symm
        clear k3
        replace hB := o129.below hB l6
        replace hL := LL.only hL o129
        refine WL.val (dx_assign rfl rfl) rfl rfl ?_
        refine WL.nil ?_
        refine hK127 ?_
        refine WC.ret fun a_ ha_ => ?_
        exact hQ (cv_ret2 rfl (.agg rfl ty_agg_26_5 k130.range rfl) (.tmp rfl) (.inr ⟨e64, rfl, hw69, (by apply parS_e (k0 := k0) <;> first | assumption | omega)⟩) hB ha_)

end Go.Proofs.Ytpinidlfcifeeaa
namespace Go.Proofs.Ytpinidlfcifeeaa
open Go.RowKit
set_option linter.unusedVariables false
set_option linter.unusedSimpArgs false
set_option maxRecDepth 8000

theorem ty_one_51 : oneB Try.prog 51 = true := by kernel_rfl
def oneL (vs : Nat → Except Int (Js × Nat)) (k : Nat) (st : List Js) : Except Int (List Js × Nat) := match vs k with
  | .error e => .error e
  | .ok (t, k') => .ok (st ++ [t], k')
def listS (s : ByteArray) (vs : Nat → Except Int (Js × Nat)) (k : Nat) : Except Int (Js × Nat) := match memS s (oneL vs) 93 k [] with
  | .error e => .error e
  | .ok (ts, k') => .ok (.mk 5 0 ⟨#[]⟩ [] ts, k')
/-- The items that a call gathers: nil, or rows of its own whose trees lie elsewhere. -/
def ItemsI (n b : Nat) (L : List Nat) (iv : Value) (ts : List Tr) (W : World) : Prop := (∀ x ∈ L, x < b) ∧ ((iv = .slice none 0 0 ∧ ts = []) ∨ ∃ B, b ≤ B ∧ OwS 5 W iv (ts.map encT) B ∧ ∀ t ∈ ts, RdT n (B :: L) W t)
theorem ItemsI.chgL {n b : Nat} {L : List Nat} {iv : Value} {ts : List Tr} {W W' : World} (h : ItemsI n b L iv ts W) {P : Nat} (g : Chg P W W') (hP : P ∈ L) : ItemsI n b L iv ts W' := by
  obtain ⟨h0, h | ⟨B, h1, h2, h3⟩⟩ := h
  · exact ⟨h0, .inl h⟩
  · exact ⟨h0, .inr ⟨B, h1, h2.chgL g (by have := h0 P hP; omega), fun t ht => (h3 t ht).chgL g (.tail _ hP)⟩⟩
theorem ItemsI.below {n b : Nat} {L : List Nat} {iv : Value} {ts : List Tr} {W W' : World} (h : ItemsI n b L iv ts W) (g : Below W.heap.size W W') : ItemsI n b L iv ts W' := by
  obtain ⟨h0, h | ⟨B, h1, h2, h3⟩⟩ := h
  · exact ⟨h0, .inl h⟩
  · exact ⟨h0, .inr ⟨B, h1, h2.below g, fun t ht => (h3 t ht).below g⟩⟩
theorem ItemsI.only {n b : Nat} {L : List Nat} {iv : Value} {ts : List Tr} {W W' : World} (h : ItemsI n b L iv ts W) {C : Nat} (g : Only C W W') (hC : C ∈ L) : ItemsI n b L iv ts W' := by
  obtain ⟨h0, h | ⟨B, h1, h2, h3⟩⟩ := h
  · exact ⟨h0, .inl h⟩
  · exact ⟨h0, .inr ⟨B, h1, h2.other g (by have := h0 C hC; omega), fun t ht => (h3 t ht).only g (.tail _ hC)⟩⟩
theorem ItemsI.one {n b : Nat} {L : List Nat} {iv : Value} {ts : List Tr} {W : World} (h : ItemsI n b L iv ts W) : iv.oneCell' = true := by
  obtain ⟨_, ⟨rfl, _⟩ | ⟨B, _, h2, _⟩⟩ := h
  · rfl
  · exact h2.one
theorem ItemsI.tree {n b : Nat} {L L' : List Nat} {iv : Value} {ts : List Tr} {W : World} (h : ItemsI n b L iv ts W) (hl : ∀ x, x ∈ L' → x ∈ L) (k m : Int) (t : ByteArray) : RdT (n + 1) L' W (.mk k m t (.slice none 0 0) [] iv ts) := by
  obtain ⟨h0, ⟨rfl, rfl⟩ | ⟨B, h1, h2, h3⟩⟩ := h
  · exact ⟨RdF.nil (by decide), RdF.nil (by decide), fun c hc => by cases hc⟩
  · exact ⟨RdF.nil (by decide), h2.rd (fun hx => by have := h0 B (hl B hx); omega), fun c hc => (h3 c hc).less fun x hx => .tail _ (hl x hx)⟩
def ListI (n b Bp V P : Nat) (L : List Nat) (js : List Js) (W : World) : Prop := ∃ iv ts, ts.map Tr.er = js ∧ Blk W Bp [.pointer (some ⟨P, 0, none⟩)] ∧ Blk W V [.int .i64 5, .int .i64 0, .string ⟨#[]⟩, .slice none 0 0, iv] ∧ ItemsI n b L iv ts W
def FiveE (V : Nat) (W : World) : Prop := ∃ cs : List Value, cs.length = 5 ∧ (∀ u ∈ cs, u.oneCell' = true) ∧ Blk W V cs
theorem listI_five {n b Bp V P : Nat} {L : List Nat} : ∀ (js : List Js) (W : World), ListI n b Bp V P L js W → FiveE V W := fun _ _ ⟨_, _, _, _, h2, h3⟩ => ⟨_, rfl, oc_cons rfl (oc_cons rfl (oc_cons rfl (oc_cons rfl (oc_cons h3.one oc_nil)))), h2⟩
theorem listI_chg {n b Bp V P : Nat} {L : List Nat} (h1 : Bp ≠ P) (h2 : V ≠ P) (hP : P ∈ L) : ∀ (js : List Js) (W W' : World), ListI n b Bp V P L js W → Chg P W W' → ListI n b Bp V P L js W' := fun _ _ _ ⟨iv, ts, he, a1, a2, a3⟩ g => ⟨iv, ts, he, a1.chg g h1, a2.chg g h2, a3.chgL g hP⟩
abbrev OneAt (n : Nat) (vs : Nat → Except Int (Js × Nat)) (s : ByteArray) (dp : Nat) : Prop := ∀ (b Bp V P : Nat) (L : List Nat) (k : Nat) (js : List Js) (W : World), LL L W → P ∈ L → V ∈ L → Bp ∈ L → Bp ≠ P → V ≠ P → Bp ≠ V → (∀ x ∈ L, x < b) → b ≤ W.heap.size → k ≤ s.size → Blk W P (psC s k dp) → ListI n b Bp V P L js W → js.length ≤ k →
  CX Try.prog 89 [.pointer (some ⟨Bp, 0, none⟩), .pointer (some ⟨V, 0, none⟩)] W (ChgV b P V) (fun v W' => (∃ k' st', v = .int .i64 0 ∧ oneL vs k js = .ok (st', k') ∧ k < k' ∧ k' ≤ s.size ∧ st'.length ≤ k' ∧ ListI n b Bp V P L st' W' ∧ Blk W' P (psC s k' dp)) ∨ (∃ k' e, v = .int .i64 e ∧ e ≠ 0 ∧ oneL vs k js = .error e ∧ k' ≤ s.size ∧ FiveE V W' ∧ Blk W' P (psC s k' dp)))
set_option maxHeartbeats 1000000 in
theorem list_v (n : Nat) (vs : Nat → Except Int (Js × Nat)) (s : ByteArray) (P ka dp : Nat) (w : World) (L : List Nat) (hL : LL L w) (hPL : P ∈ L) (hs : s.size ≤ 1000000) (hk : ka ≤ s.size) (hp : Blk w P (psC s ka dp))  (hq : takeS s ka 91 = true) (hc : OneAt n vs s dp) : CW Try.prog 64 [.pointer (some ⟨P, 0, none⟩)] w P fun v W => (∃ k' t, v = .tuple #[.agg #[.int .i64 t.kind, .int .i64 t.num, .string t.text, t.nv, t.iv], .int .i64 0] ∧ listS s vs ka = .ok (t.er, k') ∧ RdT (n + 1) L W t ∧ ka < k' ∧ k' ≤ s.size ∧ Blk W P (psC s k' dp)) ∨ (∃ k' e cs, v = .tuple #[.agg (List.toArray cs), .int .i64 e] ∧ e ≠ 0 ∧ cs.length = 5 ∧ (∀ u ∈ cs, u.oneCell' = true) ∧ listS s vs ka = .error e ∧ k' ≤ s.size ∧ Blk W P (psC s k' dp)) := by
  refine cw_enter (N := 12) (f := [(0, .pointer (some ⟨P, 0, none⟩))]) Try.func64 rfl rfl rfl rfl fun Q hQ hE => ?_
  have hB := Chg.refl P w
  have hL0 := hL
  refine WC.seq fun K1 hK1 => ?_
  refine WC.region ?_
  refine WL.get (dx_box (cs := [.pointer (some ⟨P, 0, none⟩)]) rfl rfl rfl) rfl rfl ?_
  rintro _ W2 ⟨rfl, k3, b4, z5⟩
  have n6 : P ≠ w.heap.size := Nat.ne_of_lt hp.lt
  have l7 := hB.size
  replace hp := hp.below b4
  replace hB := Chg.thenB hB b4
  replace hL := LL.more hL z5
  refine WL.get (dx_alloc rfl ty_zero_26 rfl) rfl rfl ?_
  rintro _ W8 ⟨rfl, k9, b10, z11⟩
  have n12 : P ≠ W2.heap.size := Nat.ne_of_lt hp.lt
  have n13 : w.heap.size ≠ W2.heap.size := Nat.ne_of_lt k3.lt
  have l14 := hB.size
  replace hp := hp.below b10
  replace k3 := k3.below b10
  replace hB := Chg.thenB hB b10
  replace hL := LL.more hL z11
  refine WL.val (dx_assign rfl rfl) rfl rfl ?_
  refine WL.nil ?_
  refine hK1 ?_
  refine WC.seq fun K15 hK15 => ?_
  refine WC.region ?_
  refine WL.val (dx_build rfl rfl (built_of_O (cs := [.int .i64 5, .int .i64 0, .string ⟨#[]⟩, .slice none 0 0, .slice none 0 0]) (by kernel_rfl) (oc_cons rfl oc_nil))) rfl rfl ?_
  refine WL.get (dx_alloc rfl ty_zero_26 rfl) rfl rfl ?_
  rintro _ W16 ⟨rfl, k17, b18, z19⟩
  have n20 : P ≠ W8.heap.size := Nat.ne_of_lt hp.lt
  have n21 : w.heap.size ≠ W8.heap.size := Nat.ne_of_lt k3.lt
  have n22 : W2.heap.size ≠ W8.heap.size := Nat.ne_of_lt k9.lt
  have l23 := hB.size
  replace hp := hp.below b18
  replace k3 := k3.below b18
  replace k9 := k9.below b18
  replace hB := Chg.thenB hB b18
  replace hL := LL.more hL z19
  refine WL.do (dx_store (cs' := [.int .i64 5, .int .i64 0, .string ⟨#[]⟩, .slice none 0 0, .slice none 0 0]) (vs := [.int .i64 5, .int .i64 0, .string ⟨#[]⟩, .slice none 0 0, .slice none 0 0]) rfl ty_size_26_5 rfl rfl rfl (oc_cons rfl (oc_cons rfl (oc_cons rfl (oc_cons rfl (oc_cons rfl oc_nil))))) k17 rfl (Nat.le_of_ble_eq_true rfl) rfl) rfl ?_
  rintro _ W24 ⟨k26, o25⟩
  replace hp := hp.other o25 n20
  replace k3 := k3.other o25 n21
  replace k9 := k9.other o25 n22
  clear k17
  replace hB := Chg.only hB o25 (.inr l23)
  replace hL := LL.only hL o25
  refine WL.nil ?_
  refine hK15 ?_
  refine WC.seq fun K27 hK27 => ?_
  refine WC.region ?_
  refine WL.val (dx_load rfl ty_one_51 rfl (k3.cell (k := 0) rfl)) rfl rfl ?_
  refine WL.val (dx_func rfl rfl rfl) rfl rfl ?_
  refine WL.get (dx_cx rfl Try.func88 rfl rfl rfl (members_v (ListI n W24.heap.size (w.heap.size) (W8.heap.size) P (W8.heap.size :: W2.heap.size :: w.heap.size :: L)) (FiveE (W8.heap.size)) (oneL vs) 91 93 _ W24.heap.size (W8.heap.size) [] List.length s P ka dp W24 _ hL (.tail _ (.tail _ (.tail _ hPL))) hs (by omega) hp (Nat.le_refl _) listI_five ⟨listI_chg n6.symm n20.symm (.tail _ (.tail _ (.tail _ hPL))), ⟨_, [], rfl, k3, k26, hL, .inl ⟨rfl, rfl⟩⟩⟩ (Nat.zero_le _) hq (fun W_ L_ k_ js_ h1_ h2_ h3_ h4_ h5_ h6_ h7_ => ⟨89, #[], #[.pointer (some ⟨w.heap.size, 0, none⟩), .pointer (some ⟨W8.heap.size, 0, none⟩)], _, rfl, Try.func89, rfl, rfl, hc W24.heap.size (w.heap.size) (W8.heap.size) P (W8.heap.size :: W2.heap.size :: w.heap.size :: L) k_ js_ W_ (fun x hx => Nat.lt_of_lt_of_le (hL x hx) h3_) (.tail _ (.tail _ (.tail _ hPL))) (.head _) (.tail _ (.tail _ (.head _))) n6.symm n20.symm n21 hL h3_ h4_ h5_ h6_ h7_⟩))) rfl rfl ?_
  rintro _ W50 ⟨(⟨k28, st29, rfl, hm34, hm35, hm36, ⟨iv32, ts33, hm37, hBp47, hV46, hm38⟩, hp51⟩ | ⟨k30, e31, rfl, hm39, hm40, hm41, ⟨cs48, hm42, hm43, hV46⟩, hp51⟩), g49⟩
  ·
    replace hB := ChgV.toChg hB g49 hB.size l23
    replace hL := hL.chgV g49
    replace k9 := k9.chgV g49 k9.lt n12.symm n22
    refine WL.val (dx_assign rfl rfl) rfl rfl ?_
    refine WL.nil ?_
    refine hK27 ?_
    refine WC.seq fun K52 hK52 => ?_
    refine WC.region ?_
    refine WL.val (dx_loadN rfl ty_agg_26_5 rfl hV46.range rfl) rfl rfl ?_
    refine WL.val (dx_move rfl rfl) rfl rfl ?_
    refine WL.do (dx_store (cs' := [.int .i64 5, .int .i64 0, .string ⟨#[]⟩, .slice none 0 0, iv32]) (vs := [.int .i64 5, .int .i64 0, .string ⟨#[]⟩, .slice none 0 0, iv32]) rfl ty_size_26_5 rfl rfl rfl (oc_cons rfl (oc_cons rfl (oc_cons rfl (oc_cons rfl (oc_cons hm38.one oc_nil))))) k9 rfl (Nat.le_of_ble_eq_true rfl) rfl) rfl ?_
    rintro _ W53 ⟨k55, o54⟩
    replace hp51 := hp51.other o54 n12
    replace hBp47 := hBp47.other o54 n13
    replace hV46 := hV46.other o54 n22.symm
    clear k9
    replace hm38 := hm38.only o54 (.tail _ (.head _))
    replace hB := Chg.only hB o54 (.inr l14)
    replace hL := LL.only hL o54
    refine WL.val (dx_assign rfl rfl) rfl rfl ?_
    refine WL.nil ?_
    refine hK52 ?_
    refine WC.ret fun a_ ha_ => ?_
    exact hQ (cw_ret2 rfl (.agg rfl ty_agg_26_5 k55.range rfl) (.tmp rfl) (.inl ⟨k28, .mk 5 0 ⟨#[]⟩ (.slice none 0 0) [] iv32 ts33, rfl, (by unfold listS; rw [hm34, Tr.er_mk, hm37]), hm38.tree (fun x hx => (.tail _ (.tail _ (.tail _ hx)))) 5 0 ⟨#[]⟩, by omega, by omega, hp51⟩) hB ha_)
  ·
    replace hB := ChgV.toChg hB g49 hB.size l23
    replace hL := hL.chgV g49
    replace k9 := k9.chgV g49 k9.lt n12.symm n22
    refine WL.val (dx_assign rfl rfl) rfl rfl ?_
    refine WL.nil ?_
    refine hK27 ?_
    refine WC.seq fun K56 hK56 => ?_
    refine WC.region ?_
    refine WL.val (dx_loadN (cs := cs48) rfl ty_agg_26_5 rfl hV46.range hm42) rfl rfl ?_
    refine WL.val (dx_move rfl rfl) rfl rfl ?_
    refine WL.do (dx_storeW (vs := cs48) rfl ty_size_26_5 rfl rfl rfl hm43 k9 hm42 rfl) rfl ?_
    rintro _ W57 ⟨k59, o58⟩
    replace hp51 := hp51.other o58 n12
    replace hV46 := hV46.other o58 n22.symm
    clear k9
    replace hB := Chg.only hB o58 (.inr l14)
    replace hL := LL.only hL o58
    refine WL.val (dx_assign rfl rfl) rfl rfl ?_
    refine WL.nil ?_
    refine hK56 ?_
    refine WC.ret fun a_ ha_ => ?_
    exact hQ (cw_ret2 rfl (.agg rfl ty_agg_26_5 k59.range hm42) (.tmp rfl) (.inr ⟨k30, e31, cs48, rfl, hm39, hm42, hm43, (by unfold listS; rw [hm40]), by omega, hp51⟩) hB ha_)

end Go.Proofs.Ytpinidlfcifeeaa
namespace Go.Proofs.Ytpinidlfcifeeaa
open Go.RowKit
set_option linter.unusedVariables false
set_option linter.unusedSimpArgs false
set_option maxRecDepth 8000

end Go.Proofs.Ytpinidlfcifeeaa
namespace Go.Proofs.Ytpinidlfcifeeaa
open Go.RowKit
set_option linter.unusedVariables false
set_option linter.unusedSimpArgs false
set_option maxRecDepth 8000

end Go.Proofs.Ytpinidlfcifeeaa
namespace Go.Proofs.Ytpinidlfcifeeaa
open Go.RowKit
set_option linter.unusedVariables false
set_option linter.unusedSimpArgs false
set_option maxRecDepth 8000

end Go.Proofs.Ytpinidlfcifeeaa
namespace Go.Proofs.Ytpinidlfcifeeaa
open Go.RowKit
set_option linter.unusedVariables false
set_option linter.unusedSimpArgs false
set_option maxRecDepth 8000

end Go.Proofs.Ytpinidlfcifeeaa
namespace Go.Proofs.Ytpinidlfcifeeaa
open Go.RowKit
set_option linter.unusedVariables false
set_option linter.unusedSimpArgs false
/-- The special ones: number, what binds it, and the facts that it may break: its own, and those of such as wait for it. -/
abbrev SpK := List (Nat × (World → World → Prop) × List Nat)
def relK (sp : SpK) (k : Nat) (W W' : World) : Prop := match sp.find? (fun e => e.1 == k) with
  | some e => e.2.1 W W'
  | none => Below W.heap.size W W'
def RelOk (w : World) (sd : List (Option Tmp × VS)) (dl : List (List Nat)) : SpK → Prop
  | [] => True
  | e :: l => ((e.2.2.all fun j => j == e.1 || ((dl[j]?).getD []).contains e.1) = true ∧ VS.monoR e.2.1 (e.2.2.foldl (fun l k => l.set k (none, .is undef)) sd) ∧ ∀ W W', Below w.heap.size w W → e.2.1 W W' → Below w.heap.size w W') ∧ RelOk w sd dl l
theorem RelOk.at {w : World} {sd : List (Option Tmp × VS)} {dl : List (List Nat)} : ∀ {sp : SpK}, RelOk w sd dl sp → ∀ e ∈ sp, (e.2.2.all fun j => j == e.1 || ((dl[j]?).getD []).contains e.1) = true ∧ VS.monoR e.2.1 (e.2.2.foldl (fun l k => l.set k (none, .is undef)) sd) ∧ ∀ W W', Below w.heap.size w W → e.2.1 W W' → Below w.heap.size w W'
  | _ :: _, h, e, he => by
    rcases List.mem_cons.1 he with rfl | he
    · exact h.1
    · exact RelOk.at h.2 e he
/-- The steps. -/
def DStepsK (P : Program) (ops : Array Oper) (N : Nat) (w0 : World) (sd : List (Option Tmp × VS)) (dl : List (List Nat)) (f : Fl) (sp : SpK) : Nat → List Oper → Prop
  | _, [] => True
  | k, o :: l => (∀ W, Below w0.heap.size w0 W → DStep P ops o N W sd (fun v W' => relK sp k W W' ∧ okAt sd k v W') ((dl[k]?).getD []) f) ∧ DStepsK P ops N w0 sd dl f sp (k + 1) l
section
variable {P : Program} {N : Nat} {sd : List (Option Tmp × VS)} {dl : List (List Nat)}
theorem DStepsK.cons {ops : Array Oper} {w0 : World} {f : Fl} {k : Nat} {sp : SpK} {o : Oper} {l : List Oper} (hk : sp.all (fun e => !(e.1 == k)) = true) (h : ∀ W, Below w0.heap.size w0 W → DStep P ops o N W sd (fun v W' => Below W.heap.size W W' ∧ okAt sd k v W') ((dl[k]?).getD []) f) (hl : DStepsK P ops N w0 sd dl f sp (k + 1) l) : DStepsK P ops N w0 sd dl f sp k (o :: l) := by
  have e : relK sp k = fun W W' => Below W.heap.size W W' := by
    funext W W'
    have : sp.find? (fun e => e.1 == k) = none := List.find?_eq_none.2 fun x hx => by
      have := List.all_eq_true.1 hk x hx
      simpa using this
    simp only [relK, this]
  exact ⟨by rw [e]; exact h, hl⟩
theorem DStepsK.hit {ops : Array Oper} {w0 : World} {f : Fl} {k : Nat} {sp : SpK} {rel : World → World → Prop} {ex : List Nat} {o : Oper} {l : List Oper} (hk : sp.find? (fun e => e.1 == k) = some (k, rel, ex)) (h : ∀ W, Below w0.heap.size w0 W → DStep P ops o N W sd (fun v W' => rel W W' ∧ okAt sd k v W') ((dl[k]?).getD []) f) (hl : DStepsK P ops N w0 sd dl f sp (k + 1) l) : DStepsK P ops N w0 sd dl f sp k (o :: l) := by
  have e : relK sp k = rel := by
    funext W W'
    simp only [relK, hk]
  exact ⟨by rw [e]; exact h, hl⟩
end
theorem NewS.toW' {s base : Nat} {rs : List (List Value)} {u : Value} {w : World} (h : NewS s base rs u w) : NewW s base rs u w := by
  rcases h with h | ⟨B, sp, h1, rfl, h3, h4⟩
  · exact .inl h
  · exact .inr ⟨B, h1, h3.own⟩
theorem NewW.toS {s base : Nat} {rs : List (List Value)} {u : Value} {w : World} (h : NewW s base rs u w) (hn : rs ≠ []) : NewS s base rs u w := by
  rcases h with h | ⟨B, h1, h2⟩
  · exact .inl h
  · exact NewS.of_own h2 h1 hn
theorem NewW.keep {s base n : Nat} {rs : List (List Value)} {u : Value} {w w' : World} (h : NewW s base rs u w) (hne : rs ≠ []) (hk : KeepR s base n w w') (hn : rs.length ≤ n) : NewW s base rs u w' := ((h.toS hne).keep hk hn).toW'
section
variable {P : Program} {ops : Array Oper} {o : Oper} {N : Nat} {f : Fl} {w : World}
end
end Go.Proofs.Ytpinidlfcifeeaa
namespace Go.Proofs.Ytpinidlfcifeeaa
open Go.RowKit
set_option linter.unusedVariables false
set_option linter.unusedSimpArgs false
/-- What an operation of the list may do to the world, by its number. -/
abbrev RelL := Nat → World → World → Prop
/-- The facts of each operation bear what each other one does, but for those that wait for it. -/
def MonoL (m : Nat) (rel : RelL) (sd : List (Option Tmp × VS)) (dl : List (List Nat)) : Prop := ∀ i, i < m → ∀ j, j ≠ i → i ∉ (dl[j]?).getD [] → ∀ u W W', rel i W W' → okAt sd j u W → okAt sd j u W'
/-- The steps: from what has run (L) and what holds of it (G). -/
def DStepsL (P : Program) (ops : Array Oper) (N : Nat) (G : (Nat → Bool) → World → Prop) (rel : RelL) (sd : List (Option Tmp × VS)) (dl : List (List Nat)) (f : Fl) : Nat → List Oper → Prop
  | _, [] => True
  | k, o :: l => (∀ L W, L k = false → (∀ j, k ∈ (dl[j]?).getD [] → L j = false) → G L W → DStep P ops o N W sd (fun v W' => rel k W W' ∧ G (upd L k true) W' ∧ okAt sd k v W') ((dl[k]?).getD []) f) ∧ DStepsL P ops N G rel sd dl f (k + 1) l
section
variable {P : Program} {N : Nat} {sd : List (Option Tmp × VS)} {dl : List (List Nat)}
theorem WC.drawL {id : Nat} {f : Fl} {w : World} {Q : Exit → Act → World → Prop} (G : (Nat → Bool) → World → Prop) (m : Nat) (rel : RelL) {ops : List Oper} (sd : List (Option Tmp × VS)) (dl : List (List Nat)) (hm : P.follows .mixedOrders = true) (hb : ordB .any ops.toArray = true) (hbp : ordB .any (ops.take m).toArray = true) (ht : tailB .any ops.toArray (ops.take m).length = true) (hdl : (ops.take m).map (depsOf .any) = dl)
    (hds : (ops.take m).map (·.dst) = sd.map (·.1)) (hN : inN N sd = true) (hG0 : G (fun _ => false) w.drew) (hmono : MonoL (ops.take m).length rel sd dl) (hst : DStepsL P (ops.take m).toArray N G rel sd dl f 0 (ops.take m))
    (hend : ∀ W, G (fun j => decide (j < (ops.take m).length)) W → DEnd (fun f W => WL P ops.toArray Q N (ops.drop m) f W) W sd f) : WC P N (.region id ops.toArray true) Q f w := fun a ha => by
  obtain ⟨pre, hpre⟩ : ∃ pre, pre = ops.take m := ⟨_, rfl⟩
  obtain ⟨suf, hsuf⟩ : ∃ suf, suf = ops.drop m := ⟨_, rfl⟩
  have hops : pre ++ suf = ops := by rw [hpre, hsuf]; exact List.take_append_drop m ops
  rw [← hpre] at hbp ht hdl hds hst hmono hend
  rw [← hsuf] at hend
  clear hpre hsuf
  subst hops
  have hlen : dl.length = sd.length := by rw [← hdl, List.length_map, ← List.length_map (f := (·.dst)), hds, List.length_map]
  have hpl : pre.length = dl.length := by rw [← hdl, List.length_map]
  refine wp_region_any hm ?_
  have hrep : Array.replicate (pre ++ suf).toArray.size false = Array.replicate pre.toArray.size false ++ Array.replicate suf.length false := by
    simp [Array.replicate_append_replicate]
  rw [hrep]
  have hsz : (pre ++ suf).toArray.size = pre.toArray.size + suf.length := by simp
  rw [hsz]
  refine pre_tail (pre := pre.toArray) (suf := suf) hb hbp (by simp) (by simpa using ht) pre.toArray.size _ (by simp) (fun j hj => by simp [Array.getD_eq_getD_getElem?, Array.getElem?_replicate] at hj; split at hj <;> simp_all) a w.drew ?_
  have hda : ∀ j, depsAt .any pre.toArray j = (dl[j]?).getD [] := by
    intro j
    subst hdl
    simp only [depsAt, List.getElem?_map, List.getElem?_toArray]
  have hF0 : ∀ j, (Array.replicate pre.toArray.size false).getD j false = true → False := fun j hj => by simp [Array.getD_eq_getD_getElem?, Array.getElem?_replicate] at hj; split at hj <;> simp_all
  refine wpAny_factsD hbp a G (fun j g W => okAt sd j (g j) W) (fun i _ W W' => i < pre.length ∧ rel i W W') ?_ ?_ ?_ pre.toArray.size _ (fun _ => undef) a w.drew (by simp) (by
      have := List.countP_le_length (p := fun b => !b) (l := (Array.replicate pre.toArray.size false).toList)
      simpa using this) (fun j hj => (hF0 j hj).elim) (Agrees.start fun j hj => hF0 j hj) (by
      have e : (fun j => (Array.replicate pre.toArray.size false).getD j false) = fun _ => false := by
        funext j
        cases hj : (Array.replicate pre.toArray.size false).getD j false with
        | false => rfl
        | true => exact (hF0 j hj).elim
      rw [e]
      exact hG0) (fun j hj => (hF0 j hj).elim)
  · intro i g W W' j g' hB hne hnd h
    exact hmono i hB.1 j hne (by rw [← hda j]; exact hnd) _ W W' hB.2 h
  · intro i o hoi L g W hLi hdn hG hd
    have key : ∀ (l : List Oper) (k : Nat), DStepsL P pre.toArray N G rel sd dl f k l → ∀ j o, l[j]? = some o → ∀ L W, L (k + j) = false → (∀ q, (k + j) ∈ (dl[q]?).getD [] → L q = false) → G L W → DStep P pre.toArray o N W sd (fun v W' => rel (k + j) W W' ∧ G (upd L (k + j) true) W' ∧ okAt sd (k + j) v W') ((dl[k + j]?).getD []) f := by
      intro l
      induction l with
      | nil => intro k _ j o h; simp at h
      | cons x l ih =>
        intro k hs j o h
        cases j with
        | zero =>
          simp only [List.getElem?_cons_zero, Option.some.injEq] at h
          subst h
          exact hs.1
        | succ j =>
          have := ih (k + 1) hs.2 j o (by simpa using h)
          rw [show k + (j + 1) = k + 1 + j by omega]
          exact this
    have hk := key pre 0 hst i o (by simpa using hoi) L W (by rw [Nat.zero_add]; exact hLi) (by rw [Nat.zero_add]; intro q hq; exact hdn q (by rw [hda q]; exact hq)) hG
    rw [Nat.zero_add] at hk
    have hdo : depsOf .any o = (dl[i]?).getD [] := by rw [← hda i, depsAt_eq hoi]
    rw [hdo] at hd ⊢
    rw [putL_eq (ds := sd.map (·.1)) (by simpa using hds)]
    have hH : HypL (fun j g w => okAt sd j (g j) w) dl g W ((dl[i]?).getD []) := HypL.of _ fun j hj => by have := hd j hj; rwa [hda j] at this
    have hil : i < pre.length := by
      have := (Array.getElem?_eq_some_iff.1 hoi).1
      simpa using this
    refine (DStep.to hN _ f a hk ha hH).mono fun v W' h => ⟨⟨hil, h.1⟩, h.2.1, ?_⟩
    simp only [restr_self]
    rw [show upd g i v i = v by simp [upd]]
    exact h.2.2
  · intro L g W hL hG hd
    rw [putL_eq (ds := sd.map (·.1)) (by simpa using hds)]
    have hH : HypL (fun j g w => okAt sd j (g j) w) dl g W (List.range' 0 sd.length) := HypL.of _ fun j hj => by
      have hj' : j < pre.toArray.size := by
        simp [List.mem_range'] at hj
        simp
        omega
      have := hd j hj'
      rwa [hda j] at this
    have hLe : L = fun j => decide (j < pre.length) := by
      funext j
      rw [hL j]
      simp
    rw [hLe] at hG
    have hfin := DEnd.to (Q := fun a W => wpList P (pre ++ suf).toArray Q suf a W) hN (fun f h a ha => h a ha) sd 0 f a (by simp) (hend W hG) ha hH
    show wpOps P (pre ++ suf).toArray Q (List.range' pre.toArray.size suf.length) _ _
    rw [wpOps_eq_wpList suf pre.toArray.size (fun j => by simp [List.getElem?_append_right])]
    rw [List.range_eq_range', show pre.toArray.size = sd.length by simp; omega]
    exact hfin
end
end Go.Proofs.Ytpinidlfcifeeaa
namespace Go.Proofs.Ytpinidlfcifeeaa
open Go.RowKit
set_option linter.unusedVariables false
set_option linter.unusedSimpArgs false
theorem heap_alloc_size (w : World) (o : Obj) : (w.alloc o).heap.size = w.heap.size + 1 := by
  show (w.heap.push o).size = _
  rw [Array.size_push]
section
variable {P : Program} {ops : Array Oper} {o : Oper} {N : Nat} {f : Fl} {w : World}
/-- There is room: it is written to the block that it has. -/
theorem dx_apRoom {t s bytes cap B : Nat} {x y : Operand} {v2 : Value} {rs news : List (List Value)} {L : List Nat} (ho : o.op = .call { callee := .builtin .append, args := #[x, y], argTypes := #[t, t] }) (ht : apB P t s bytes = true) (hx : ev f x = some (.slice (some ⟨B, 0, none⟩) rs.length cap)) (hy : ev f y = some v2)
    (h : OwS s w (.slice (some ⟨B, 0, none⟩) rs.length cap) rs B) (h2 : RdF s L w v2 news) (hn : news ≠ []) (h1 : ∀ r ∈ news, ∀ u ∈ r, u.oneCell' = true) (hroom : rs.length + news.length ≤ cap) (hw : wantF ops o f = some true := by rfl) :
    DR P ops o N f w fun u W => u = .slice (some ⟨B, 0, none⟩) (rs.length + news.length) cap ∧ OwS s W u (rs ++ news) B ∧ Only B w W := fun a ha => by
  obtain ⟨e, i, Z, hu, hi, hz, rfl, rfl, hzs⟩ := of_apB ht
  have hx := ha.ev hx
  have hy := ha.ev hy
  obtain ⟨h0, hl, cap', sp, he, hc1, hc2, hc3, hb⟩ := h
  obtain ⟨_, hl2, a2, cap2, rfl, hd1, hd2, hd3, hd4⟩ := h2
  simp only [Value.slice.injEq, true_and] at he
  obtain rfl := he
  have hlr : ∀ r ∈ rs ++ news, r.length = i.size := fun r hr => by
    rcases List.mem_append.1 hr with h | h
    · exact hl r h
    · exact hl2 r h
  obtain ⟨X, o0, rfl, hX, hc⟩ := hd4 hn
  obtain ⟨tt, hb'⟩ := hb
  have hnews : ∀ j u, news.flatten[j]? = some u → w.cell? ((⟨X, o0, none⟩ : Addr).add j) = some u := fun j u hj => by rw [addr_at]; exact hc j u hj
  have hflat : news.flatten.length = news.length * i.size := flat_len hl2
  have h1' : ∀ u ∈ news.flatten, u.oneCell' = true := fun u hu => by
    obtain ⟨r, hr, hur⟩ := List.mem_flatten.1 hu
    exact h1 r hr u hur
  have hfl : rs.flatten.length = rs.length * i.size := flat_len hl
  have hle : news.length * i.size ≤ sp.length := by
    rw [hc3]
    exact Nat.mul_le_mul_right _ (by omega)
  have hr := run_ap_room (P := P) (w := w) (t := t) (ty := o.type) hu hi B rs.length cap _ hb' ⟨X, o0, none⟩ news.length cap2 news.flatten hflat hnews h1' hroom (by rw [List.size_toArray, List.length_append, hflat, hfl]; omega)
  exact Does.of_wp (wantF_of ha hw) fun K hK => by
    unfold Oper.wp execOp
    simp only [ho, resolve, invoke, builtin, Sem.run_bind, Sem.run_pure, Result.andThen_ok, List.map_toArray, List.map_cons, List.map_nil, hx, hy, hr]
    refine hK _ _ ⟨rfl, ⟨h0, hlr, cap, sp.drop news.flatten.length, by rw [List.length_append], by rw [List.length_append]; exact hroom, hc2, ?_, ⟨tt, ?_⟩⟩, only_setRow w B _⟩
    · rw [List.length_drop, List.length_append, hc3, hflat, ← Nat.sub_mul]
      congr 1
      omega
    · rw [setRow_heap w B _ _ tt _ hb']
      congr 3
      simp only [List.flatten_append, List.append_assoc]
      rw [← hfl, List.take_left, List.drop_append, List.drop_eq_nil_of_le (by omega), List.nil_append, Nat.add_sub_cancel_left]
/-- A literal, and how many blocks there are then. -/
theorem dx_litX {t len s : Nat} {parts : Array (Nat × Operand)} {e : TypeId} {i : TypeInfo} {Z : Value} {ps : List (Nat × Value)} {rs : List (List Value)} (ho : o.op = .buildSlice t len parts) (hu : P.underlying t = some (.slice e)) (hi : P.info? e = some i) (hz : i.zero = some Z) (hs : i.size = s) (h0 : 0 < s)
    (hp : (evl f (parts.toList.map (·.2))).map (fun vs => (parts.toList.map (·.1)).zip vs) = some ps) (hlen : len * s ≤ 16777216)
    (hf : Instr.fill (fun k => some (k * s, s)) (if len * s = 0 then #[] else (Array.range (len * s)).map (Z.cells[· % Z.cells.size]!)) ps = some rs.flatten.toArray) (hrs : ∀ r ∈ rs, r.length = s) (hl : rs.length = len) (hm : len ≤ maxLen) (hw : wantF ops o f = some true := by rfl) : DR P ops o N f w (fun u W => NewO s w rs u W ∧ W.heap.size = w.heap.size + 1) := fun a ha => by
  have key : (parts.map fun (i, x) => (i, a.eval x)).toList = ps := by
    cases hq : evl f (parts.toList.map (·.2)) with
    | none => rw [hq] at hp; cases hp
    | some vs =>
      rw [hq] at hp
      have h1 := ha.evl hq
      simp only [Option.map_some, Option.some.injEq] at hp
      rw [← hp, ← h1, Array.toList_map]
      clear hp h1 hq ho
      induction parts.toList with
      | nil => rfl
      | cons p l ih => simp only [List.map_cons, List.zip_cons_cons, List.cons.injEq, true_and]; exact ih
  subst hs
  have hrun := run_buildSlice (w := w) hu hi hz len (parts.map fun (i, x) => (i, a.eval x)) hlen (cs := rs.flatten.toArray) (by rw [key]; exact hf)
  exact Does.of_wp (wantF_of ha hw) fun K hK => by
    unfold Oper.wp execOp
    simp only [ho, Sem.run_bind, hrun, Sem.run_pure, Result.andThen_ok]
    obtain ⟨n1, n2, n3⟩ := newB_row w e rs.flatten
    exact hK _ _ ⟨⟨⟨h0, hrs, len, [], by rw [hl], by omega, hm, by simp [hl], by simpa using n1⟩, n2, n3⟩, heap_alloc_size _ _⟩
theorem dx_lit1X {t s bytes : Nat} {x : Operand} {V : Value} {r : List Value} (ho : o.op = .buildSlice t 1 #[(0, x)]) (ht : apB P t s bytes = true) (h0 : 0 < s) (hs : s ≤ 16777216) (hx : ev f x = some V) (hV : V.cells.toList = r) (hl : r.length = s) (hw : wantF ops o f = some true := by rfl) : DR P ops o N f w (fun u W => NewO s w [r] u W ∧ W.heap.size = w.heap.size + 1) := by
  obtain ⟨e, i, Z, hu, hi, hZ, rfl, rfl, hzs⟩ := of_apB ht
  have hVs : V.cells.size = i.size := by rw [← Array.length_toList, hV, hl]
  refine dx_litX (ps := [(0, V)]) (rs := [r]) ho hu hi hZ rfl h0 (by simp [evl, hx]) (by omega) ?_ (by simpa using hl) rfl (by unfold maxLen; omega) hw
  rw [if_neg (by omega), fill_one i.size _ (by simp) V hVs]
  simp [← hV]
end
/-- A slice of the call's own is told by its block and its length. -/
theorem OwS.uniq {s B : Nat} {w : World} {u u' : Value} {rs rs' : List (List Value)} (h : OwS s w u rs B) (h' : OwS s w u' rs' B) (hl : rs.length = rs'.length) : u = u' := by
  obtain ⟨h0, hr, cap, sp, rfl, a2, a3, a4, ⟨t, a5⟩⟩ := h
  obtain ⟨_, hr', cap', sp', rfl, b2, b3, b4, ⟨t', b5⟩⟩ := h'
  rw [a5] at b5
  have e := congrArg (fun o : Option Obj => match o with | some (.cells cs _ _) => cs.size | _ => 0) b5
  simp only [List.size_toArray, List.length_append, flat_len hr, flat_len hr', a4, b4, hl] at e
  have hc : cap * s = cap' * s := by
    have e1 : rs'.length * s + (cap - rs'.length) * s = cap * s := by rw [← Nat.add_mul]; congr 1; omega
    have e2 : rs'.length * s + (cap' - rs'.length) * s = cap' * s := by rw [← Nat.add_mul]; congr 1; omega
    omega
  rw [hl, Nat.eq_of_mul_eq_mul_right h0 hc]
end Go.Proofs.Ytpinidlfcifeeaa
namespace Go.Proofs.Ytpinidlfcifeeaa
open Go.RowKit
set_option linter.unusedVariables false
set_option linter.unusedSimpArgs false
set_option maxRecDepth 8000

abbrev vC (iv : Value) : List Value := [.int .i64 5, .int .i64 0, .string ⟨#[]⟩, .slice none 0 0, iv]
abbrev zR : List Value := [.int .i64 0, .int .i64 0, .string ⟨#[]⟩, .slice none 0 0, .slice none 0 0]
/-- What holds while the region runs: of what was there only V and D may change. l4: the literal is made, l5: it is put behind, l7: the row is stored, l9: V has the slice. A: D is new. -/
def H2 (A : Bool) (W0 : World) (V D : Nat) (iv : Value) (rows : List (List Value)) (tr : List Value) (l4 l5 l7 l9 : Bool) (W : World) : Prop :=
  ChgV W0.heap.size V D W0 W ∧ (l9 = false → Blk W V (vC iv)) ∧ (l5 = false → if A = true then W.heap.size = W0.heap.size + (if l4 = true then 1 else 0) else OwS 5 W iv rows D) ∧
  (l7 = true → ∃ u, OwS 5 W u (rows ++ [tr]) D) ∧ (l9 = true → ∃ u r, Blk W V (vC u) ∧ OwS 5 W u (rows ++ [r]) D)
def rel2 (A : Bool) (V D : Nat) (rows : List (List Value)) (tr : List Value) : RelL := fun k W W' =>
  if k = 5 then (if A = true then Below W.heap.size W W' else Only D W W') else if k = 7 then Only D W W' ∧ ∀ u r, OwS 5 W u (rows ++ [r]) D → OwS 5 W' u (rows ++ [tr]) D else if k = 9 then Only V W W' else Below W.heap.size W W'
def p4 (W0 : World) (V D : Nat) (u : Value) (W : World) : Prop := ∃ B, B ≠ D ∧ B ≠ V ∧ W0.heap.size ≤ B ∧ OwS 5 W u [zR] B
def p5 (D : Nat) (rows : List (List Value)) (u : Value) (W : World) : Prop := ∃ r, OwS 5 W u (rows ++ [r]) D
abbrev sd2 (W0 : World) (V D n : Nat) (iv : Value) (rows : List (List Value)) (tr : List Value) : List (Option Tmp × VS) :=
  [(some 10, .is (.pointer (some ⟨V, 4, none⟩))), (some 11, .is iv), (some 12, .is (.agg tr.toArray)), (some 13, .is (.int .i64 (n : Int))), (some 14, .by (p4 W0 V D)), (some 15, .by (p5 D rows)),
   (some 16, .is (.pointer (some ⟨D, n * 5, none⟩))), (none, .by fun _ _ => True), (some 17, .is (.pointer (some ⟨V, 4, none⟩))), (none, .by fun _ _ => True)]
theorem p4_rel {A : Bool} {W0 W W' : World} {V D i : Nat} {rows : List (List Value)} {tr : List Value} {u : Value} (hr : rel2 A V D rows tr i W W') (h : p4 W0 V D u W) : p4 W0 V D u W' := by
  obtain ⟨B, h1, h2, h3, h4⟩ := h
  refine ⟨B, h1, h2, h3, ?_⟩
  unfold rel2 at hr
  split at hr
  · split at hr
    · exact h4.below hr
    · exact h4.other hr h1
  · split at hr
    · exact h4.other hr.1 h1
    · split at hr
      · exact h4.other hr h2
      · exact h4.below hr
theorem p5_rel {A : Bool} {W W' : World} {V D i : Nat} {rows : List (List Value)} {tr : List Value} {u : Value} (hi : i ≠ 5) (hVD : D ≠ V) (hr : rel2 A V D rows tr i W W') (h : p5 D rows u W) : p5 D rows u W' := by
  obtain ⟨r, h4⟩ := h
  unfold rel2 at hr
  rw [if_neg hi] at hr
  split at hr
  · exact ⟨tr, hr.2 u r h4⟩
  · split at hr
    · exact ⟨r, h4.other hr hVD⟩
    · exact ⟨r, h4.below hr⟩
theorem mono2 {A : Bool} {W0 : World} {V D n m : Nat} {iv : Value} {rows : List (List Value)} {tr : List Value} {dl : List (List Nat)} (hVD : D ≠ V) : MonoL m (rel2 A V D rows tr) (sd2 W0 V D n iv rows tr) dl := by
  intro i hi j hne hnd u W W' hr h
  match j, hne, h with
  | 0, _, h => exact h
  | 1, _, h => exact h
  | 2, _, h => exact h
  | 3, _, h => exact h
  | 4, _, h => exact p4_rel hr h
  | 5, hne, h => exact p5_rel (fun e => hne e.symm) hVD hr h
  | 6, _, h => exact h
  | 7, _, _ => exact trivial
  | 8, _, h => exact h
  | 9, _, _ => exact trivial
  | _ + 10, _, _ => exact trivial
/-- At the end: V has a slice whose last row is the one that was stored. -/
theorem end2 {A : Bool} {W0 W : World} {V D : Nat} {iv : Value} {rows : List (List Value)} {tr : List Value} (h : H2 A W0 V D iv rows tr true true true true W) : ChgV W0.heap.size V D W0 W ∧ ∃ u, Blk W V (vC u) ∧ OwS 5 W u (rows ++ [tr]) D := by
  obtain ⟨h1, _, _, h4, h5⟩ := h
  obtain ⟨u, hu⟩ := h4 rfl
  obtain ⟨u', r, hv, hu'⟩ := h5 rfl
  obtain rfl := hu.uniq hu' (by simp)
  exact ⟨h1, u, hv, hu⟩
theorem begin2 {A : Bool} {W0 : World} {V D : Nat} {iv : Value} {rows : List (List Value)} {tr : List Value} (hv : Blk W0 V (vC iv)) (hA : A = false → OwS 5 W0 iv rows D) : H2 A W0 V D iv rows tr false false false false W0.drew := by
  have hb : Below W0.heap.size W0 W0.drew := below_draws (Below.refl _ _) 1
  refine ⟨.of_below hb, fun _ => hv.below hb, fun _ => ?_, fun h => (by cases h), fun h => (by cases h)⟩
  cases A with
  | true => rw [if_pos rfl]; exact World.size_drew _
  | false => rw [if_neg (by decide)]; exact (hA rfl).below hb
/-- The literal. -/
theorem lit2 {A : Bool} {W0 W W' : World} {V D : Nat} {iv : Value} {rows : List (List Value)} {tr : List Value} {l7 l9 : Bool} (h : H2 A W0 V D iv rows tr false false l7 l9 W) (hb : Below W.heap.size W W') (hs : W'.heap.size = W.heap.size + 1) : H2 A W0 V D iv rows tr true false l7 l9 W' := by
  obtain ⟨h1, h2, h3, h4, h5⟩ := h
  have h0 := h3 rfl
  refine ⟨h1.both (.of_below (hb.mono h1.size)), fun e => (h2 e).below hb, fun _ => ?_, fun e => ?_, fun e => ?_⟩
  · cases A with
    | true => rw [if_pos rfl] at h0 ⊢; rw [hs, h0]; rfl
    | false => rw [if_neg (by decide)] at h0 ⊢; exact h0.below hb
  · obtain ⟨u, hu⟩ := h4 e; exact ⟨u, hu.below hb⟩
  · obtain ⟨u, r, hv, hu⟩ := h5 e; exact ⟨u, r, hv.below hb, hu.below hb⟩
/-- The append. -/
theorem app2 {A : Bool} {W0 W W' : World} {V D : Nat} {iv : Value} {rows : List (List Value)} {tr : List Value} {l4 : Bool} (hVD : D ≠ V) (h : H2 A W0 V D iv rows tr l4 false false false W) (hr : if A = true then Below W.heap.size W W' else Only D W W') : H2 A W0 V D iv rows tr l4 true false false W' := by
  obtain ⟨h1, h2, h3, h4, h5⟩ := h
  cases A with
  | true => rw [if_pos rfl] at hr; exact ⟨h1.both (.of_below (hr.mono h1.size)), fun e => (h2 e).below hr, fun h => (by cases h), fun h => (by cases h), fun h => (by cases h)⟩
  | false => rw [if_neg (by decide)] at hr; exact ⟨h1.both (.of_only hr (.inr (.inl rfl))), fun e => (h2 e).other hr hVD.symm, fun h => (by cases h), fun h => (by cases h), fun h => (by cases h)⟩
end Go.Proofs.Ytpinidlfcifeeaa
namespace Go.Proofs.Ytpinidlfcifeeaa
open Go.RowKit
set_option linter.unusedVariables false
set_option linter.unusedSimpArgs false
set_option maxRecDepth 8000

theorem ChgV.inner {b P V D : Nat} {w W W' : World} (h : ChgV b P V w W) (k : ChgV W.heap.size V D W W') (hb : b ≤ W.heap.size) (hD : b ≤ D) : ChgV b P V w W' := ⟨k.os.trans h.os, k.tape.trans h.tape, k.output.trans h.output, Nat.le_trans h.size k.size, fun i hi h1 h2 => (k.block i (by omega) h2 (by omega)).trans (h.block i hi h1 h2)⟩
theorem OwS.chgV {s b B C D : Nat} {w w' : World} {v : Value} {rs : List (List Value)} (h : OwS s w v rs D) (k : ChgV b B C w w') (hb : D < b) (h1 : D ≠ B) (h2 : D ≠ C) : OwS s w' v rs D := by
  obtain ⟨h0, hl, cap, sp, a1, a2, a3, a4, a5⟩ := h
  exact ⟨h0, hl, cap, sp, a1, a2, a3, a4, a5.chgV k hb h1 h2⟩
theorem RdT.inner {n V D : Nat} {L : List Nat} {W W' : World} {t : Tr} (h : RdT n (D :: L) W t) (k : ChgV W.heap.size V D W W') (hV : V ∈ L) : RdT n (D :: L) W' t := h.agree ⟨k.size, fun i hi hlt => k.block i hlt (fun e => hi (e ▸ .tail _ hV)) (fun e => hi (e ▸ .head _))⟩
theorem rel_o {A : Bool} {V D k : Nat} {rows : List (List Value)} {tr : List Value} {W W' : World} (h5 : k ≠ 5) (h7 : k ≠ 7) (h9 : k ≠ 9) (h : Below W.heap.size W W') : rel2 A V D rows tr k W W' := by unfold rel2; rw [if_neg h5, if_neg h7, if_neg h9]; exact h
theorem OwS.caps {s B l l' c c' : Nat} {a a' : Option Addr} {w : World} {rs rs' : List (List Value)} (h : OwS s w (.slice a l c) rs B) (h' : OwS s w (.slice a' l' c') rs' B) : c = c' := by
  obtain ⟨h0, hr, cap, sp, e1, a2, a3, a4, ⟨t, a5⟩⟩ := h
  obtain ⟨_, hr', cap', sp', e2, b2, b3, b4, ⟨t', b5⟩⟩ := h'
  simp only [Value.slice.injEq] at e1 e2
  obtain ⟨rfl, rfl, rfl⟩ := e1
  obtain ⟨rfl, rfl, rfl⟩ := e2
  rw [a5] at b5
  have e := congrArg (fun o : Option Obj => match o with | some (.cells cs _ _) => cs.size | _ => 0) b5
  simp only [List.size_toArray, List.length_append, flat_len hr, flat_len hr', a4, b4] at e
  rw [← Nat.add_mul, ← Nat.add_mul] at e
  have := Nat.eq_of_mul_eq_mul_right h0 e
  omega
theorem OwS.init {s B c : Nat} {w W : World} {u : Value} {rs : List (List Value)} {r r' : List Value} (h : OwS s w (.slice (some ⟨B, 0, none⟩) rs.length c) rs B) (k : OwS s w u (rs ++ [r']) B) (h' : OwS s W u (rs ++ [r]) B) : OwS s W (.slice (some ⟨B, 0, none⟩) rs.length c) rs B := by
  obtain ⟨h0, hr, cap, sp, rfl, a2, a3, a4, a5⟩ := h'
  have e := h.caps k
  subst e
  have hl : r.length = s := hr r (by simp)
  rw [List.length_append, List.length_singleton] at a2 a4
  refine ⟨h0, fun x hx => hr x (List.mem_append_left _ hx), c, r ++ sp, rfl, by omega, a3, ?_, ?_⟩
  · rw [List.length_append, hl, a4, show c - rs.length = (c - (rs.length + 1)) + 1 by omega, Nat.succ_mul]; omega
  · rw [List.flatten_append] at a5; simpa using a5
theorem row3 {A : Bool} {W0 W W' : World} {V D c : Nat} {iv : Value} {rows : List (List Value)} {tr : List Value} {l4 l5 l9 : Bool} (hVD : D ≠ V) (hiv : A = false → iv = .slice (some ⟨D, 0, none⟩) rows.length c) (h : H2 A W0 V D iv rows tr l4 l5 false l9 W) (hr : Only D W W') (hs : ∀ u r, OwS 5 W u (rows ++ [r]) D → OwS 5 W' u (rows ++ [tr]) D) (h5 : ∃ u r, OwS 5 W u (rows ++ [r]) D) : H2 A W0 V D iv rows tr l4 l5 true l9 W' := by
  obtain ⟨h1, h2, h3, h4, h9⟩ := h
  obtain ⟨u, r, hu⟩ := h5
  refine ⟨h1.both (.of_only hr (.inr (.inl rfl))), fun e => (h2 e).other hr hVD.symm, fun e => ?_, fun _ => ⟨u, hs u r hu⟩, fun e => by obtain ⟨u, r, hv, hu⟩ := h9 e; exact ⟨u, tr, hv.other hr hVD.symm, hs u r hu⟩⟩
  have h0 := h3 e
  cases A with
  | true => rw [if_pos rfl] at h0 ⊢; rw [hr.size]; exact h0
  | false =>
    rw [if_neg (by decide)] at h0 ⊢
    obtain rfl := hiv rfl
    exact h0.init hu (hs u r hu)
theorem put3 {A : Bool} {W0 W W' : World} {V D : Nat} {iv u : Value} {rows : List (List Value)} {r tr : List Value} {l4 l5 l7 : Bool} (hVD : D ≠ V) (h : H2 A W0 V D iv rows tr l4 l5 l7 false W) (hr : Only V W W') (hv : Blk W' V (vC u)) (hu : OwS 5 W u (rows ++ [r]) D) : H2 A W0 V D iv rows tr l4 l5 l7 true W' := by
  obtain ⟨h1, h2, h3, h4, h9⟩ := h
  refine ⟨h1.both (.of_only hr (.inl rfl)), fun h => (by cases h), fun e => ?_, fun e => (by obtain ⟨u, hu⟩ := h4 e; exact ⟨u, hu.other hr hVD⟩), fun _ => ⟨u, r, hv, hu.other hr hVD⟩⟩
  have h0 := h3 e
  cases A with
  | true => rw [if_pos rfl] at h0 ⊢; rw [hr.size]; exact h0
  | false => rw [if_neg (by decide)] at h0 ⊢; exact h0.other hr hVD
theorem set_last {rows : List (List Value)} {r t : List Value} : (rows ++ [r]).set rows.length t = rows ++ [t] := by simp
theorem oc_lit (r : List Value) (h : ∀ u ∈ r, u.oneCell' = true) : ∀ x ∈ [r], ∀ u ∈ x, u.oneCell' = true := fun x hx => by rw [List.mem_singleton.1 hx]; exact h
theorem one_v (n : Nat) (vs : Nat → Except Int (Js × Nat)) (s : ByteArray) (dp : Nat) (hs : s.size ≤ 1000000) (hv : ValAt (n + 1) vs s dp) : OneAt (n + 1) vs s dp := by
  intro b Bp V P L ka js w hL hPL hVL hBL hBP hVP hBV hLb hbw hk hp hI hjs
  obtain ⟨iv, ts, rfl, hBp, hV, hI0, hI⟩ := hI
  rw [List.length_map] at hjs
  have hsm : ts.length ≤ 1000000 := by omega
  rcases hI with ⟨rfl, h0⟩ | ⟨B0, hbB, hO, hts⟩
  ·
    refine cx_enter (N := 19) (f := [(0, .pointer (some ⟨Bp, 0, none⟩)), (1, .pointer (some ⟨V, 0, none⟩))]) Try.func89 rfl rfl rfl rfl fun Q hQ hE_ => ?_
    have hB := ChgV.refl b P V w
    refine WC.seq fun K1 hK1 => ?_
    refine WC.region ?_
    refine WL.val (dx_assign rfl rfl) rfl rfl ?_
    refine WL.nil ?_
    refine hK1 ?_
    refine WC.seq fun K2 hK2 => ?_
    refine WC.region ?_
    refine WL.val (dx_load rfl ty_one_51 rfl (hBp.cell (k := 0) rfl)) rfl rfl ?_
    refine WL.get (dx_cw rfl Try.func34 rfl rfl rfl (hv P ka w _ hL hPL (by omega) hp)) rfl rfl ?_
    rintro _ W30 ⟨(⟨k16, t18, rfl, hw20, hw21, hw22, hw23, hp31⟩ | ⟨k17, e19, rfl, hw24, hw25, hw26, hp31⟩), g29⟩
    ·
      replace hBp := hBp.chg g29 hBP
      replace hV := hV.chg g29 hVP
      replace hB := hB.chg g29 (Nat.le_trans hbw hB.size)
      replace hL := hL.chg g29
      refine WL.val (dx_move rfl rfl) rfl rfl ?_
      refine WL.val (dx_extract rfl rfl rfl) rfl rfl ?_
      refine WL.val (dx_extract rfl rfl rfl) rfl rfl ?_
      refine WL.get (dx_alloc rfl ty_zero_26 rfl) rfl rfl ?_
      rintro _ W32 ⟨rfl, k33, b34, z35⟩
      have n36 : P ≠ W30.heap.size := Nat.ne_of_lt hp31.lt
      have n37 : Bp ≠ W30.heap.size := Nat.ne_of_lt hBp.lt
      have n38 : V ≠ W30.heap.size := Nat.ne_of_lt hV.lt
      have l39 := hB.size
      replace hw21 := hw21.more b34 (Nat.le_refl _)
      replace hp31 := hp31.below b34
      replace hBp := hBp.below b34
      replace hV := hV.below b34
      replace hB := hB.both (.of_below (b34.mono (Nat.le_trans hbw hB.size)))
      replace hL := LL.more hL z35
      refine WL.do (dx_store (cs' := [.int .i64 t18.kind, .int .i64 t18.num, .string t18.text, t18.nv, t18.iv]) (vs := [.int .i64 t18.kind, .int .i64 t18.num, .string t18.text, t18.nv, t18.iv]) rfl ty_size_26_5 rfl rfl rfl (oc_cons rfl (oc_cons rfl (oc_cons rfl (oc_cons (hw21.1).one (oc_cons (hw21.2.1).one oc_nil))))) k33 rfl (Nat.le_of_ble_eq_true rfl) rfl) rfl ?_
      rintro _ W40 ⟨k42, o41⟩
      replace hp31 := hp31.other o41 n36
      replace hBp := hBp.other o41 n37
      replace hV := hV.other o41 n38
      clear k33
      replace hw21 := hw21.only o41 (.head _)
      replace hB := hB.both (.of_only o41 (.inr (.inr (Nat.le_trans hbw l39))))
      replace hL := LL.only hL o41
      refine WL.val (dx_assign rfl rfl) rfl rfl ?_
      refine WL.nil ?_
      refine hK2 ?_
      refine WC.seq fun K43 hK43 => ?_
      have hsW := hB.size
      obtain ⟨D, hD⟩ : ∃ D, D = W40.heap.size + 1 := ⟨_, rfl⟩
      have hDV : D ≠ V := by have := hV.lt; omega
      have hbD : b ≤ D := by omega
      refine WC.drawL (fun L_ W_ => H2 true W40 V D (.slice none 0 0) (ts.map encT) [.int .i64 t18.kind, .int .i64 t18.num, .string t18.text, t18.nv, t18.iv] (L_ 4) (L_ 5) (L_ 7) (L_ 9) W_) 10 (rel2 true V D (ts.map encT) [.int .i64 t18.kind, .int .i64 t18.num, .string t18.text, t18.nv, t18.iv]) (sd2 W40 V D 0 (.slice none 0 0) (ts.map encT) [.int .i64 t18.kind, .int .i64 t18.num, .string t18.text, t18.nv, t18.iv]) [[], [0], [], [1], [], [1, 4, 0, 1, 2, 3, 4], [5, 3, 0, 1, 2, 3, 4, 5], [6, 2, 5, 0, 1, 2, 3, 4, 5], [0, 1, 2, 3, 4, 5], [8, 5, 5, 0, 1, 2, 3, 4, 5]] (by kernel_rfl) (by kernel_rfl) (by kernel_rfl) (by kernel_rfl) (by kernel_rfl) (by kernel_rfl) (by kernel_rfl) (begin2 hV (fun h => by cases h)) (mono2 hDV) ?_ ?_
      ·
        refine ⟨fun L_ Wd hl hn hG => ?_, ?_⟩
        ·
          replace hG : H2 true W40 V D (.slice none 0 0) (ts.map encT) [.int .i64 t18.kind, .int .i64 t18.num, .string t18.text, t18.nv, t18.iv] (L_ 4) (L_ 5) (L_ 7) (L_ 9) Wd := hG
          exact DV.dr (dx_fld (o1 := 4) rfl ty_fld_26_4_4 rfl rfl) ⟨rel_o (by decide) (by decide) (by decide) (Below.refl _ _), hG, rfl⟩
        refine ⟨fun L_ Wd hl hn hG => ?_, ?_⟩
        ·
          replace hG : H2 true W40 V D (.slice none 0 0) (ts.map encT) [.int .i64 t18.kind, .int .i64 t18.num, .string t18.text, t18.nv, t18.iv] (L_ 4) (L_ 5) (L_ 7) (L_ 9) Wd := hG
          exact DV.dr (dx_load rfl ty_one_24 rfl ((hG.2.1 (hn 9 (by decide))).cell (k := 4) rfl)) ⟨rel_o (by decide) (by decide) (by decide) (Below.refl _ _), hG, rfl⟩
        refine ⟨fun L_ Wd hl hn hG => ?_, ?_⟩
        ·
          replace hG : H2 true W40 V D (.slice none 0 0) (ts.map encT) [.int .i64 t18.kind, .int .i64 t18.num, .string t18.text, t18.nv, t18.iv] (L_ 4) (L_ 5) (L_ 7) (L_ 9) Wd := hG
          exact DV.dr (dx_loadN (cs := [.int .i64 t18.kind, .int .i64 t18.num, .string t18.text, t18.nv, t18.iv]) rfl ty_agg_26_5 rfl (k42.chgV hG.1 k42.lt n38.symm (by have := k42.lt; omega)).range rfl) ⟨rel_o (by decide) (by decide) (by decide) (Below.refl _ _), hG, rfl⟩
        refine ⟨fun L_ Wd hl hn hG => ?_, ?_⟩
        ·
          replace hG : H2 true W40 V D (.slice none 0 0) (ts.map encT) [.int .i64 t18.kind, .int .i64 t18.num, .string t18.text, t18.nv, t18.iv] (L_ 4) (L_ 5) (L_ 7) (L_ 9) Wd := hG
          exact DV.dr (dx_len rfl Try.underlying24 rfl) ⟨rel_o (by decide) (by decide) (by decide) (Below.refl _ _), hG, rfl⟩
        refine ⟨fun L_ Wd hl hn hG => ?_, ?_⟩
        ·
          replace hG : H2 true W40 V D (.slice none 0 0) (ts.map encT) [.int .i64 t18.kind, .int .i64 t18.num, .string t18.text, t18.nv, t18.iv] (L_ 4) (L_ 5) (L_ 7) (L_ 9) Wd := hG
          have h5_ := hn 5 (by decide)
          rw [hl, h5_] at hG
          refine (dx_lit1X (r := zR) rfl ty_ap_24 (by decide) (by decide) rfl rfl rfl).mono ?_
          rintro u W_ ⟨⟨k1_, k2_, k3_⟩, k4_⟩
          have hs0_ := hG.1.size
          refine ⟨rel_o (by decide) (by decide) (by decide) k2_, ?_, ⟨Wd.heap.size, ?_, ?_, hs0_, k1_⟩⟩
          · show H2 _ _ _ _ _ _ _ true (L_ 5) (L_ 7) (L_ 9) _
            rw [h5_]
            exact lit2 hG k2_ k4_
          · have := hG.2.2.1 rfl; rw [if_pos rfl, if_neg (by decide)] at this; omega
          · have := hV.lt; omega
        refine ⟨fun L_ Wd hl hn hG => ?_, ?_⟩
        ·
          intro u4 q4 u4 q4
          replace hG : H2 true W40 V D (.slice none 0 0) (ts.map encT) [.int .i64 t18.kind, .int .i64 t18.num, .string t18.text, t18.nv, t18.iv] (L_ 4) (L_ 5) (L_ 7) (L_ 9) Wd := hG
          have h7_ := hn 7 (by decide)
          have h9_ := hn 9 (by decide)
          rw [hl, h7_, h9_] at hG
          obtain ⟨B4, e1_, e2_, e3_, e4_⟩ := q4
          have e5_ := e4_.lt
          have hz_ := hG.2.2.1 rfl
          rw [if_pos rfl] at hz_
          have hz2_ : Wd.heap.size = D := by rw [hz_] at e5_ ⊢; split at e5_ <;> split <;> omega
          refine (dx_apF (rs := []) (L := []) rfl ty_ap_24 rfl rfl (RdF.nil (L := []) (by decide)) (e4_.rd (L := []) (by simp)) (by simp) (by simp [maxLen] <;> omega) (by simp <;> omega)).mono ?_
          rintro u W_ ⟨k1_, k2_, k3_⟩
          rw [hz2_] at k1_
          replace k1_ : OwS 5 W_ u ((ts.map encT) ++ [zR]) D := by rw [h0]; exact k1_
          refine ⟨(by unfold rel2; rw [if_pos rfl]; exact k2_), ?_, ⟨zR, k1_⟩⟩
          show H2 _ _ _ _ _ _ _ (L_ 4) true (L_ 7) (L_ 9) _
          rw [h7_, h9_]
          exact app2 hDV hG k2_
        refine ⟨fun L_ Wd hl hn hG => ?_, ?_⟩
        ·
          intro u5 q5 u4 q4 u5 q5
          replace hG : H2 true W40 V D (.slice none 0 0) (ts.map encT) [.int .i64 t18.kind, .int .i64 t18.num, .string t18.text, t18.nv, t18.iv] (L_ 4) (L_ 5) (L_ 7) (L_ 9) Wd := hG
          obtain ⟨r_, h5_⟩ := q5
          exact DV.dr (dx_idxO 0 rfl ty_slice_24 rfl rfl h5_ rfl (by simp [h0]) rfl) ⟨rel_o (by decide) (by decide) (by decide) (Below.refl _ _), hG, rfl⟩
        refine ⟨fun L_ Wd hl hn hG => ?_, ?_⟩
        ·
          intro u5 q5 u4 q4 u5 q5
          replace hG : H2 true W40 V D (.slice none 0 0) (ts.map encT) [.int .i64 t18.kind, .int .i64 t18.num, .string t18.text, t18.nv, t18.iv] (L_ 4) (L_ 5) (L_ 7) (L_ 9) Wd := hG
          have hq_ := q5
          obtain ⟨r_, h5_⟩ := q5
          refine (dx_storeO (k := 0) (r := [.int .i64 t18.kind, .int .i64 t18.num, .string t18.text, t18.nv, t18.iv]) rfl ty_size_26_5 rfl rfl rfl (oc_cons rfl (oc_cons rfl (oc_cons rfl (oc_cons (hw21.1).one (oc_cons (hw21.2.1).one oc_nil))))) h5_ rfl (by simp [h0]) rfl).mono ?_
          rintro _ W_ ⟨k1_, k2_⟩
          replace k1_ : OwS 5 W_ u5 ((ts.map encT) ++ [[.int .i64 t18.kind, .int .i64 t18.num, .string t18.text, t18.nv, t18.iv]]) D := by rw [h0] at k1_ ⊢; exact k1_
          have hs_ : ∀ u r, OwS 5 Wd u ((ts.map encT) ++ [r]) D → OwS 5 W_ u ((ts.map encT) ++ [[.int .i64 t18.kind, .int .i64 t18.num, .string t18.text, t18.nv, t18.iv]]) D := fun u r h => by have e_ := h5_.uniq h (by simp); rw [← e_]; exact k1_
          rw [hl] at hG
          refine ⟨(by unfold rel2; rw [if_neg (by decide), if_pos rfl]; exact ⟨k2_, hs_⟩), ?_, trivial⟩
          show H2 _ _ _ _ _ _ _ (L_ 4) (L_ 5) true (L_ 9) _
          exact row3 (c := 0) hDV (fun h => (by cases h)) hG k2_ hs_ ⟨_, r_, h5_⟩
        refine ⟨fun L_ Wd hl hn hG => ?_, ?_⟩
        ·
          intro u4 q4 u5 q5
          replace hG : H2 true W40 V D (.slice none 0 0) (ts.map encT) [.int .i64 t18.kind, .int .i64 t18.num, .string t18.text, t18.nv, t18.iv] (L_ 4) (L_ 5) (L_ 7) (L_ 9) Wd := hG
          exact DV.dr (dx_fld (o1 := 4) rfl ty_fld_26_4_4 rfl rfl) ⟨rel_o (by decide) (by decide) (by decide) (Below.refl _ _), hG, rfl⟩
        refine ⟨fun L_ Wd hl hn hG => ?_, ?_⟩
        ·
          intro u5 q5 u5 q5 u4 q4 u5 q5
          replace hG : H2 true W40 V D (.slice none 0 0) (ts.map encT) [.int .i64 t18.kind, .int .i64 t18.num, .string t18.text, t18.nv, t18.iv] (L_ 4) (L_ 5) (L_ 7) (L_ 9) Wd := hG
          obtain ⟨r_, h5_⟩ := q5
          rw [hl] at hG
          refine (dx_store (cs' := vC u5) (vs := [u5]) rfl ty_size_24_1 rfl rfl (oc_one h5_.one) (oc_cons h5_.one oc_nil) (hG.2.1 rfl) rfl (Nat.le_of_ble_eq_true rfl) rfl).mono ?_
          rintro _ W_ ⟨k1_, k2_⟩
          refine ⟨(by unfold rel2; rw [if_neg (by decide), if_neg (by decide), if_pos rfl]; exact k2_), ?_, trivial⟩
          show H2 _ _ _ _ _ _ _ (L_ 4) (L_ 5) (L_ 7) true _
          exact put3 hDV hG k2_ k1_ h5_
        exact trivial
      ·
        intro We hGe
        obtain ⟨hc, uN, hVe, hOe⟩ := end2 (show H2 true W40 V D (.slice none 0 0) (ts.map encT) [.int .i64 t18.kind, .int .i64 t18.num, .string t18.text, t18.nv, t18.iv] true true true true We from hGe)
        intro u4 q4 u5 q5 _ _ _ _
        have hts_ : ∀ c ∈ ts, RdT (n + 1) (D :: L) We c := fun c hc_ => (by rw [h0] at hc_; cases hc_)
        have ht_ : RdT (n + 1) (D :: L) We t18 := ((hw21.less (fun x hx => .tail _ hx)).more (Below.refl _ _) (show W40.heap.size ≤ D by omega)).inner hc hVL
        replace hp31 := hp31.chgV hc hp31.lt hVP.symm (by have := hp31.lt; omega)
        replace hBp := hBp.chgV hc hBp.lt hBV (by have := hBp.lt; omega)
        replace hB := hB.inner hc (Nat.le_trans hbw hB.size) hbD
        replace hL := hL.chgV hc
        refine WL.nil ?_
        refine hK43 ?_
        refine WC.seq fun K44 hK44 => ?_
        refine WC.region ?_
        refine WL.val (dx_move rfl rfl) rfl rfl ?_
        refine WL.val (dx_assign rfl rfl) rfl rfl ?_
        refine WL.nil ?_
        refine hK44 ?_
        refine WC.ret fun a_ ha_ => ?_
        exact hQ (cx_ret1 rfl (.tmp rfl) (.inl ⟨k16, ts.map Tr.er ++ [t18.er], rfl, (by unfold oneL; rw [hw20]), by omega, by omega, (by rw [List.length_append, List.length_map]; show ts.length + 1 ≤ _; omega), ⟨uN, ts ++ [t18], by simp, hBp, hVe, hI0, .inr ⟨D, hbD, (by rw [List.map_append]; exact hOe), fun c hc_ => (by rcases List.mem_append.1 hc_ with h_ | h_; exact hts_ c h_; (rw [List.mem_singleton.1 h_]; exact ht_))⟩⟩, hp31⟩) hB ha_)
    ·
      replace hBp := hBp.chg g29 hBP
      replace hV := hV.chg g29 hVP
      replace hB := hB.chg g29 (Nat.le_trans hbw hB.size)
      replace hL := hL.chg g29
      refine WL.val (dx_move rfl rfl) rfl rfl ?_
      refine WL.val (dx_extract rfl rfl rfl) rfl rfl ?_
      refine WL.val (dx_extract rfl rfl rfl) rfl rfl ?_
      refine WL.get (dx_alloc rfl ty_zero_26 rfl) rfl rfl ?_
      rintro _ W45 ⟨rfl, k46, b47, z48⟩
      have n49 : P ≠ W30.heap.size := Nat.ne_of_lt hp31.lt
      have n50 : Bp ≠ W30.heap.size := Nat.ne_of_lt hBp.lt
      have n51 : V ≠ W30.heap.size := Nat.ne_of_lt hV.lt
      have l52 := hB.size
      replace hp31 := hp31.below b47
      replace hBp := hBp.below b47
      replace hV := hV.below b47
      replace hB := hB.both (.of_below (b47.mono (Nat.le_trans hbw hB.size)))
      replace hL := LL.more hL z48
      refine WL.do (dx_store (cs' := [.int .i64 0, .int .i64 0, .string ⟨#[]⟩, .slice none 0 0, .slice none 0 0]) (vs := [.int .i64 0, .int .i64 0, .string ⟨#[]⟩, .slice none 0 0, .slice none 0 0]) rfl ty_size_26_5 rfl rfl rfl (oc_cons rfl (oc_cons rfl (oc_cons rfl (oc_cons rfl (oc_cons rfl oc_nil))))) k46 rfl (Nat.le_of_ble_eq_true rfl) rfl) rfl ?_
      rintro _ W53 ⟨k55, o54⟩
      replace hp31 := hp31.other o54 n49
      replace hBp := hBp.other o54 n50
      replace hV := hV.other o54 n51
      clear k46
      replace hB := hB.both (.of_only o54 (.inr (.inr (Nat.le_trans hbw l52))))
      replace hL := LL.only hL o54
      refine WL.val (dx_assign rfl rfl) rfl rfl ?_
      refine WL.nil ?_
      refine hK2 ?_
      refine WC.seq fun K56 hK56 => ?_
      have hsW := hB.size
      obtain ⟨D, hD⟩ : ∃ D, D = W53.heap.size + 1 := ⟨_, rfl⟩
      have hDV : D ≠ V := by have := hV.lt; omega
      have hbD : b ≤ D := by omega
      refine WC.drawL (fun L_ W_ => H2 true W53 V D (.slice none 0 0) (ts.map encT) [.int .i64 0, .int .i64 0, .string ⟨#[]⟩, .slice none 0 0, .slice none 0 0] (L_ 4) (L_ 5) (L_ 7) (L_ 9) W_) 10 (rel2 true V D (ts.map encT) [.int .i64 0, .int .i64 0, .string ⟨#[]⟩, .slice none 0 0, .slice none 0 0]) (sd2 W53 V D 0 (.slice none 0 0) (ts.map encT) [.int .i64 0, .int .i64 0, .string ⟨#[]⟩, .slice none 0 0, .slice none 0 0]) [[], [0], [], [1], [], [1, 4, 0, 1, 2, 3, 4], [5, 3, 0, 1, 2, 3, 4, 5], [6, 2, 5, 0, 1, 2, 3, 4, 5], [0, 1, 2, 3, 4, 5], [8, 5, 5, 0, 1, 2, 3, 4, 5]] (by kernel_rfl) (by kernel_rfl) (by kernel_rfl) (by kernel_rfl) (by kernel_rfl) (by kernel_rfl) (by kernel_rfl) (begin2 hV (fun h => by cases h)) (mono2 hDV) ?_ ?_
      ·
        refine ⟨fun L_ Wd hl hn hG => ?_, ?_⟩
        ·
          replace hG : H2 true W53 V D (.slice none 0 0) (ts.map encT) [.int .i64 0, .int .i64 0, .string ⟨#[]⟩, .slice none 0 0, .slice none 0 0] (L_ 4) (L_ 5) (L_ 7) (L_ 9) Wd := hG
          exact DV.dr (dx_fld (o1 := 4) rfl ty_fld_26_4_4 rfl rfl) ⟨rel_o (by decide) (by decide) (by decide) (Below.refl _ _), hG, rfl⟩
        refine ⟨fun L_ Wd hl hn hG => ?_, ?_⟩
        ·
          replace hG : H2 true W53 V D (.slice none 0 0) (ts.map encT) [.int .i64 0, .int .i64 0, .string ⟨#[]⟩, .slice none 0 0, .slice none 0 0] (L_ 4) (L_ 5) (L_ 7) (L_ 9) Wd := hG
          exact DV.dr (dx_load rfl ty_one_24 rfl ((hG.2.1 (hn 9 (by decide))).cell (k := 4) rfl)) ⟨rel_o (by decide) (by decide) (by decide) (Below.refl _ _), hG, rfl⟩
        refine ⟨fun L_ Wd hl hn hG => ?_, ?_⟩
        ·
          replace hG : H2 true W53 V D (.slice none 0 0) (ts.map encT) [.int .i64 0, .int .i64 0, .string ⟨#[]⟩, .slice none 0 0, .slice none 0 0] (L_ 4) (L_ 5) (L_ 7) (L_ 9) Wd := hG
          exact DV.dr (dx_loadN (cs := [.int .i64 0, .int .i64 0, .string ⟨#[]⟩, .slice none 0 0, .slice none 0 0]) rfl ty_agg_26_5 rfl (k55.chgV hG.1 k55.lt n51.symm (by have := k55.lt; omega)).range rfl) ⟨rel_o (by decide) (by decide) (by decide) (Below.refl _ _), hG, rfl⟩
        refine ⟨fun L_ Wd hl hn hG => ?_, ?_⟩
        ·
          replace hG : H2 true W53 V D (.slice none 0 0) (ts.map encT) [.int .i64 0, .int .i64 0, .string ⟨#[]⟩, .slice none 0 0, .slice none 0 0] (L_ 4) (L_ 5) (L_ 7) (L_ 9) Wd := hG
          exact DV.dr (dx_len rfl Try.underlying24 rfl) ⟨rel_o (by decide) (by decide) (by decide) (Below.refl _ _), hG, rfl⟩
        refine ⟨fun L_ Wd hl hn hG => ?_, ?_⟩
        ·
          replace hG : H2 true W53 V D (.slice none 0 0) (ts.map encT) [.int .i64 0, .int .i64 0, .string ⟨#[]⟩, .slice none 0 0, .slice none 0 0] (L_ 4) (L_ 5) (L_ 7) (L_ 9) Wd := hG
          have h5_ := hn 5 (by decide)
          rw [hl, h5_] at hG
          refine (dx_lit1X (r := zR) rfl ty_ap_24 (by decide) (by decide) rfl rfl rfl).mono ?_
          rintro u W_ ⟨⟨k1_, k2_, k3_⟩, k4_⟩
          have hs0_ := hG.1.size
          refine ⟨rel_o (by decide) (by decide) (by decide) k2_, ?_, ⟨Wd.heap.size, ?_, ?_, hs0_, k1_⟩⟩
          · show H2 _ _ _ _ _ _ _ true (L_ 5) (L_ 7) (L_ 9) _
            rw [h5_]
            exact lit2 hG k2_ k4_
          · have := hG.2.2.1 rfl; rw [if_pos rfl, if_neg (by decide)] at this; omega
          · have := hV.lt; omega
        refine ⟨fun L_ Wd hl hn hG => ?_, ?_⟩
        ·
          intro u4 q4 u4 q4
          replace hG : H2 true W53 V D (.slice none 0 0) (ts.map encT) [.int .i64 0, .int .i64 0, .string ⟨#[]⟩, .slice none 0 0, .slice none 0 0] (L_ 4) (L_ 5) (L_ 7) (L_ 9) Wd := hG
          have h7_ := hn 7 (by decide)
          have h9_ := hn 9 (by decide)
          rw [hl, h7_, h9_] at hG
          obtain ⟨B4, e1_, e2_, e3_, e4_⟩ := q4
          have e5_ := e4_.lt
          have hz_ := hG.2.2.1 rfl
          rw [if_pos rfl] at hz_
          have hz2_ : Wd.heap.size = D := by rw [hz_] at e5_ ⊢; split at e5_ <;> split <;> omega
          refine (dx_apF (rs := []) (L := []) rfl ty_ap_24 rfl rfl (RdF.nil (L := []) (by decide)) (e4_.rd (L := []) (by simp)) (by simp) (by simp [maxLen] <;> omega) (by simp <;> omega)).mono ?_
          rintro u W_ ⟨k1_, k2_, k3_⟩
          rw [hz2_] at k1_
          replace k1_ : OwS 5 W_ u ((ts.map encT) ++ [zR]) D := by rw [h0]; exact k1_
          refine ⟨(by unfold rel2; rw [if_pos rfl]; exact k2_), ?_, ⟨zR, k1_⟩⟩
          show H2 _ _ _ _ _ _ _ (L_ 4) true (L_ 7) (L_ 9) _
          rw [h7_, h9_]
          exact app2 hDV hG k2_
        refine ⟨fun L_ Wd hl hn hG => ?_, ?_⟩
        ·
          intro u5 q5 u4 q4 u5 q5
          replace hG : H2 true W53 V D (.slice none 0 0) (ts.map encT) [.int .i64 0, .int .i64 0, .string ⟨#[]⟩, .slice none 0 0, .slice none 0 0] (L_ 4) (L_ 5) (L_ 7) (L_ 9) Wd := hG
          obtain ⟨r_, h5_⟩ := q5
          exact DV.dr (dx_idxO 0 rfl ty_slice_24 rfl rfl h5_ rfl (by simp [h0]) rfl) ⟨rel_o (by decide) (by decide) (by decide) (Below.refl _ _), hG, rfl⟩
        refine ⟨fun L_ Wd hl hn hG => ?_, ?_⟩
        ·
          intro u5 q5 u4 q4 u5 q5
          replace hG : H2 true W53 V D (.slice none 0 0) (ts.map encT) [.int .i64 0, .int .i64 0, .string ⟨#[]⟩, .slice none 0 0, .slice none 0 0] (L_ 4) (L_ 5) (L_ 7) (L_ 9) Wd := hG
          have hq_ := q5
          obtain ⟨r_, h5_⟩ := q5
          refine (dx_storeO (k := 0) (r := [.int .i64 0, .int .i64 0, .string ⟨#[]⟩, .slice none 0 0, .slice none 0 0]) rfl ty_size_26_5 rfl rfl rfl (oc_cons rfl (oc_cons rfl (oc_cons rfl (oc_cons rfl (oc_cons rfl oc_nil))))) h5_ rfl (by simp [h0]) rfl).mono ?_
          rintro _ W_ ⟨k1_, k2_⟩
          replace k1_ : OwS 5 W_ u5 ((ts.map encT) ++ [[.int .i64 0, .int .i64 0, .string ⟨#[]⟩, .slice none 0 0, .slice none 0 0]]) D := by rw [h0] at k1_ ⊢; exact k1_
          have hs_ : ∀ u r, OwS 5 Wd u ((ts.map encT) ++ [r]) D → OwS 5 W_ u ((ts.map encT) ++ [[.int .i64 0, .int .i64 0, .string ⟨#[]⟩, .slice none 0 0, .slice none 0 0]]) D := fun u r h => by have e_ := h5_.uniq h (by simp); rw [← e_]; exact k1_
          rw [hl] at hG
          refine ⟨(by unfold rel2; rw [if_neg (by decide), if_pos rfl]; exact ⟨k2_, hs_⟩), ?_, trivial⟩
          show H2 _ _ _ _ _ _ _ (L_ 4) (L_ 5) true (L_ 9) _
          exact row3 (c := 0) hDV (fun h => (by cases h)) hG k2_ hs_ ⟨_, r_, h5_⟩
        refine ⟨fun L_ Wd hl hn hG => ?_, ?_⟩
        ·
          intro u4 q4 u5 q5
          replace hG : H2 true W53 V D (.slice none 0 0) (ts.map encT) [.int .i64 0, .int .i64 0, .string ⟨#[]⟩, .slice none 0 0, .slice none 0 0] (L_ 4) (L_ 5) (L_ 7) (L_ 9) Wd := hG
          exact DV.dr (dx_fld (o1 := 4) rfl ty_fld_26_4_4 rfl rfl) ⟨rel_o (by decide) (by decide) (by decide) (Below.refl _ _), hG, rfl⟩
        refine ⟨fun L_ Wd hl hn hG => ?_, ?_⟩
        ·
          intro u5 q5 u5 q5 u4 q4 u5 q5
          replace hG : H2 true W53 V D (.slice none 0 0) (ts.map encT) [.int .i64 0, .int .i64 0, .string ⟨#[]⟩, .slice none 0 0, .slice none 0 0] (L_ 4) (L_ 5) (L_ 7) (L_ 9) Wd := hG
          obtain ⟨r_, h5_⟩ := q5
          rw [hl] at hG
          refine (dx_store (cs' := vC u5) (vs := [u5]) rfl ty_size_24_1 rfl rfl (oc_one h5_.one) (oc_cons h5_.one oc_nil) (hG.2.1 rfl) rfl (Nat.le_of_ble_eq_true rfl) rfl).mono ?_
          rintro _ W_ ⟨k1_, k2_⟩
          refine ⟨(by unfold rel2; rw [if_neg (by decide), if_neg (by decide), if_pos rfl]; exact k2_), ?_, trivial⟩
          show H2 _ _ _ _ _ _ _ (L_ 4) (L_ 5) (L_ 7) true _
          exact put3 hDV hG k2_ k1_ h5_
        exact trivial
      ·
        intro We hGe
        obtain ⟨hc, uN, hVe, hOe⟩ := end2 (show H2 true W53 V D (.slice none 0 0) (ts.map encT) [.int .i64 0, .int .i64 0, .string ⟨#[]⟩, .slice none 0 0, .slice none 0 0] true true true true We from hGe)
        intro u4 q4 u5 q5 _ _ _ _
        have hts_ : ∀ c ∈ ts, RdT (n + 1) (D :: L) We c := fun c hc_ => (by rw [h0] at hc_; cases hc_)
        replace hp31 := hp31.chgV hc hp31.lt hVP.symm (by have := hp31.lt; omega)
        replace hBp := hBp.chgV hc hBp.lt hBV (by have := hBp.lt; omega)
        replace hB := hB.inner hc (Nat.le_trans hbw hB.size) hbD
        replace hL := hL.chgV hc
        refine WL.nil ?_
        refine hK56 ?_
        refine WC.seq fun K57 hK57 => ?_
        refine WC.region ?_
        refine WL.val (dx_move rfl rfl) rfl rfl ?_
        refine WL.val (dx_assign rfl rfl) rfl rfl ?_
        refine WL.nil ?_
        refine hK57 ?_
        refine WC.ret fun a_ ha_ => ?_
        exact hQ (cx_ret1 rfl (.tmp rfl) (.inr ⟨k17, e19, rfl, hw24, (by unfold oneL; rw [hw25]), by omega, ⟨vC uN, rfl, (oc_cons rfl (oc_cons rfl (oc_cons rfl (oc_cons rfl (oc_cons hOe.one oc_nil))))), hVe⟩, hp31⟩) hB ha_)
  have hB0P : B0 ≠ P := by have := hLb P hPL; omega
  have hB0V : B0 ≠ V := by have := hLb V hVL; omega
  have hB0Bp : B0 ≠ Bp := by have := hLb Bp hBL; omega
  replace hL := LL.cons hL hO.lt
  replace hts : RdTs (n + 1) (B0 :: L) w ts := hts
  obtain ⟨q0, q1, cap, sp, rfl, q2, q3, q4, q5⟩ := id hO
  by_cases hroom : (ts.map encT).length + 1 ≤ cap
  ·
    refine cx_enter (N := 19) (f := [(0, .pointer (some ⟨Bp, 0, none⟩)), (1, .pointer (some ⟨V, 0, none⟩))]) Try.func89 rfl rfl rfl rfl fun Q hQ hE_ => ?_
    have hB := ChgV.refl b P V w
    refine WC.seq fun K1 hK1 => ?_
    refine WC.region ?_
    refine WL.val (dx_assign rfl rfl) rfl rfl ?_
    refine WL.nil ?_
    refine hK1 ?_
    refine WC.seq fun K2 hK2 => ?_
    refine WC.region ?_
    refine WL.val (dx_load rfl ty_one_51 rfl (hBp.cell (k := 0) rfl)) rfl rfl ?_
    refine WL.get (dx_cw rfl Try.func34 rfl rfl rfl (hv P ka w _ hL (.tail _ hPL) (by omega) hp)) rfl rfl ?_
    rintro _ W30 ⟨(⟨k16, t18, rfl, hw20, hw21, hw22, hw23, hp31⟩ | ⟨k17, e19, rfl, hw24, hw25, hw26, hp31⟩), g29⟩
    ·
      replace hts := hts.chgL g29 (.tail _ hPL)
      replace hBp := hBp.chg g29 hBP
      replace hV := hV.chg g29 hVP
      replace hO := hO.chgL g29 hB0P
      replace hB := hB.chg g29 (Nat.le_trans hbw hB.size)
      replace hL := hL.chg g29
      refine WL.val (dx_move rfl rfl) rfl rfl ?_
      refine WL.val (dx_extract rfl rfl rfl) rfl rfl ?_
      refine WL.val (dx_extract rfl rfl rfl) rfl rfl ?_
      refine WL.get (dx_alloc rfl ty_zero_26 rfl) rfl rfl ?_
      rintro _ W32 ⟨rfl, k33, b34, z35⟩
      have n36 : P ≠ W30.heap.size := Nat.ne_of_lt hp31.lt
      have n37 : Bp ≠ W30.heap.size := Nat.ne_of_lt hBp.lt
      have n38 : V ≠ W30.heap.size := Nat.ne_of_lt hV.lt
      have n39 : B0 ≠ W30.heap.size := Nat.ne_of_lt hO.lt
      have l40 := hB.size
      replace hts := hts.more b34 (Nat.le_refl _)
      replace hw21 := hw21.more b34 (Nat.le_refl _)
      replace hp31 := hp31.below b34
      replace hBp := hBp.below b34
      replace hV := hV.below b34
      replace hO := hO.below b34
      replace hB := hB.both (.of_below (b34.mono (Nat.le_trans hbw hB.size)))
      replace hL := LL.more hL z35
      refine WL.do (dx_store (cs' := [.int .i64 t18.kind, .int .i64 t18.num, .string t18.text, t18.nv, t18.iv]) (vs := [.int .i64 t18.kind, .int .i64 t18.num, .string t18.text, t18.nv, t18.iv]) rfl ty_size_26_5 rfl rfl rfl (oc_cons rfl (oc_cons rfl (oc_cons rfl (oc_cons (hw21.1).one (oc_cons (hw21.2.1).one oc_nil))))) k33 rfl (Nat.le_of_ble_eq_true rfl) rfl) rfl ?_
      rintro _ W41 ⟨k43, o42⟩
      replace hp31 := hp31.other o42 n36
      replace hBp := hBp.other o42 n37
      replace hV := hV.other o42 n38
      replace hO := hO.other o42 n39
      clear k33
      replace hts := hts.only o42 (.head _)
      replace hw21 := hw21.only o42 (.head _)
      replace hB := hB.both (.of_only o42 (.inr (.inr (Nat.le_trans hbw l40))))
      replace hL := LL.only hL o42
      refine WL.val (dx_assign rfl rfl) rfl rfl ?_
      refine WL.nil ?_
      refine hK2 ?_
      refine WC.seq fun K44 hK44 => ?_
      have hsW := hB.size
      have hDV := hB0V
      have hbD := hbB
      refine WC.drawL (fun L_ W_ => H2 false W41 V B0 (.slice (some ⟨B0, 0, none⟩) (ts.map encT).length cap) (ts.map encT) [.int .i64 t18.kind, .int .i64 t18.num, .string t18.text, t18.nv, t18.iv] (L_ 4) (L_ 5) (L_ 7) (L_ 9) W_) 10 (rel2 false V B0 (ts.map encT) [.int .i64 t18.kind, .int .i64 t18.num, .string t18.text, t18.nv, t18.iv]) (sd2 W41 V B0 (ts.map encT).length (.slice (some ⟨B0, 0, none⟩) (ts.map encT).length cap) (ts.map encT) [.int .i64 t18.kind, .int .i64 t18.num, .string t18.text, t18.nv, t18.iv]) [[], [0], [], [1], [], [1, 4, 0, 1, 2, 3, 4], [5, 3, 0, 1, 2, 3, 4, 5], [6, 2, 5, 0, 1, 2, 3, 4, 5], [0, 1, 2, 3, 4, 5], [8, 5, 5, 0, 1, 2, 3, 4, 5]] (by kernel_rfl) (by kernel_rfl) (by kernel_rfl) (by kernel_rfl) (by kernel_rfl) (by kernel_rfl) (by kernel_rfl) (begin2 hV (fun _ => hO)) (mono2 hDV) ?_ ?_
      ·
        refine ⟨fun L_ Wd hl hn hG => ?_, ?_⟩
        ·
          replace hG : H2 false W41 V B0 (.slice (some ⟨B0, 0, none⟩) (ts.map encT).length cap) (ts.map encT) [.int .i64 t18.kind, .int .i64 t18.num, .string t18.text, t18.nv, t18.iv] (L_ 4) (L_ 5) (L_ 7) (L_ 9) Wd := hG
          exact DV.dr (dx_fld (o1 := 4) rfl ty_fld_26_4_4 rfl rfl) ⟨rel_o (by decide) (by decide) (by decide) (Below.refl _ _), hG, rfl⟩
        refine ⟨fun L_ Wd hl hn hG => ?_, ?_⟩
        ·
          replace hG : H2 false W41 V B0 (.slice (some ⟨B0, 0, none⟩) (ts.map encT).length cap) (ts.map encT) [.int .i64 t18.kind, .int .i64 t18.num, .string t18.text, t18.nv, t18.iv] (L_ 4) (L_ 5) (L_ 7) (L_ 9) Wd := hG
          exact DV.dr (dx_load rfl ty_one_24 rfl ((hG.2.1 (hn 9 (by decide))).cell (k := 4) rfl)) ⟨rel_o (by decide) (by decide) (by decide) (Below.refl _ _), hG, rfl⟩
        refine ⟨fun L_ Wd hl hn hG => ?_, ?_⟩
        ·
          replace hG : H2 false W41 V B0 (.slice (some ⟨B0, 0, none⟩) (ts.map encT).length cap) (ts.map encT) [.int .i64 t18.kind, .int .i64 t18.num, .string t18.text, t18.nv, t18.iv] (L_ 4) (L_ 5) (L_ 7) (L_ 9) Wd := hG
          exact DV.dr (dx_loadN (cs := [.int .i64 t18.kind, .int .i64 t18.num, .string t18.text, t18.nv, t18.iv]) rfl ty_agg_26_5 rfl (k43.chgV hG.1 k43.lt n38.symm (by have := k43.lt; exact n39.symm)).range rfl) ⟨rel_o (by decide) (by decide) (by decide) (Below.refl _ _), hG, rfl⟩
        refine ⟨fun L_ Wd hl hn hG => ?_, ?_⟩
        ·
          replace hG : H2 false W41 V B0 (.slice (some ⟨B0, 0, none⟩) (ts.map encT).length cap) (ts.map encT) [.int .i64 t18.kind, .int .i64 t18.num, .string t18.text, t18.nv, t18.iv] (L_ 4) (L_ 5) (L_ 7) (L_ 9) Wd := hG
          exact DV.dr (dx_len rfl Try.underlying24 rfl) ⟨rel_o (by decide) (by decide) (by decide) (Below.refl _ _), hG, rfl⟩
        refine ⟨fun L_ Wd hl hn hG => ?_, ?_⟩
        ·
          replace hG : H2 false W41 V B0 (.slice (some ⟨B0, 0, none⟩) (ts.map encT).length cap) (ts.map encT) [.int .i64 t18.kind, .int .i64 t18.num, .string t18.text, t18.nv, t18.iv] (L_ 4) (L_ 5) (L_ 7) (L_ 9) Wd := hG
          have h5_ := hn 5 (by decide)
          rw [hl, h5_] at hG
          refine (dx_lit1X (r := zR) rfl ty_ap_24 (by decide) (by decide) rfl rfl rfl).mono ?_
          rintro u W_ ⟨⟨k1_, k2_, k3_⟩, k4_⟩
          have hs0_ := hG.1.size
          refine ⟨rel_o (by decide) (by decide) (by decide) k2_, ?_, ⟨Wd.heap.size, ?_, ?_, hs0_, k1_⟩⟩
          · show H2 _ _ _ _ _ _ _ true (L_ 5) (L_ 7) (L_ 9) _
            rw [h5_]
            exact lit2 hG k2_ k4_
          · have := hG.2.2.1 rfl; rw [if_neg (by decide)] at this; exact Nat.ne_of_gt this.lt
          · have := hV.lt; omega
        refine ⟨fun L_ Wd hl hn hG => ?_, ?_⟩
        ·
          intro u4 q4 u4 q4
          replace hG : H2 false W41 V B0 (.slice (some ⟨B0, 0, none⟩) (ts.map encT).length cap) (ts.map encT) [.int .i64 t18.kind, .int .i64 t18.num, .string t18.text, t18.nv, t18.iv] (L_ 4) (L_ 5) (L_ 7) (L_ 9) Wd := hG
          have h7_ := hn 7 (by decide)
          have h9_ := hn 9 (by decide)
          rw [hl, h7_, h9_] at hG
          obtain ⟨B4, e1_, e2_, e3_, e4_⟩ := q4
          have e5_ := e4_.lt
          have hO_ := hG.2.2.1 rfl
          rw [if_neg (by decide)] at hO_
          refine (dx_apRoom rfl ty_ap_24 rfl rfl hO_ (e4_.rd (L := []) (by simp)) (by simp) (oc_lit zR (oc_cons rfl (oc_cons rfl (oc_cons rfl (oc_cons rfl (oc_cons rfl oc_nil)))))) (by simpa using hroom)).mono ?_
          rintro u W_ ⟨-, k1_, k2_⟩
          refine ⟨(by unfold rel2; rw [if_pos rfl]; exact k2_), ?_, ⟨zR, k1_⟩⟩
          show H2 _ _ _ _ _ _ _ (L_ 4) true (L_ 7) (L_ 9) _
          rw [h7_, h9_]
          exact app2 hDV hG k2_
        refine ⟨fun L_ Wd hl hn hG => ?_, ?_⟩
        ·
          intro u5 q5 u4 q4 u5 q5
          replace hG : H2 false W41 V B0 (.slice (some ⟨B0, 0, none⟩) (ts.map encT).length cap) (ts.map encT) [.int .i64 t18.kind, .int .i64 t18.num, .string t18.text, t18.nv, t18.iv] (L_ 4) (L_ 5) (L_ 7) (L_ 9) Wd := hG
          obtain ⟨r_, h5_⟩ := q5
          exact DV.dr (dx_idxO (ts.map encT).length rfl ty_slice_24 rfl rfl h5_ rfl (by simp) rfl) ⟨rel_o (by decide) (by decide) (by decide) (Below.refl _ _), hG, rfl⟩
        refine ⟨fun L_ Wd hl hn hG => ?_, ?_⟩
        ·
          intro u5 q5 u4 q4 u5 q5
          replace hG : H2 false W41 V B0 (.slice (some ⟨B0, 0, none⟩) (ts.map encT).length cap) (ts.map encT) [.int .i64 t18.kind, .int .i64 t18.num, .string t18.text, t18.nv, t18.iv] (L_ 4) (L_ 5) (L_ 7) (L_ 9) Wd := hG
          have hq_ := q5
          obtain ⟨r_, h5_⟩ := q5
          refine (dx_storeO (k := (ts.map encT).length) (r := [.int .i64 t18.kind, .int .i64 t18.num, .string t18.text, t18.nv, t18.iv]) rfl ty_size_26_5 rfl rfl rfl (oc_cons rfl (oc_cons rfl (oc_cons rfl (oc_cons (hw21.1).one (oc_cons (hw21.2.1).one oc_nil))))) h5_ rfl (by simp) rfl).mono ?_
          rintro _ W_ ⟨k1_, k2_⟩
          rw [show ((ts.map encT) ++ [r_]).set (ts.map encT).length [.int .i64 t18.kind, .int .i64 t18.num, .string t18.text, t18.nv, t18.iv] = (ts.map encT) ++ [[.int .i64 t18.kind, .int .i64 t18.num, .string t18.text, t18.nv, t18.iv]] from set_last] at k1_
          have hs_ : ∀ u r, OwS 5 Wd u ((ts.map encT) ++ [r]) B0 → OwS 5 W_ u ((ts.map encT) ++ [[.int .i64 t18.kind, .int .i64 t18.num, .string t18.text, t18.nv, t18.iv]]) B0 := fun u r h => by have e_ := h5_.uniq h (by simp); rw [← e_]; exact k1_
          rw [hl] at hG
          refine ⟨(by unfold rel2; rw [if_neg (by decide), if_pos rfl]; exact ⟨k2_, hs_⟩), ?_, trivial⟩
          show H2 _ _ _ _ _ _ _ (L_ 4) (L_ 5) true (L_ 9) _
          exact row3 (c := cap) hDV (fun h => rfl) hG k2_ hs_ ⟨_, r_, h5_⟩
        refine ⟨fun L_ Wd hl hn hG => ?_, ?_⟩
        ·
          intro u4 q4 u5 q5
          replace hG : H2 false W41 V B0 (.slice (some ⟨B0, 0, none⟩) (ts.map encT).length cap) (ts.map encT) [.int .i64 t18.kind, .int .i64 t18.num, .string t18.text, t18.nv, t18.iv] (L_ 4) (L_ 5) (L_ 7) (L_ 9) Wd := hG
          exact DV.dr (dx_fld (o1 := 4) rfl ty_fld_26_4_4 rfl rfl) ⟨rel_o (by decide) (by decide) (by decide) (Below.refl _ _), hG, rfl⟩
        refine ⟨fun L_ Wd hl hn hG => ?_, ?_⟩
        ·
          intro u5 q5 u5 q5 u4 q4 u5 q5
          replace hG : H2 false W41 V B0 (.slice (some ⟨B0, 0, none⟩) (ts.map encT).length cap) (ts.map encT) [.int .i64 t18.kind, .int .i64 t18.num, .string t18.text, t18.nv, t18.iv] (L_ 4) (L_ 5) (L_ 7) (L_ 9) Wd := hG
          obtain ⟨r_, h5_⟩ := q5
          rw [hl] at hG
          refine (dx_store (cs' := vC u5) (vs := [u5]) rfl ty_size_24_1 rfl rfl (oc_one h5_.one) (oc_cons h5_.one oc_nil) (hG.2.1 rfl) rfl (Nat.le_of_ble_eq_true rfl) rfl).mono ?_
          rintro _ W_ ⟨k1_, k2_⟩
          refine ⟨(by unfold rel2; rw [if_neg (by decide), if_neg (by decide), if_pos rfl]; exact k2_), ?_, trivial⟩
          show H2 _ _ _ _ _ _ _ (L_ 4) (L_ 5) (L_ 7) true _
          exact put3 hDV hG k2_ k1_ h5_
        exact trivial
      ·
        intro We hGe
        obtain ⟨hc, uN, hVe, hOe⟩ := end2 (show H2 false W41 V B0 (.slice (some ⟨B0, 0, none⟩) (ts.map encT).length cap) (ts.map encT) [.int .i64 t18.kind, .int .i64 t18.num, .string t18.text, t18.nv, t18.iv] true true true true We from hGe)
        intro u4 q4 u5 q5 _ _ _ _
        have hts_ : ∀ c ∈ ts, RdT (n + 1) (B0 :: L) We c := fun c hc_ => ((hts c hc_).less (fun x hx => .tail _ hx)).inner hc hVL
        have ht_ : RdT (n + 1) (B0 :: L) We t18 := (hw21.less (fun x hx => .tail _ hx)).inner hc hVL
        replace hp31 := hp31.chgV hc hp31.lt hVP.symm hB0P.symm
        replace hBp := hBp.chgV hc hBp.lt hBV hB0Bp.symm
        replace hB := hB.inner hc (Nat.le_trans hbw hB.size) hbD
        replace hL := hL.chgV hc
        refine WL.nil ?_
        refine hK44 ?_
        refine WC.seq fun K45 hK45 => ?_
        refine WC.region ?_
        refine WL.val (dx_move rfl rfl) rfl rfl ?_
        refine WL.val (dx_assign rfl rfl) rfl rfl ?_
        refine WL.nil ?_
        refine hK45 ?_
        refine WC.ret fun a_ ha_ => ?_
        exact hQ (cx_ret1 rfl (.tmp rfl) (.inl ⟨k16, ts.map Tr.er ++ [t18.er], rfl, (by unfold oneL; rw [hw20]), by omega, by omega, (by rw [List.length_append, List.length_map]; show ts.length + 1 ≤ _; omega), ⟨uN, ts ++ [t18], by simp, hBp, hVe, hI0, .inr ⟨B0, hbD, (by rw [List.map_append]; exact hOe), fun c hc_ => (by rcases List.mem_append.1 hc_ with h_ | h_; exact hts_ c h_; (rw [List.mem_singleton.1 h_]; exact ht_))⟩⟩, hp31⟩) hB ha_)
    ·
      replace hts := hts.chgL g29 (.tail _ hPL)
      replace hBp := hBp.chg g29 hBP
      replace hV := hV.chg g29 hVP
      replace hO := hO.chgL g29 hB0P
      replace hB := hB.chg g29 (Nat.le_trans hbw hB.size)
      replace hL := hL.chg g29
      refine WL.val (dx_move rfl rfl) rfl rfl ?_
      refine WL.val (dx_extract rfl rfl rfl) rfl rfl ?_
      refine WL.val (dx_extract rfl rfl rfl) rfl rfl ?_
      refine WL.get (dx_alloc rfl ty_zero_26 rfl) rfl rfl ?_
      rintro _ W46 ⟨rfl, k47, b48, z49⟩
      have n50 : P ≠ W30.heap.size := Nat.ne_of_lt hp31.lt
      have n51 : Bp ≠ W30.heap.size := Nat.ne_of_lt hBp.lt
      have n52 : V ≠ W30.heap.size := Nat.ne_of_lt hV.lt
      have n53 : B0 ≠ W30.heap.size := Nat.ne_of_lt hO.lt
      have l54 := hB.size
      replace hts := hts.more b48 (Nat.le_refl _)
      replace hp31 := hp31.below b48
      replace hBp := hBp.below b48
      replace hV := hV.below b48
      replace hO := hO.below b48
      replace hB := hB.both (.of_below (b48.mono (Nat.le_trans hbw hB.size)))
      replace hL := LL.more hL z49
      refine WL.do (dx_store (cs' := [.int .i64 0, .int .i64 0, .string ⟨#[]⟩, .slice none 0 0, .slice none 0 0]) (vs := [.int .i64 0, .int .i64 0, .string ⟨#[]⟩, .slice none 0 0, .slice none 0 0]) rfl ty_size_26_5 rfl rfl rfl (oc_cons rfl (oc_cons rfl (oc_cons rfl (oc_cons rfl (oc_cons rfl oc_nil))))) k47 rfl (Nat.le_of_ble_eq_true rfl) rfl) rfl ?_
      rintro _ W55 ⟨k57, o56⟩
      replace hp31 := hp31.other o56 n50
      replace hBp := hBp.other o56 n51
      replace hV := hV.other o56 n52
      replace hO := hO.other o56 n53
      clear k47
      replace hts := hts.only o56 (.head _)
      replace hB := hB.both (.of_only o56 (.inr (.inr (Nat.le_trans hbw l54))))
      replace hL := LL.only hL o56
      refine WL.val (dx_assign rfl rfl) rfl rfl ?_
      refine WL.nil ?_
      refine hK2 ?_
      refine WC.seq fun K58 hK58 => ?_
      have hsW := hB.size
      have hDV := hB0V
      have hbD := hbB
      refine WC.drawL (fun L_ W_ => H2 false W55 V B0 (.slice (some ⟨B0, 0, none⟩) (ts.map encT).length cap) (ts.map encT) [.int .i64 0, .int .i64 0, .string ⟨#[]⟩, .slice none 0 0, .slice none 0 0] (L_ 4) (L_ 5) (L_ 7) (L_ 9) W_) 10 (rel2 false V B0 (ts.map encT) [.int .i64 0, .int .i64 0, .string ⟨#[]⟩, .slice none 0 0, .slice none 0 0]) (sd2 W55 V B0 (ts.map encT).length (.slice (some ⟨B0, 0, none⟩) (ts.map encT).length cap) (ts.map encT) [.int .i64 0, .int .i64 0, .string ⟨#[]⟩, .slice none 0 0, .slice none 0 0]) [[], [0], [], [1], [], [1, 4, 0, 1, 2, 3, 4], [5, 3, 0, 1, 2, 3, 4, 5], [6, 2, 5, 0, 1, 2, 3, 4, 5], [0, 1, 2, 3, 4, 5], [8, 5, 5, 0, 1, 2, 3, 4, 5]] (by kernel_rfl) (by kernel_rfl) (by kernel_rfl) (by kernel_rfl) (by kernel_rfl) (by kernel_rfl) (by kernel_rfl) (begin2 hV (fun _ => hO)) (mono2 hDV) ?_ ?_
      ·
        refine ⟨fun L_ Wd hl hn hG => ?_, ?_⟩
        ·
          replace hG : H2 false W55 V B0 (.slice (some ⟨B0, 0, none⟩) (ts.map encT).length cap) (ts.map encT) [.int .i64 0, .int .i64 0, .string ⟨#[]⟩, .slice none 0 0, .slice none 0 0] (L_ 4) (L_ 5) (L_ 7) (L_ 9) Wd := hG
          exact DV.dr (dx_fld (o1 := 4) rfl ty_fld_26_4_4 rfl rfl) ⟨rel_o (by decide) (by decide) (by decide) (Below.refl _ _), hG, rfl⟩
        refine ⟨fun L_ Wd hl hn hG => ?_, ?_⟩
        ·
          replace hG : H2 false W55 V B0 (.slice (some ⟨B0, 0, none⟩) (ts.map encT).length cap) (ts.map encT) [.int .i64 0, .int .i64 0, .string ⟨#[]⟩, .slice none 0 0, .slice none 0 0] (L_ 4) (L_ 5) (L_ 7) (L_ 9) Wd := hG
          exact DV.dr (dx_load rfl ty_one_24 rfl ((hG.2.1 (hn 9 (by decide))).cell (k := 4) rfl)) ⟨rel_o (by decide) (by decide) (by decide) (Below.refl _ _), hG, rfl⟩
        refine ⟨fun L_ Wd hl hn hG => ?_, ?_⟩
        ·
          replace hG : H2 false W55 V B0 (.slice (some ⟨B0, 0, none⟩) (ts.map encT).length cap) (ts.map encT) [.int .i64 0, .int .i64 0, .string ⟨#[]⟩, .slice none 0 0, .slice none 0 0] (L_ 4) (L_ 5) (L_ 7) (L_ 9) Wd := hG
          exact DV.dr (dx_loadN (cs := [.int .i64 0, .int .i64 0, .string ⟨#[]⟩, .slice none 0 0, .slice none 0 0]) rfl ty_agg_26_5 rfl (k57.chgV hG.1 k57.lt n52.symm (by have := k57.lt; exact n53.symm)).range rfl) ⟨rel_o (by decide) (by decide) (by decide) (Below.refl _ _), hG, rfl⟩
        refine ⟨fun L_ Wd hl hn hG => ?_, ?_⟩
        ·
          replace hG : H2 false W55 V B0 (.slice (some ⟨B0, 0, none⟩) (ts.map encT).length cap) (ts.map encT) [.int .i64 0, .int .i64 0, .string ⟨#[]⟩, .slice none 0 0, .slice none 0 0] (L_ 4) (L_ 5) (L_ 7) (L_ 9) Wd := hG
          exact DV.dr (dx_len rfl Try.underlying24 rfl) ⟨rel_o (by decide) (by decide) (by decide) (Below.refl _ _), hG, rfl⟩
        refine ⟨fun L_ Wd hl hn hG => ?_, ?_⟩
        ·
          replace hG : H2 false W55 V B0 (.slice (some ⟨B0, 0, none⟩) (ts.map encT).length cap) (ts.map encT) [.int .i64 0, .int .i64 0, .string ⟨#[]⟩, .slice none 0 0, .slice none 0 0] (L_ 4) (L_ 5) (L_ 7) (L_ 9) Wd := hG
          have h5_ := hn 5 (by decide)
          rw [hl, h5_] at hG
          refine (dx_lit1X (r := zR) rfl ty_ap_24 (by decide) (by decide) rfl rfl rfl).mono ?_
          rintro u W_ ⟨⟨k1_, k2_, k3_⟩, k4_⟩
          have hs0_ := hG.1.size
          refine ⟨rel_o (by decide) (by decide) (by decide) k2_, ?_, ⟨Wd.heap.size, ?_, ?_, hs0_, k1_⟩⟩
          · show H2 _ _ _ _ _ _ _ true (L_ 5) (L_ 7) (L_ 9) _
            rw [h5_]
            exact lit2 hG k2_ k4_
          · have := hG.2.2.1 rfl; rw [if_neg (by decide)] at this; exact Nat.ne_of_gt this.lt
          · have := hV.lt; omega
        refine ⟨fun L_ Wd hl hn hG => ?_, ?_⟩
        ·
          intro u4 q4 u4 q4
          replace hG : H2 false W55 V B0 (.slice (some ⟨B0, 0, none⟩) (ts.map encT).length cap) (ts.map encT) [.int .i64 0, .int .i64 0, .string ⟨#[]⟩, .slice none 0 0, .slice none 0 0] (L_ 4) (L_ 5) (L_ 7) (L_ 9) Wd := hG
          have h7_ := hn 7 (by decide)
          have h9_ := hn 9 (by decide)
          rw [hl, h7_, h9_] at hG
          obtain ⟨B4, e1_, e2_, e3_, e4_⟩ := q4
          have e5_ := e4_.lt
          have hO_ := hG.2.2.1 rfl
          rw [if_neg (by decide)] at hO_
          refine (dx_apRoom rfl ty_ap_24 rfl rfl hO_ (e4_.rd (L := []) (by simp)) (by simp) (oc_lit zR (oc_cons rfl (oc_cons rfl (oc_cons rfl (oc_cons rfl (oc_cons rfl oc_nil)))))) (by simpa using hroom)).mono ?_
          rintro u W_ ⟨-, k1_, k2_⟩
          refine ⟨(by unfold rel2; rw [if_pos rfl]; exact k2_), ?_, ⟨zR, k1_⟩⟩
          show H2 _ _ _ _ _ _ _ (L_ 4) true (L_ 7) (L_ 9) _
          rw [h7_, h9_]
          exact app2 hDV hG k2_
        refine ⟨fun L_ Wd hl hn hG => ?_, ?_⟩
        ·
          intro u5 q5 u4 q4 u5 q5
          replace hG : H2 false W55 V B0 (.slice (some ⟨B0, 0, none⟩) (ts.map encT).length cap) (ts.map encT) [.int .i64 0, .int .i64 0, .string ⟨#[]⟩, .slice none 0 0, .slice none 0 0] (L_ 4) (L_ 5) (L_ 7) (L_ 9) Wd := hG
          obtain ⟨r_, h5_⟩ := q5
          exact DV.dr (dx_idxO (ts.map encT).length rfl ty_slice_24 rfl rfl h5_ rfl (by simp) rfl) ⟨rel_o (by decide) (by decide) (by decide) (Below.refl _ _), hG, rfl⟩
        refine ⟨fun L_ Wd hl hn hG => ?_, ?_⟩
        ·
          intro u5 q5 u4 q4 u5 q5
          replace hG : H2 false W55 V B0 (.slice (some ⟨B0, 0, none⟩) (ts.map encT).length cap) (ts.map encT) [.int .i64 0, .int .i64 0, .string ⟨#[]⟩, .slice none 0 0, .slice none 0 0] (L_ 4) (L_ 5) (L_ 7) (L_ 9) Wd := hG
          have hq_ := q5
          obtain ⟨r_, h5_⟩ := q5
          refine (dx_storeO (k := (ts.map encT).length) (r := [.int .i64 0, .int .i64 0, .string ⟨#[]⟩, .slice none 0 0, .slice none 0 0]) rfl ty_size_26_5 rfl rfl rfl (oc_cons rfl (oc_cons rfl (oc_cons rfl (oc_cons rfl (oc_cons rfl oc_nil))))) h5_ rfl (by simp) rfl).mono ?_
          rintro _ W_ ⟨k1_, k2_⟩
          rw [show ((ts.map encT) ++ [r_]).set (ts.map encT).length [.int .i64 0, .int .i64 0, .string ⟨#[]⟩, .slice none 0 0, .slice none 0 0] = (ts.map encT) ++ [[.int .i64 0, .int .i64 0, .string ⟨#[]⟩, .slice none 0 0, .slice none 0 0]] from set_last] at k1_
          have hs_ : ∀ u r, OwS 5 Wd u ((ts.map encT) ++ [r]) B0 → OwS 5 W_ u ((ts.map encT) ++ [[.int .i64 0, .int .i64 0, .string ⟨#[]⟩, .slice none 0 0, .slice none 0 0]]) B0 := fun u r h => by have e_ := h5_.uniq h (by simp); rw [← e_]; exact k1_
          rw [hl] at hG
          refine ⟨(by unfold rel2; rw [if_neg (by decide), if_pos rfl]; exact ⟨k2_, hs_⟩), ?_, trivial⟩
          show H2 _ _ _ _ _ _ _ (L_ 4) (L_ 5) true (L_ 9) _
          exact row3 (c := cap) hDV (fun h => rfl) hG k2_ hs_ ⟨_, r_, h5_⟩
        refine ⟨fun L_ Wd hl hn hG => ?_, ?_⟩
        ·
          intro u4 q4 u5 q5
          replace hG : H2 false W55 V B0 (.slice (some ⟨B0, 0, none⟩) (ts.map encT).length cap) (ts.map encT) [.int .i64 0, .int .i64 0, .string ⟨#[]⟩, .slice none 0 0, .slice none 0 0] (L_ 4) (L_ 5) (L_ 7) (L_ 9) Wd := hG
          exact DV.dr (dx_fld (o1 := 4) rfl ty_fld_26_4_4 rfl rfl) ⟨rel_o (by decide) (by decide) (by decide) (Below.refl _ _), hG, rfl⟩
        refine ⟨fun L_ Wd hl hn hG => ?_, ?_⟩
        ·
          intro u5 q5 u5 q5 u4 q4 u5 q5
          replace hG : H2 false W55 V B0 (.slice (some ⟨B0, 0, none⟩) (ts.map encT).length cap) (ts.map encT) [.int .i64 0, .int .i64 0, .string ⟨#[]⟩, .slice none 0 0, .slice none 0 0] (L_ 4) (L_ 5) (L_ 7) (L_ 9) Wd := hG
          obtain ⟨r_, h5_⟩ := q5
          rw [hl] at hG
          refine (dx_store (cs' := vC u5) (vs := [u5]) rfl ty_size_24_1 rfl rfl (oc_one h5_.one) (oc_cons h5_.one oc_nil) (hG.2.1 rfl) rfl (Nat.le_of_ble_eq_true rfl) rfl).mono ?_
          rintro _ W_ ⟨k1_, k2_⟩
          refine ⟨(by unfold rel2; rw [if_neg (by decide), if_neg (by decide), if_pos rfl]; exact k2_), ?_, trivial⟩
          show H2 _ _ _ _ _ _ _ (L_ 4) (L_ 5) (L_ 7) true _
          exact put3 hDV hG k2_ k1_ h5_
        exact trivial
      ·
        intro We hGe
        obtain ⟨hc, uN, hVe, hOe⟩ := end2 (show H2 false W55 V B0 (.slice (some ⟨B0, 0, none⟩) (ts.map encT).length cap) (ts.map encT) [.int .i64 0, .int .i64 0, .string ⟨#[]⟩, .slice none 0 0, .slice none 0 0] true true true true We from hGe)
        intro u4 q4 u5 q5 _ _ _ _
        have hts_ : ∀ c ∈ ts, RdT (n + 1) (B0 :: L) We c := fun c hc_ => ((hts c hc_).less (fun x hx => .tail _ hx)).inner hc hVL
        replace hp31 := hp31.chgV hc hp31.lt hVP.symm hB0P.symm
        replace hBp := hBp.chgV hc hBp.lt hBV hB0Bp.symm
        replace hB := hB.inner hc (Nat.le_trans hbw hB.size) hbD
        replace hL := hL.chgV hc
        refine WL.nil ?_
        refine hK58 ?_
        refine WC.seq fun K59 hK59 => ?_
        refine WC.region ?_
        refine WL.val (dx_move rfl rfl) rfl rfl ?_
        refine WL.val (dx_assign rfl rfl) rfl rfl ?_
        refine WL.nil ?_
        refine hK59 ?_
        refine WC.ret fun a_ ha_ => ?_
        exact hQ (cx_ret1 rfl (.tmp rfl) (.inr ⟨k17, e19, rfl, hw24, (by unfold oneL; rw [hw25]), by omega, ⟨vC uN, rfl, (oc_cons rfl (oc_cons rfl (oc_cons rfl (oc_cons rfl (oc_cons hOe.one oc_nil))))), hVe⟩, hp31⟩) hB ha_)
  obtain rfl : cap = (ts.map encT).length := by omega
  refine cx_enter (N := 19) (f := [(0, .pointer (some ⟨Bp, 0, none⟩)), (1, .pointer (some ⟨V, 0, none⟩))]) Try.func89 rfl rfl rfl rfl fun Q hQ hE_ => ?_
  have hB := ChgV.refl b P V w
  refine WC.seq fun K1 hK1 => ?_
  refine WC.region ?_
  refine WL.val (dx_assign rfl rfl) rfl rfl ?_
  refine WL.nil ?_
  refine hK1 ?_
  refine WC.seq fun K2 hK2 => ?_
  refine WC.region ?_
  refine WL.val (dx_load rfl ty_one_51 rfl (hBp.cell (k := 0) rfl)) rfl rfl ?_
  refine WL.get (dx_cw rfl Try.func34 rfl rfl rfl (hv P ka w _ hL (.tail _ hPL) (by omega) hp)) rfl rfl ?_
  rintro _ W30 ⟨(⟨k16, t18, rfl, hw20, hw21, hw22, hw23, hp31⟩ | ⟨k17, e19, rfl, hw24, hw25, hw26, hp31⟩), g29⟩
  ·
    replace hts := hts.chgL g29 (.tail _ hPL)
    replace hBp := hBp.chg g29 hBP
    replace hV := hV.chg g29 hVP
    replace hO := hO.chgL g29 hB0P
    replace hB := hB.chg g29 (Nat.le_trans hbw hB.size)
    replace hL := hL.chg g29
    refine WL.val (dx_move rfl rfl) rfl rfl ?_
    refine WL.val (dx_extract rfl rfl rfl) rfl rfl ?_
    refine WL.val (dx_extract rfl rfl rfl) rfl rfl ?_
    refine WL.get (dx_alloc rfl ty_zero_26 rfl) rfl rfl ?_
    rintro _ W32 ⟨rfl, k33, b34, z35⟩
    have n36 : P ≠ W30.heap.size := Nat.ne_of_lt hp31.lt
    have n37 : Bp ≠ W30.heap.size := Nat.ne_of_lt hBp.lt
    have n38 : V ≠ W30.heap.size := Nat.ne_of_lt hV.lt
    have n39 : B0 ≠ W30.heap.size := Nat.ne_of_lt hO.lt
    have l40 := hB.size
    replace hts := hts.more b34 (Nat.le_refl _)
    replace hw21 := hw21.more b34 (Nat.le_refl _)
    replace hp31 := hp31.below b34
    replace hBp := hBp.below b34
    replace hV := hV.below b34
    replace hO := hO.below b34
    replace hB := hB.both (.of_below (b34.mono (Nat.le_trans hbw hB.size)))
    replace hL := LL.more hL z35
    refine WL.do (dx_store (cs' := [.int .i64 t18.kind, .int .i64 t18.num, .string t18.text, t18.nv, t18.iv]) (vs := [.int .i64 t18.kind, .int .i64 t18.num, .string t18.text, t18.nv, t18.iv]) rfl ty_size_26_5 rfl rfl rfl (oc_cons rfl (oc_cons rfl (oc_cons rfl (oc_cons (hw21.1).one (oc_cons (hw21.2.1).one oc_nil))))) k33 rfl (Nat.le_of_ble_eq_true rfl) rfl) rfl ?_
    rintro _ W41 ⟨k43, o42⟩
    replace hp31 := hp31.other o42 n36
    replace hBp := hBp.other o42 n37
    replace hV := hV.other o42 n38
    replace hO := hO.other o42 n39
    clear k33
    replace hts := hts.only o42 (.head _)
    replace hw21 := hw21.only o42 (.head _)
    replace hB := hB.both (.of_only o42 (.inr (.inr (Nat.le_trans hbw l40))))
    replace hL := LL.only hL o42
    refine WL.val (dx_assign rfl rfl) rfl rfl ?_
    refine WL.nil ?_
    refine hK2 ?_
    refine WC.seq fun K44 hK44 => ?_
    have hsW := hB.size
    obtain ⟨D, hD⟩ : ∃ D, D = W41.heap.size + 1 := ⟨_, rfl⟩
    have hDV : D ≠ V := by have := hV.lt; omega
    have hbD : b ≤ D := by omega
    refine WC.drawL (fun L_ W_ => H2 true W41 V D (.slice (some ⟨B0, 0, none⟩) (ts.map encT).length (ts.map encT).length) (ts.map encT) [.int .i64 t18.kind, .int .i64 t18.num, .string t18.text, t18.nv, t18.iv] (L_ 4) (L_ 5) (L_ 7) (L_ 9) W_) 10 (rel2 true V D (ts.map encT) [.int .i64 t18.kind, .int .i64 t18.num, .string t18.text, t18.nv, t18.iv]) (sd2 W41 V D (ts.map encT).length (.slice (some ⟨B0, 0, none⟩) (ts.map encT).length (ts.map encT).length) (ts.map encT) [.int .i64 t18.kind, .int .i64 t18.num, .string t18.text, t18.nv, t18.iv]) [[], [0], [], [1], [], [1, 4, 0, 1, 2, 3, 4], [5, 3, 0, 1, 2, 3, 4, 5], [6, 2, 5, 0, 1, 2, 3, 4, 5], [0, 1, 2, 3, 4, 5], [8, 5, 5, 0, 1, 2, 3, 4, 5]] (by kernel_rfl) (by kernel_rfl) (by kernel_rfl) (by kernel_rfl) (by kernel_rfl) (by kernel_rfl) (by kernel_rfl) (begin2 hV (fun h => by cases h)) (mono2 hDV) ?_ ?_
    ·
      refine ⟨fun L_ Wd hl hn hG => ?_, ?_⟩
      ·
        replace hG : H2 true W41 V D (.slice (some ⟨B0, 0, none⟩) (ts.map encT).length (ts.map encT).length) (ts.map encT) [.int .i64 t18.kind, .int .i64 t18.num, .string t18.text, t18.nv, t18.iv] (L_ 4) (L_ 5) (L_ 7) (L_ 9) Wd := hG
        exact DV.dr (dx_fld (o1 := 4) rfl ty_fld_26_4_4 rfl rfl) ⟨rel_o (by decide) (by decide) (by decide) (Below.refl _ _), hG, rfl⟩
      refine ⟨fun L_ Wd hl hn hG => ?_, ?_⟩
      ·
        replace hG : H2 true W41 V D (.slice (some ⟨B0, 0, none⟩) (ts.map encT).length (ts.map encT).length) (ts.map encT) [.int .i64 t18.kind, .int .i64 t18.num, .string t18.text, t18.nv, t18.iv] (L_ 4) (L_ 5) (L_ 7) (L_ 9) Wd := hG
        exact DV.dr (dx_load rfl ty_one_24 rfl ((hG.2.1 (hn 9 (by decide))).cell (k := 4) rfl)) ⟨rel_o (by decide) (by decide) (by decide) (Below.refl _ _), hG, rfl⟩
      refine ⟨fun L_ Wd hl hn hG => ?_, ?_⟩
      ·
        replace hG : H2 true W41 V D (.slice (some ⟨B0, 0, none⟩) (ts.map encT).length (ts.map encT).length) (ts.map encT) [.int .i64 t18.kind, .int .i64 t18.num, .string t18.text, t18.nv, t18.iv] (L_ 4) (L_ 5) (L_ 7) (L_ 9) Wd := hG
        exact DV.dr (dx_loadN (cs := [.int .i64 t18.kind, .int .i64 t18.num, .string t18.text, t18.nv, t18.iv]) rfl ty_agg_26_5 rfl (k43.chgV hG.1 k43.lt n38.symm (by have := k43.lt; omega)).range rfl) ⟨rel_o (by decide) (by decide) (by decide) (Below.refl _ _), hG, rfl⟩
      refine ⟨fun L_ Wd hl hn hG => ?_, ?_⟩
      ·
        replace hG : H2 true W41 V D (.slice (some ⟨B0, 0, none⟩) (ts.map encT).length (ts.map encT).length) (ts.map encT) [.int .i64 t18.kind, .int .i64 t18.num, .string t18.text, t18.nv, t18.iv] (L_ 4) (L_ 5) (L_ 7) (L_ 9) Wd := hG
        exact DV.dr (dx_len rfl Try.underlying24 rfl) ⟨rel_o (by decide) (by decide) (by decide) (Below.refl _ _), hG, rfl⟩
      refine ⟨fun L_ Wd hl hn hG => ?_, ?_⟩
      ·
        replace hG : H2 true W41 V D (.slice (some ⟨B0, 0, none⟩) (ts.map encT).length (ts.map encT).length) (ts.map encT) [.int .i64 t18.kind, .int .i64 t18.num, .string t18.text, t18.nv, t18.iv] (L_ 4) (L_ 5) (L_ 7) (L_ 9) Wd := hG
        have h5_ := hn 5 (by decide)
        rw [hl, h5_] at hG
        refine (dx_lit1X (r := zR) rfl ty_ap_24 (by decide) (by decide) rfl rfl rfl).mono ?_
        rintro u W_ ⟨⟨k1_, k2_, k3_⟩, k4_⟩
        have hs0_ := hG.1.size
        refine ⟨rel_o (by decide) (by decide) (by decide) k2_, ?_, ⟨Wd.heap.size, ?_, ?_, hs0_, k1_⟩⟩
        · show H2 _ _ _ _ _ _ _ true (L_ 5) (L_ 7) (L_ 9) _
          rw [h5_]
          exact lit2 hG k2_ k4_
        · have := hG.2.2.1 rfl; rw [if_pos rfl, if_neg (by decide)] at this; omega
        · have := hV.lt; omega
      refine ⟨fun L_ Wd hl hn hG => ?_, ?_⟩
      ·
        intro u4 q4 u4 q4
        replace hG : H2 true W41 V D (.slice (some ⟨B0, 0, none⟩) (ts.map encT).length (ts.map encT).length) (ts.map encT) [.int .i64 t18.kind, .int .i64 t18.num, .string t18.text, t18.nv, t18.iv] (L_ 4) (L_ 5) (L_ 7) (L_ 9) Wd := hG
        have h7_ := hn 7 (by decide)
        have h9_ := hn 9 (by decide)
        rw [hl, h7_, h9_] at hG
        obtain ⟨B4, e1_, e2_, e3_, e4_⟩ := q4
        have e5_ := e4_.lt
        have hz_ := hG.2.2.1 rfl
        rw [if_pos rfl] at hz_
        have hz2_ : Wd.heap.size = D := by rw [hz_] at e5_ ⊢; split at e5_ <;> split <;> omega
        refine (dx_apF (rs := (ts.map encT)) (L := []) rfl ty_ap_24 rfl rfl (((hO.chgV hG.1 hO.lt hB0V (by have := hO.lt; omega)).rd (L := []) (by simp))) (e4_.rd (L := []) (by simp)) (by simp) (by simp [maxLen] <;> omega) (by simp <;> omega)).mono ?_
        rintro u W_ ⟨k1_, k2_, k3_⟩
        rw [hz2_] at k1_
        refine ⟨(by unfold rel2; rw [if_pos rfl]; exact k2_), ?_, ⟨zR, k1_⟩⟩
        show H2 _ _ _ _ _ _ _ (L_ 4) true (L_ 7) (L_ 9) _
        rw [h7_, h9_]
        exact app2 hDV hG k2_
      refine ⟨fun L_ Wd hl hn hG => ?_, ?_⟩
      ·
        intro u5 q5 u4 q4 u5 q5
        replace hG : H2 true W41 V D (.slice (some ⟨B0, 0, none⟩) (ts.map encT).length (ts.map encT).length) (ts.map encT) [.int .i64 t18.kind, .int .i64 t18.num, .string t18.text, t18.nv, t18.iv] (L_ 4) (L_ 5) (L_ 7) (L_ 9) Wd := hG
        obtain ⟨r_, h5_⟩ := q5
        exact DV.dr (dx_idxO (ts.map encT).length rfl ty_slice_24 rfl rfl h5_ rfl (by simp) rfl) ⟨rel_o (by decide) (by decide) (by decide) (Below.refl _ _), hG, rfl⟩
      refine ⟨fun L_ Wd hl hn hG => ?_, ?_⟩
      ·
        intro u5 q5 u4 q4 u5 q5
        replace hG : H2 true W41 V D (.slice (some ⟨B0, 0, none⟩) (ts.map encT).length (ts.map encT).length) (ts.map encT) [.int .i64 t18.kind, .int .i64 t18.num, .string t18.text, t18.nv, t18.iv] (L_ 4) (L_ 5) (L_ 7) (L_ 9) Wd := hG
        have hq_ := q5
        obtain ⟨r_, h5_⟩ := q5
        refine (dx_storeO (k := (ts.map encT).length) (r := [.int .i64 t18.kind, .int .i64 t18.num, .string t18.text, t18.nv, t18.iv]) rfl ty_size_26_5 rfl rfl rfl (oc_cons rfl (oc_cons rfl (oc_cons rfl (oc_cons (hw21.1).one (oc_cons (hw21.2.1).one oc_nil))))) h5_ rfl (by simp) rfl).mono ?_
        rintro _ W_ ⟨k1_, k2_⟩
        rw [show ((ts.map encT) ++ [r_]).set (ts.map encT).length [.int .i64 t18.kind, .int .i64 t18.num, .string t18.text, t18.nv, t18.iv] = (ts.map encT) ++ [[.int .i64 t18.kind, .int .i64 t18.num, .string t18.text, t18.nv, t18.iv]] from set_last] at k1_
        have hs_ : ∀ u r, OwS 5 Wd u ((ts.map encT) ++ [r]) D → OwS 5 W_ u ((ts.map encT) ++ [[.int .i64 t18.kind, .int .i64 t18.num, .string t18.text, t18.nv, t18.iv]]) D := fun u r h => by have e_ := h5_.uniq h (by simp); rw [← e_]; exact k1_
        rw [hl] at hG
        refine ⟨(by unfold rel2; rw [if_neg (by decide), if_pos rfl]; exact ⟨k2_, hs_⟩), ?_, trivial⟩
        show H2 _ _ _ _ _ _ _ (L_ 4) (L_ 5) true (L_ 9) _
        exact row3 (c := 0) hDV (fun h => (by cases h)) hG k2_ hs_ ⟨_, r_, h5_⟩
      refine ⟨fun L_ Wd hl hn hG => ?_, ?_⟩
      ·
        intro u4 q4 u5 q5
        replace hG : H2 true W41 V D (.slice (some ⟨B0, 0, none⟩) (ts.map encT).length (ts.map encT).length) (ts.map encT) [.int .i64 t18.kind, .int .i64 t18.num, .string t18.text, t18.nv, t18.iv] (L_ 4) (L_ 5) (L_ 7) (L_ 9) Wd := hG
        exact DV.dr (dx_fld (o1 := 4) rfl ty_fld_26_4_4 rfl rfl) ⟨rel_o (by decide) (by decide) (by decide) (Below.refl _ _), hG, rfl⟩
      refine ⟨fun L_ Wd hl hn hG => ?_, ?_⟩
      ·
        intro u5 q5 u5 q5 u4 q4 u5 q5
        replace hG : H2 true W41 V D (.slice (some ⟨B0, 0, none⟩) (ts.map encT).length (ts.map encT).length) (ts.map encT) [.int .i64 t18.kind, .int .i64 t18.num, .string t18.text, t18.nv, t18.iv] (L_ 4) (L_ 5) (L_ 7) (L_ 9) Wd := hG
        obtain ⟨r_, h5_⟩ := q5
        rw [hl] at hG
        refine (dx_store (cs' := vC u5) (vs := [u5]) rfl ty_size_24_1 rfl rfl (oc_one h5_.one) (oc_cons h5_.one oc_nil) (hG.2.1 rfl) rfl (Nat.le_of_ble_eq_true rfl) rfl).mono ?_
        rintro _ W_ ⟨k1_, k2_⟩
        refine ⟨(by unfold rel2; rw [if_neg (by decide), if_neg (by decide), if_pos rfl]; exact k2_), ?_, trivial⟩
        show H2 _ _ _ _ _ _ _ (L_ 4) (L_ 5) (L_ 7) true _
        exact put3 hDV hG k2_ k1_ h5_
      exact trivial
    ·
      intro We hGe
      obtain ⟨hc, uN, hVe, hOe⟩ := end2 (show H2 true W41 V D (.slice (some ⟨B0, 0, none⟩) (ts.map encT).length (ts.map encT).length) (ts.map encT) [.int .i64 t18.kind, .int .i64 t18.num, .string t18.text, t18.nv, t18.iv] true true true true We from hGe)
      intro u4 q4 u5 q5 _ _ _ _
      have hts_ : ∀ c ∈ ts, RdT (n + 1) (D :: L) We c := fun c hc_ => (((hts c hc_).less (fun x hx => .tail _ (.tail _ hx))).more (Below.refl _ _) (show W41.heap.size ≤ D by omega)).inner hc hVL
      have ht_ : RdT (n + 1) (D :: L) We t18 := ((hw21.less (fun x hx => .tail _ (.tail _ hx))).more (Below.refl _ _) (show W41.heap.size ≤ D by omega)).inner hc hVL
      replace hp31 := hp31.chgV hc hp31.lt hVP.symm (by have := hp31.lt; omega)
      replace hBp := hBp.chgV hc hBp.lt hBV (by have := hBp.lt; omega)
      replace hB := hB.inner hc (Nat.le_trans hbw hB.size) hbD
      replace hL := hL.chgV hc
      refine WL.nil ?_
      refine hK44 ?_
      refine WC.seq fun K45 hK45 => ?_
      refine WC.region ?_
      refine WL.val (dx_move rfl rfl) rfl rfl ?_
      refine WL.val (dx_assign rfl rfl) rfl rfl ?_
      refine WL.nil ?_
      refine hK45 ?_
      refine WC.ret fun a_ ha_ => ?_
      exact hQ (cx_ret1 rfl (.tmp rfl) (.inl ⟨k16, ts.map Tr.er ++ [t18.er], rfl, (by unfold oneL; rw [hw20]), by omega, by omega, (by rw [List.length_append, List.length_map]; show ts.length + 1 ≤ _; omega), ⟨uN, ts ++ [t18], by simp, hBp, hVe, hI0, .inr ⟨D, hbD, (by rw [List.map_append]; exact hOe), fun c hc_ => (by rcases List.mem_append.1 hc_ with h_ | h_; exact hts_ c h_; (rw [List.mem_singleton.1 h_]; exact ht_))⟩⟩, hp31⟩) hB ha_)
  ·
    replace hts := hts.chgL g29 (.tail _ hPL)
    replace hBp := hBp.chg g29 hBP
    replace hV := hV.chg g29 hVP
    replace hO := hO.chgL g29 hB0P
    replace hB := hB.chg g29 (Nat.le_trans hbw hB.size)
    replace hL := hL.chg g29
    refine WL.val (dx_move rfl rfl) rfl rfl ?_
    refine WL.val (dx_extract rfl rfl rfl) rfl rfl ?_
    refine WL.val (dx_extract rfl rfl rfl) rfl rfl ?_
    refine WL.get (dx_alloc rfl ty_zero_26 rfl) rfl rfl ?_
    rintro _ W46 ⟨rfl, k47, b48, z49⟩
    have n50 : P ≠ W30.heap.size := Nat.ne_of_lt hp31.lt
    have n51 : Bp ≠ W30.heap.size := Nat.ne_of_lt hBp.lt
    have n52 : V ≠ W30.heap.size := Nat.ne_of_lt hV.lt
    have n53 : B0 ≠ W30.heap.size := Nat.ne_of_lt hO.lt
    have l54 := hB.size
    replace hts := hts.more b48 (Nat.le_refl _)
    replace hp31 := hp31.below b48
    replace hBp := hBp.below b48
    replace hV := hV.below b48
    replace hO := hO.below b48
    replace hB := hB.both (.of_below (b48.mono (Nat.le_trans hbw hB.size)))
    replace hL := LL.more hL z49
    refine WL.do (dx_store (cs' := [.int .i64 0, .int .i64 0, .string ⟨#[]⟩, .slice none 0 0, .slice none 0 0]) (vs := [.int .i64 0, .int .i64 0, .string ⟨#[]⟩, .slice none 0 0, .slice none 0 0]) rfl ty_size_26_5 rfl rfl rfl (oc_cons rfl (oc_cons rfl (oc_cons rfl (oc_cons rfl (oc_cons rfl oc_nil))))) k47 rfl (Nat.le_of_ble_eq_true rfl) rfl) rfl ?_
    rintro _ W55 ⟨k57, o56⟩
    replace hp31 := hp31.other o56 n50
    replace hBp := hBp.other o56 n51
    replace hV := hV.other o56 n52
    replace hO := hO.other o56 n53
    clear k47
    replace hts := hts.only o56 (.head _)
    replace hB := hB.both (.of_only o56 (.inr (.inr (Nat.le_trans hbw l54))))
    replace hL := LL.only hL o56
    refine WL.val (dx_assign rfl rfl) rfl rfl ?_
    refine WL.nil ?_
    refine hK2 ?_
    refine WC.seq fun K58 hK58 => ?_
    have hsW := hB.size
    obtain ⟨D, hD⟩ : ∃ D, D = W55.heap.size + 1 := ⟨_, rfl⟩
    have hDV : D ≠ V := by have := hV.lt; omega
    have hbD : b ≤ D := by omega
    refine WC.drawL (fun L_ W_ => H2 true W55 V D (.slice (some ⟨B0, 0, none⟩) (ts.map encT).length (ts.map encT).length) (ts.map encT) [.int .i64 0, .int .i64 0, .string ⟨#[]⟩, .slice none 0 0, .slice none 0 0] (L_ 4) (L_ 5) (L_ 7) (L_ 9) W_) 10 (rel2 true V D (ts.map encT) [.int .i64 0, .int .i64 0, .string ⟨#[]⟩, .slice none 0 0, .slice none 0 0]) (sd2 W55 V D (ts.map encT).length (.slice (some ⟨B0, 0, none⟩) (ts.map encT).length (ts.map encT).length) (ts.map encT) [.int .i64 0, .int .i64 0, .string ⟨#[]⟩, .slice none 0 0, .slice none 0 0]) [[], [0], [], [1], [], [1, 4, 0, 1, 2, 3, 4], [5, 3, 0, 1, 2, 3, 4, 5], [6, 2, 5, 0, 1, 2, 3, 4, 5], [0, 1, 2, 3, 4, 5], [8, 5, 5, 0, 1, 2, 3, 4, 5]] (by kernel_rfl) (by kernel_rfl) (by kernel_rfl) (by kernel_rfl) (by kernel_rfl) (by kernel_rfl) (by kernel_rfl) (begin2 hV (fun h => by cases h)) (mono2 hDV) ?_ ?_
    ·
      refine ⟨fun L_ Wd hl hn hG => ?_, ?_⟩
      ·
        replace hG : H2 true W55 V D (.slice (some ⟨B0, 0, none⟩) (ts.map encT).length (ts.map encT).length) (ts.map encT) [.int .i64 0, .int .i64 0, .string ⟨#[]⟩, .slice none 0 0, .slice none 0 0] (L_ 4) (L_ 5) (L_ 7) (L_ 9) Wd := hG
        exact DV.dr (dx_fld (o1 := 4) rfl ty_fld_26_4_4 rfl rfl) ⟨rel_o (by decide) (by decide) (by decide) (Below.refl _ _), hG, rfl⟩
      refine ⟨fun L_ Wd hl hn hG => ?_, ?_⟩
      ·
        replace hG : H2 true W55 V D (.slice (some ⟨B0, 0, none⟩) (ts.map encT).length (ts.map encT).length) (ts.map encT) [.int .i64 0, .int .i64 0, .string ⟨#[]⟩, .slice none 0 0, .slice none 0 0] (L_ 4) (L_ 5) (L_ 7) (L_ 9) Wd := hG
        exact DV.dr (dx_load rfl ty_one_24 rfl ((hG.2.1 (hn 9 (by decide))).cell (k := 4) rfl)) ⟨rel_o (by decide) (by decide) (by decide) (Below.refl _ _), hG, rfl⟩
      refine ⟨fun L_ Wd hl hn hG => ?_, ?_⟩
      ·
        replace hG : H2 true W55 V D (.slice (some ⟨B0, 0, none⟩) (ts.map encT).length (ts.map encT).length) (ts.map encT) [.int .i64 0, .int .i64 0, .string ⟨#[]⟩, .slice none 0 0, .slice none 0 0] (L_ 4) (L_ 5) (L_ 7) (L_ 9) Wd := hG
        exact DV.dr (dx_loadN (cs := [.int .i64 0, .int .i64 0, .string ⟨#[]⟩, .slice none 0 0, .slice none 0 0]) rfl ty_agg_26_5 rfl (k57.chgV hG.1 k57.lt n52.symm (by have := k57.lt; omega)).range rfl) ⟨rel_o (by decide) (by decide) (by decide) (Below.refl _ _), hG, rfl⟩
      refine ⟨fun L_ Wd hl hn hG => ?_, ?_⟩
      ·
        replace hG : H2 true W55 V D (.slice (some ⟨B0, 0, none⟩) (ts.map encT).length (ts.map encT).length) (ts.map encT) [.int .i64 0, .int .i64 0, .string ⟨#[]⟩, .slice none 0 0, .slice none 0 0] (L_ 4) (L_ 5) (L_ 7) (L_ 9) Wd := hG
        exact DV.dr (dx_len rfl Try.underlying24 rfl) ⟨rel_o (by decide) (by decide) (by decide) (Below.refl _ _), hG, rfl⟩
      refine ⟨fun L_ Wd hl hn hG => ?_, ?_⟩
      ·
        replace hG : H2 true W55 V D (.slice (some ⟨B0, 0, none⟩) (ts.map encT).length (ts.map encT).length) (ts.map encT) [.int .i64 0, .int .i64 0, .string ⟨#[]⟩, .slice none 0 0, .slice none 0 0] (L_ 4) (L_ 5) (L_ 7) (L_ 9) Wd := hG
        have h5_ := hn 5 (by decide)
        rw [hl, h5_] at hG
        refine (dx_lit1X (r := zR) rfl ty_ap_24 (by decide) (by decide) rfl rfl rfl).mono ?_
        rintro u W_ ⟨⟨k1_, k2_, k3_⟩, k4_⟩
        have hs0_ := hG.1.size
        refine ⟨rel_o (by decide) (by decide) (by decide) k2_, ?_, ⟨Wd.heap.size, ?_, ?_, hs0_, k1_⟩⟩
        · show H2 _ _ _ _ _ _ _ true (L_ 5) (L_ 7) (L_ 9) _
          rw [h5_]
          exact lit2 hG k2_ k4_
        · have := hG.2.2.1 rfl; rw [if_pos rfl, if_neg (by decide)] at this; omega
        · have := hV.lt; omega
      refine ⟨fun L_ Wd hl hn hG => ?_, ?_⟩
      ·
        intro u4 q4 u4 q4
        replace hG : H2 true W55 V D (.slice (some ⟨B0, 0, none⟩) (ts.map encT).length (ts.map encT).length) (ts.map encT) [.int .i64 0, .int .i64 0, .string ⟨#[]⟩, .slice none 0 0, .slice none 0 0] (L_ 4) (L_ 5) (L_ 7) (L_ 9) Wd := hG
        have h7_ := hn 7 (by decide)
        have h9_ := hn 9 (by decide)
        rw [hl, h7_, h9_] at hG
        obtain ⟨B4, e1_, e2_, e3_, e4_⟩ := q4
        have e5_ := e4_.lt
        have hz_ := hG.2.2.1 rfl
        rw [if_pos rfl] at hz_
        have hz2_ : Wd.heap.size = D := by rw [hz_] at e5_ ⊢; split at e5_ <;> split <;> omega
        refine (dx_apF (rs := (ts.map encT)) (L := []) rfl ty_ap_24 rfl rfl (((hO.chgV hG.1 hO.lt hB0V (by have := hO.lt; omega)).rd (L := []) (by simp))) (e4_.rd (L := []) (by simp)) (by simp) (by simp [maxLen] <;> omega) (by simp <;> omega)).mono ?_
        rintro u W_ ⟨k1_, k2_, k3_⟩
        rw [hz2_] at k1_
        refine ⟨(by unfold rel2; rw [if_pos rfl]; exact k2_), ?_, ⟨zR, k1_⟩⟩
        show H2 _ _ _ _ _ _ _ (L_ 4) true (L_ 7) (L_ 9) _
        rw [h7_, h9_]
        exact app2 hDV hG k2_
      refine ⟨fun L_ Wd hl hn hG => ?_, ?_⟩
      ·
        intro u5 q5 u4 q4 u5 q5
        replace hG : H2 true W55 V D (.slice (some ⟨B0, 0, none⟩) (ts.map encT).length (ts.map encT).length) (ts.map encT) [.int .i64 0, .int .i64 0, .string ⟨#[]⟩, .slice none 0 0, .slice none 0 0] (L_ 4) (L_ 5) (L_ 7) (L_ 9) Wd := hG
        obtain ⟨r_, h5_⟩ := q5
        exact DV.dr (dx_idxO (ts.map encT).length rfl ty_slice_24 rfl rfl h5_ rfl (by simp) rfl) ⟨rel_o (by decide) (by decide) (by decide) (Below.refl _ _), hG, rfl⟩
      refine ⟨fun L_ Wd hl hn hG => ?_, ?_⟩
      ·
        intro u5 q5 u4 q4 u5 q5
        replace hG : H2 true W55 V D (.slice (some ⟨B0, 0, none⟩) (ts.map encT).length (ts.map encT).length) (ts.map encT) [.int .i64 0, .int .i64 0, .string ⟨#[]⟩, .slice none 0 0, .slice none 0 0] (L_ 4) (L_ 5) (L_ 7) (L_ 9) Wd := hG
        have hq_ := q5
        obtain ⟨r_, h5_⟩ := q5
        refine (dx_storeO (k := (ts.map encT).length) (r := [.int .i64 0, .int .i64 0, .string ⟨#[]⟩, .slice none 0 0, .slice none 0 0]) rfl ty_size_26_5 rfl rfl rfl (oc_cons rfl (oc_cons rfl (oc_cons rfl (oc_cons rfl (oc_cons rfl oc_nil))))) h5_ rfl (by simp) rfl).mono ?_
        rintro _ W_ ⟨k1_, k2_⟩
        rw [show ((ts.map encT) ++ [r_]).set (ts.map encT).length [.int .i64 0, .int .i64 0, .string ⟨#[]⟩, .slice none 0 0, .slice none 0 0] = (ts.map encT) ++ [[.int .i64 0, .int .i64 0, .string ⟨#[]⟩, .slice none 0 0, .slice none 0 0]] from set_last] at k1_
        have hs_ : ∀ u r, OwS 5 Wd u ((ts.map encT) ++ [r]) D → OwS 5 W_ u ((ts.map encT) ++ [[.int .i64 0, .int .i64 0, .string ⟨#[]⟩, .slice none 0 0, .slice none 0 0]]) D := fun u r h => by have e_ := h5_.uniq h (by simp); rw [← e_]; exact k1_
        rw [hl] at hG
        refine ⟨(by unfold rel2; rw [if_neg (by decide), if_pos rfl]; exact ⟨k2_, hs_⟩), ?_, trivial⟩
        show H2 _ _ _ _ _ _ _ (L_ 4) (L_ 5) true (L_ 9) _
        exact row3 (c := 0) hDV (fun h => (by cases h)) hG k2_ hs_ ⟨_, r_, h5_⟩
      refine ⟨fun L_ Wd hl hn hG => ?_, ?_⟩
      ·
        intro u4 q4 u5 q5
        replace hG : H2 true W55 V D (.slice (some ⟨B0, 0, none⟩) (ts.map encT).length (ts.map encT).length) (ts.map encT) [.int .i64 0, .int .i64 0, .string ⟨#[]⟩, .slice none 0 0, .slice none 0 0] (L_ 4) (L_ 5) (L_ 7) (L_ 9) Wd := hG
        exact DV.dr (dx_fld (o1 := 4) rfl ty_fld_26_4_4 rfl rfl) ⟨rel_o (by decide) (by decide) (by decide) (Below.refl _ _), hG, rfl⟩
      refine ⟨fun L_ Wd hl hn hG => ?_, ?_⟩
      ·
        intro u5 q5 u5 q5 u4 q4 u5 q5
        replace hG : H2 true W55 V D (.slice (some ⟨B0, 0, none⟩) (ts.map encT).length (ts.map encT).length) (ts.map encT) [.int .i64 0, .int .i64 0, .string ⟨#[]⟩, .slice none 0 0, .slice none 0 0] (L_ 4) (L_ 5) (L_ 7) (L_ 9) Wd := hG
        obtain ⟨r_, h5_⟩ := q5
        rw [hl] at hG
        refine (dx_store (cs' := vC u5) (vs := [u5]) rfl ty_size_24_1 rfl rfl (oc_one h5_.one) (oc_cons h5_.one oc_nil) (hG.2.1 rfl) rfl (Nat.le_of_ble_eq_true rfl) rfl).mono ?_
        rintro _ W_ ⟨k1_, k2_⟩
        refine ⟨(by unfold rel2; rw [if_neg (by decide), if_neg (by decide), if_pos rfl]; exact k2_), ?_, trivial⟩
        show H2 _ _ _ _ _ _ _ (L_ 4) (L_ 5) (L_ 7) true _
        exact put3 hDV hG k2_ k1_ h5_
      exact trivial
    ·
      intro We hGe
      obtain ⟨hc, uN, hVe, hOe⟩ := end2 (show H2 true W55 V D (.slice (some ⟨B0, 0, none⟩) (ts.map encT).length (ts.map encT).length) (ts.map encT) [.int .i64 0, .int .i64 0, .string ⟨#[]⟩, .slice none 0 0, .slice none 0 0] true true true true We from hGe)
      intro u4 q4 u5 q5 _ _ _ _
      have hts_ : ∀ c ∈ ts, RdT (n + 1) (D :: L) We c := fun c hc_ => (((hts c hc_).less (fun x hx => .tail _ (.tail _ hx))).more (Below.refl _ _) (show W55.heap.size ≤ D by omega)).inner hc hVL
      replace hp31 := hp31.chgV hc hp31.lt hVP.symm (by have := hp31.lt; omega)
      replace hBp := hBp.chgV hc hBp.lt hBV (by have := hBp.lt; omega)
      replace hB := hB.inner hc (Nat.le_trans hbw hB.size) hbD
      replace hL := hL.chgV hc
      refine WL.nil ?_
      refine hK58 ?_
      refine WC.seq fun K59 hK59 => ?_
      refine WC.region ?_
      refine WL.val (dx_move rfl rfl) rfl rfl ?_
      refine WL.val (dx_assign rfl rfl) rfl rfl ?_
      refine WL.nil ?_
      refine hK59 ?_
      refine WC.ret fun a_ ha_ => ?_
      exact hQ (cx_ret1 rfl (.tmp rfl) (.inr ⟨k17, e19, rfl, hw24, (by unfold oneL; rw [hw25]), by omega, ⟨vC uN, rfl, (oc_cons rfl (oc_cons rfl (oc_cons rfl (oc_cons rfl (oc_cons hOe.one oc_nil))))), hVe⟩, hp31⟩) hB ha_)

end Go.Proofs.Ytpinidlfcifeeaa
