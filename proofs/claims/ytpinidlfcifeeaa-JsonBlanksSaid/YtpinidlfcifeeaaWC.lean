/- A value. A whole text. A list. The cursor of the reference. Numbers in the reference. Texts in the reference. Words: letter by letter, or all at once. -/
import Derived.Test.YtpinidlfcifeeaaWB
namespace Go.Proofs.Ytpinidlfcifeeaa
open Go.RowKit
set_option linter.unusedVariables false
set_option linter.unusedSimpArgs false
set_option maxRecDepth 8000
set_option maxHeartbeats 2000000

def leafT (k n : Int) (t : ByteArray) : Tr := .mk k n t (.slice none 0 0) [] (.slice none 0 0) []
def leafS (k n : Int) (t : ByteArray) : Js := .mk k n t [] []
theorem leaf_er' (k n : Int) (t : ByteArray) : (leafT k n t).er = leafS k n t := by unfold leafT leafS; rw [Tr.er_mk]; rfl
theorem leaf_rd (k n : Int) (t : ByteArray) (m : Nat) (L : List Nat) (w : World) : RdT (m + 1) L w (leafT k n t) := ⟨RdF.nil (by decide), RdF.nil (by decide), fun c hc => by cases hc⟩
def wordR (s w : ByteArray) (kd : Int) (k : Nat) : Except Int (Js × Nat) := if wordS s w k = true then .ok (leafS kd 0 ⟨#[]⟩, k + w.size) else .error 2
def numR (s : ByteArray) (k : Nat) : Except Int (Js × Nat) := match numS s k with
 | .error e => .error e
 | .ok (n, k') => .ok (leafS 3 n ⟨#[]⟩, k')
def quoR (s : ByteArray) (k : Nat) : Except Int (Js × Nat) := match quoS s k with
 | none => .error 2
 | some (l, k') => .ok (leafS 4 0 (strOfNums l), k')
def valB (s : ByteArray) (dp : Nat) (rl ro : Except Int (Js × Nat)) (k : Nat) : Except Int (Js × Nat) :=
 if k < s.size then
  if atS s k = 110 then wordR s ⟨#[110, 117, 108, 108]⟩ 0 k else if atS s k = 116 then wordR s ⟨#[116, 114, 117, 101]⟩ 1 k else if atS s k = 102 then wordR s ⟨#[102, 97, 108, 115, 101]⟩ 2 k
  else if atS s k = 45 ∨ (48 ≤ atS s k ∧ atS s k ≤ 57) then numR s k else if atS s k = 34 then quoR s k
  else if atS s k = 91 then nestS dp rl else if atS s k = 123 then nestS dp ro else .error 2
 else .error 2
def valC (s : ByteArray) (dp : Nat) (rl ro : Except Int (Js × Nat)) (k : Nat) (c : Int) : Except Int (Js × Nat) :=
  if c = 110 then wordR s ⟨#[110, 117, 108, 108]⟩ 0 k else if c = 116 then wordR s ⟨#[116, 114, 117, 101]⟩ 1 k else if c = 102 then wordR s ⟨#[102, 97, 108, 115, 101]⟩ 2 k
  else if c = 45 ∨ (48 ≤ c ∧ c ≤ 57) then numR s k else if c = 34 then quoR s k
  else if c = 91 then nestS dp rl else if c = 123 then nestS dp ro else .error 2
theorem valB_c {s : ByteArray} {dp : Nat} {rl ro : Except Int (Js × Nat)} {k : Nat} {c : Int} (h : k < s.size → c = atS s k) (h0 : s.size ≤ k → c = 0) : valB s dp rl ro k = valC s dp rl ro k c := by
  unfold valB
  split
  · rename_i hk
    rw [← h hk]; rfl
  · rename_i hk
    obtain rfl := h0 (by omega)
    rfl
section
variable {P : Program} {ops : Array Oper} {o : Oper} {N : Nat} {f : Fl} {w : World}
theorem dx_funcP {fn : FuncId} {x : Operand} {X q : Nat} (ho : o.op = .makeFunc (.func fn) #[x] #[]) (hx : ev f x = some (.pointer (some ⟨X, q, none⟩))) (hw : wantF ops o f = some true := by rfl) : DV P ops o N f w (.func (.func fn) #[.pointer (some ⟨X, q, none⟩)] #[]) := fun a ha => by
 have hx := ha.ev hx
 exact Does.pure (wantF_of ha hw) _ (by unfold execOp; simp [ho, Instr.makeFunc, hx, Sem.run_bind, Sem.run_pure, Result.andThen_ok]) ⟨rfl, rfl⟩
end
section
variable {s wd : ByteArray} {dp k k' : Nat} {rl ro : Except Int (Js × Nat)} {c n e kd : Int} {l : List Int}
theorem valC_n (h : c = 45 ∨ (48 ≤ c ∧ c ≤ 57)) : valC s dp rl ro k c = numR s k := by unfold valC; rw [if_neg (by omega), if_neg (by omega), if_neg (by omega), if_pos h]
theorem valC_q (h : c = 34) : valC s dp rl ro k c = quoR s k := by unfold valC; rw [if_neg (by omega), if_neg (by omega), if_neg (by omega), if_neg (by omega), if_pos h]
theorem valC_l (h : c = 91) : valC s dp rl ro k c = nestS dp rl := by unfold valC; rw [if_neg (by omega), if_neg (by omega), if_neg (by omega), if_neg (by omega), if_neg (by omega), if_pos h]
theorem valC_o (h : c = 123) : valC s dp rl ro k c = nestS dp ro := by unfold valC; rw [if_neg (by omega), if_neg (by omega), if_neg (by omega), if_neg (by omega), if_neg (by omega), if_neg (by omega), if_pos h]
theorem valC_0 (h0 : ¬ c = 110) (h1 : ¬ c = 116) (h2 : ¬ c = 102) (h3 : ¬ c = 45) (h4 : ¬ (48 ≤ c ∧ c ≤ 57)) (h5 : ¬ c = 34) (h6 : ¬ c = 91) (h7 : ¬ c = 123) : valC s dp rl ro k c = .error 2 := by unfold valC; rw [if_neg h0, if_neg h1, if_neg h2, if_neg (by omega), if_neg h5, if_neg h6, if_neg h7]
theorem valC_w0 (h : c = 110) : valC s dp rl ro k c = wordR s ⟨#[110, 117, 108, 108]⟩ 0 k := by unfold valC; rw [if_pos h]
theorem valC_w1 (h : c = 116) : valC s dp rl ro k c = wordR s ⟨#[116, 114, 117, 101]⟩ 1 k := by unfold valC; rw [if_neg (by omega), if_pos h]
theorem valC_w2 (h : c = 102) : valC s dp rl ro k c = wordR s ⟨#[102, 97, 108, 115, 101]⟩ 2 k := by unfold valC; rw [if_neg (by omega), if_neg (by omega), if_pos h]
theorem wordR_t (h : wordS s wd k = true) (e1 : k' = k + wd.size) : wordR s wd kd k = .ok ((leafT kd 0 ⟨#[]⟩).er, k') := by rw [leaf_er', e1]; unfold wordR; rw [if_pos h]
theorem wordR_f (h : wordS s wd k = false) : wordR s wd kd k = .error 2 := by unfold wordR; rw [h]; rfl
theorem numR_t (h : numS s k = .ok (n, k')) : numR s k = .ok ((leafT 3 n ⟨#[]⟩).er, k') := by rw [leaf_er']; unfold numR; rw [h]
theorem numR_f (h : numS s k = .error e) : numR s k = .error e := by unfold numR; rw [h]
theorem quoR_t (h : quoS s k = some (l, k')) : quoR s k = .ok ((leafT 4 0 (strOfNums l)).er, k') := by rw [leaf_er']; unfold quoR; rw [h]
theorem quoR_f (h : quoS s k = none) : quoR s k = .error 2 := by unfold quoR; rw [h]
end
set_option maxHeartbeats 1000000 in
theorem value_v (n : Nat) (rl ro : Except Int (Js × Nat)) (s : ByteArray) (P ka dp : Nat) (w : World) (L : List Nat) (hL : LL L w) (hPL : P ∈ L) (hs : s.size ≤ 1000000) (hk : ka ≤ s.size) (hp : Blk w P (psC s ka dp))  (hdp : dp ≤ 12) (hl : ¬ dp = 12 → takeS s ka 91 = true → ∀ (W : World) (L' : List Nat), LL L' W → P ∈ L' → ∀ d, d = dp + 1 → Blk W P (psC s ka d) → CW Try.prog 64 [.pointer (some ⟨P, 0, none⟩)] W P (fun v W' => (∃ k' t, v = .tuple #[.agg #[.int .i64 t.kind, .int .i64 t.num, .string t.text, t.nv, t.iv], .int .i64 0] ∧ rl = .ok (t.er, k') ∧ RdT (n + 1) L' W' t ∧ ka < k' ∧ k' ≤ s.size ∧ Blk W' P (psC s k' d)) ∨ (∃ k' e cs, v = .tuple #[.agg (List.toArray cs), .int .i64 e] ∧ e ≠ 0 ∧ cs.length = 5 ∧ (∀ u ∈ cs, u.oneCell' = true) ∧ rl = .error e ∧ k' ≤ s.size ∧ Blk W' P (psC s k' d)))) (ho : ¬ dp = 12 → takeS s ka 123 = true → ∀ (W : World) (L' : List Nat), LL L' W → P ∈ L' → ∀ d, d = dp + 1 → Blk W P (psC s ka d) → CW Try.prog 65 [.pointer (some ⟨P, 0, none⟩)] W P (fun v W' => (∃ k' t, v = .tuple #[.agg #[.int .i64 t.kind, .int .i64 t.num, .string t.text, t.nv, t.iv], .int .i64 0] ∧ ro = .ok (t.er, k') ∧ RdT (n + 1) L' W' t ∧ ka < k' ∧ k' ≤ s.size ∧ Blk W' P (psC s k' d)) ∨ (∃ k' e cs, v = .tuple #[.agg (List.toArray cs), .int .i64 e] ∧ e ≠ 0 ∧ cs.length = 5 ∧ (∀ u ∈ cs, u.oneCell' = true) ∧ ro = .error e ∧ k' ≤ s.size ∧ Blk W' P (psC s k' d)))) : CW Try.prog 34 [.pointer (some ⟨P, 0, none⟩)] w P fun v W => (∃ k' t, v = .tuple #[.agg #[.int .i64 t.kind, .int .i64 t.num, .string t.text, t.nv, t.iv], .int .i64 0] ∧ valB s dp rl ro ka = .ok (t.er, k') ∧ RdT (n + 1) L W t ∧ ka < k' ∧ k' ≤ s.size ∧ Blk W P (psC s k' dp)) ∨ (∃ k' e, v = .tuple #[.agg #[.int .i64 0, .int .i64 0, .string ⟨#[]⟩, .slice none 0 0, .slice none 0 0], .int .i64 e] ∧ e ≠ 0 ∧ valB s dp rl ro ka = .error e ∧ k' ≤ s.size ∧ Blk W P (psC s k' dp)) := by
 refine cw_enter (N := 80) (f := [(0, .pointer (some ⟨P, 0, none⟩))]) Try.func34 rfl rfl rfl rfl fun Q hQ hE => ?_
 have hB := Chg.refl P w
 have hL0 := hL
 refine Sq fun K1 hK1 => (Rg ?_)
 refine Ge (dx_alloc rfl ty_zero_26 rfl) rfl rfl ?_
 rintro _ W2 ⟨rfl, k3, b4, z5⟩
 have n6 : P ≠ w.heap.size := Nat.ne_of_lt hp.lt
 have l7 := hB.size
 replace hp := hp.below b4
 replace hB := Chg.thenB hB b4
 replace hL := LL.more hL z5
 refine Pu rfl (Ni (hK1 (Sq fun K8 hK8 => (Sq fun K9 hK9 => (Rg (Pu rfl (Va (dx_nilCheck rfl rfl) rfl rfl ?_)))))))
 refine Va (dx_fld (o1 := 0) rfl ty_fld_55_0_0 rfl rfl) rfl rfl ?_
 refine Ge (dx_cv rfl Try.func59 rfl rfl rfl (peek_c s P ka dp W2 _ hL (.tail _ hPL) hs (by omega) hp)) rfl rfl ?_
 rintro _ W31 ⟨⟨c25, rfl, hc26, hc27, hc28, hc29⟩, b30⟩
 replace hp := hp.below b30
 replace k3 := k3.below b30
 replace hB := Chg.thenB hB b30
 replace hL := LL.below hL b30
 refine Pu rfl (Ni (hK9 (WC.block (Sq fun K32 hK32 => (Rg (Pu rfl (Va (dx_eql rfl rfl rfl) rfl rfl ?_)))))))
 refine Pu rfl (Ni (hK32 ?_))
 refine WC.cond rfl (fun c33 => ?_) (fun c33 => ?_)
 ·
  replace c33 := dT c33
  refine Sq fun K34 hK34 => (Rg (Pu rfl ?_))
  refine Ge (dx_cw rfl Try.func60 rfl rfl rfl (plain_v ({ data := #[110, 117, 108, 108] }) 0 s P ka dp W31 _ hL (.tail _ hPL) hs (by omega) hp (by decide))) rfl rfl ?_
  rintro _ W50 ⟨(⟨k42, rfl, hw44, hw45, hw46, hp51⟩ | ⟨k43, rfl, hw47, hw48, hp51⟩), g49⟩
  ·
   replace k3 := k3.chg g49 n6.symm
   replace hB := Chg.both hB g49
   refine Pu rfl (Pu rfl ?_)
   refine WL.do (dx_store (cs' := zV) (vs := zV) rfl ty_size_26_5 rfl rfl rfl (oc_cons rfl (oc_cons rfl (oc_cons rfl (oc_cons rfl (oc_cons rfl oc_nil))))) k3 rfl (Nat.le_of_ble_eq_true rfl) rfl) rfl ?_
   rintro _ W52 ⟨k54, o53⟩
   replace hp51 := hp51.other o53 n6
   clear k3
   replace hB := Chg.only hB o53 (.inr l7)
   refine Pu rfl (Ni (hK34 ?_))
   exact WC.ret fun a_ ha_ => hQ (cw_ret2 rfl (.agg rfl ty_agg_26_5 k54.range rfl) (.tmp rfl) (.inl ⟨k42, leafT 0 0 ⟨#[]⟩, rfl, (valB_c hc28 hc29).trans ((valC_w0 (by omega)).trans (wordR_t hw44 hw45)), leaf_rd _ _ _ _ _ _, by first | omega | (simp only [ByteArray.size] at *; simp at *; omega), by omega, hp51⟩) hB ha_)
  ·
   replace k3 := k3.chg g49 n6.symm
   replace hB := Chg.both hB g49
   refine Pu rfl (Pu rfl ?_)
   refine WL.do (dx_store (cs' := zV) (vs := zV) rfl ty_size_26_5 rfl rfl rfl (oc_cons rfl (oc_cons rfl (oc_cons rfl (oc_cons rfl (oc_cons rfl oc_nil))))) k3 rfl (Nat.le_of_ble_eq_true rfl) rfl) rfl ?_
   rintro _ W55 ⟨k57, o56⟩
   replace hp51 := hp51.other o56 n6
   clear k3
   replace hB := Chg.only hB o56 (.inr l7)
   refine Pu rfl (Ni (hK34 ?_))
   exact WC.ret fun a_ ha_ => hQ (cw_ret2 rfl (.agg rfl ty_agg_26_5 k57.range rfl) (.tmp rfl) (.inr ⟨k43, 2, rfl, (by decide), (valB_c hc28 hc29).trans ((valC_w0 (by omega)).trans (wordR_f hw47)), by omega, hp51⟩) hB ha_)
 ·
  replace c33 := dF c33
  refine Sq fun K58 hK58 => (Rg (Pu rfl (Va (dx_eql rfl rfl rfl) rfl rfl (Pu rfl (Ni (hK58 ?_))))))
  refine WC.cond rfl (fun c59 => ?_) (fun c59 => ?_)
  ·
   replace c59 := dT c59
   refine Sq fun K60 hK60 => (Rg (Pu rfl ?_))
   refine Ge (dx_cw rfl Try.func60 rfl rfl rfl (plain_v ({ data := #[116, 114, 117, 101] }) 1 s P ka dp W31 _ hL (.tail _ hPL) hs (by omega) hp (by decide))) rfl rfl ?_
   rintro _ W76 ⟨(⟨k68, rfl, hw70, hw71, hw72, hp77⟩ | ⟨k69, rfl, hw73, hw74, hp77⟩), g75⟩
   ·
    replace k3 := k3.chg g75 n6.symm
    replace hB := Chg.both hB g75
    refine Pu rfl (Pu rfl ?_)
    refine WL.do (dx_store (cs' := [.int .i64 1, .int .i64 0, .string ⟨#[]⟩, .slice none 0 0, .slice none 0 0]) (vs := [.int .i64 1, .int .i64 0, .string ⟨#[]⟩, .slice none 0 0, .slice none 0 0]) rfl ty_size_26_5 rfl rfl rfl (oc_cons rfl (oc_cons rfl (oc_cons rfl (oc_cons rfl (oc_cons rfl oc_nil))))) k3 rfl (Nat.le_of_ble_eq_true rfl) rfl) rfl ?_
    rintro _ W78 ⟨k80, o79⟩
    replace hp77 := hp77.other o79 n6
    clear k3
    replace hB := Chg.only hB o79 (.inr l7)
    refine Pu rfl (Ni (hK60 ?_))
    exact WC.ret fun a_ ha_ => hQ (cw_ret2 rfl (.agg rfl ty_agg_26_5 k80.range rfl) (.tmp rfl) (.inl ⟨k68, leafT 1 0 ⟨#[]⟩, rfl, (valB_c hc28 hc29).trans ((valC_w1 (by omega)).trans (wordR_t hw70 hw71)), leaf_rd _ _ _ _ _ _, by first | omega | (simp only [ByteArray.size] at *; simp at *; omega), by omega, hp77⟩) hB ha_)
   ·
    replace k3 := k3.chg g75 n6.symm
    replace hB := Chg.both hB g75
    refine Pu rfl (Pu rfl ?_)
    refine WL.do (dx_store (cs' := zV) (vs := zV) rfl ty_size_26_5 rfl rfl rfl (oc_cons rfl (oc_cons rfl (oc_cons rfl (oc_cons rfl (oc_cons rfl oc_nil))))) k3 rfl (Nat.le_of_ble_eq_true rfl) rfl) rfl ?_
    rintro _ W81 ⟨k83, o82⟩
    replace hp77 := hp77.other o82 n6
    clear k3
    replace hB := Chg.only hB o82 (.inr l7)
    refine Pu rfl (Ni (hK60 ?_))
    exact WC.ret fun a_ ha_ => hQ (cw_ret2 rfl (.agg rfl ty_agg_26_5 k83.range rfl) (.tmp rfl) (.inr ⟨k69, 2, rfl, (by decide), (valB_c hc28 hc29).trans ((valC_w1 (by omega)).trans (wordR_f hw73)), by omega, hp77⟩) hB ha_)
  ·
   replace c59 := dF c59
   refine Sq fun K84 hK84 => (Rg (Pu rfl (Va (dx_eql rfl rfl rfl) rfl rfl (Pu rfl (Ni (hK84 ?_))))))
   refine WC.cond rfl (fun c85 => ?_) (fun c85 => ?_)
   ·
    replace c85 := dT c85
    refine Sq fun K86 hK86 => (Rg (Pu rfl ?_))
    refine Ge (dx_cw rfl Try.func60 rfl rfl rfl (plain_v ({ data := #[102, 97, 108, 115, 101] }) 2 s P ka dp W31 _ hL (.tail _ hPL) hs (by omega) hp (by decide))) rfl rfl ?_
    rintro _ W102 ⟨(⟨k94, rfl, hw96, hw97, hw98, hp103⟩ | ⟨k95, rfl, hw99, hw100, hp103⟩), g101⟩
    ·
     replace k3 := k3.chg g101 n6.symm
     replace hB := Chg.both hB g101
     refine Pu rfl (Pu rfl ?_)
     refine WL.do (dx_store (cs' := [.int .i64 2, .int .i64 0, .string ⟨#[]⟩, .slice none 0 0, .slice none 0 0]) (vs := [.int .i64 2, .int .i64 0, .string ⟨#[]⟩, .slice none 0 0, .slice none 0 0]) rfl ty_size_26_5 rfl rfl rfl (oc_cons rfl (oc_cons rfl (oc_cons rfl (oc_cons rfl (oc_cons rfl oc_nil))))) k3 rfl (Nat.le_of_ble_eq_true rfl) rfl) rfl ?_
     rintro _ W104 ⟨k106, o105⟩
     replace hp103 := hp103.other o105 n6
     clear k3
     replace hB := Chg.only hB o105 (.inr l7)
     refine Pu rfl (Ni (hK86 ?_))
     exact WC.ret fun a_ ha_ => hQ (cw_ret2 rfl (.agg rfl ty_agg_26_5 k106.range rfl) (.tmp rfl) (.inl ⟨k94, leafT 2 0 ⟨#[]⟩, rfl, (valB_c hc28 hc29).trans ((valC_w2 (by omega)).trans (wordR_t hw96 hw97)), leaf_rd _ _ _ _ _ _, by first | omega | (simp only [ByteArray.size] at *; simp at *; omega), by omega, hp103⟩) hB ha_)
    ·
     replace k3 := k3.chg g101 n6.symm
     replace hB := Chg.both hB g101
     refine Pu rfl (Pu rfl ?_)
     refine WL.do (dx_store (cs' := zV) (vs := zV) rfl ty_size_26_5 rfl rfl rfl (oc_cons rfl (oc_cons rfl (oc_cons rfl (oc_cons rfl (oc_cons rfl oc_nil))))) k3 rfl (Nat.le_of_ble_eq_true rfl) rfl) rfl ?_
     rintro _ W107 ⟨k109, o108⟩
     replace hp103 := hp103.other o108 n6
     clear k3
     replace hB := Chg.only hB o108 (.inr l7)
     refine Pu rfl (Ni (hK86 ?_))
     exact WC.ret fun a_ ha_ => hQ (cw_ret2 rfl (.agg rfl ty_agg_26_5 k109.range rfl) (.tmp rfl) (.inr ⟨k95, 2, rfl, (by decide), (valB_c hc28 hc29).trans ((valC_w2 (by omega)).trans (wordR_f hw99)), by omega, hp103⟩) hB ha_)
   ·
    replace c85 := dF c85
    refine Sq fun K110 hK110 => (Rg (Pu rfl (Va (dx_eql rfl rfl rfl) rfl rfl (Pu rfl ?_))))
    refine WL.split 35 rfl (fun g111 => ?_) (fun g111 => ?_)
    ·
     replace g111 := dT g111
     refine Of rfl (Of rfl (Of rfl (Of rfl (Of rfl (Of rfl (Pu rfl (Pu rfl ?_)))))))
     refine Ni (hK110 (WC.condT rfl (Sq fun K112 hK112 => (Rg (Pu rfl ?_)))))
     refine Ge (dx_cw rfl Try.func61 rfl rfl rfl (number_v s P ka dp W31 _ hL (.tail _ hPL) hs (by omega) hp)) rfl rfl ?_
     rintro _ W140 ⟨(⟨k126, n128, rfl, hw130, hw131, hw132, hw133, hw134, hp141⟩ | ⟨k127, e129, rfl, hw135, hw136, hw137, hp141⟩), g139⟩
     ·
      replace k3 := k3.chg g139 n6.symm
      replace hB := Chg.both hB g139
      refine Pu rfl (Pu rfl ?_)
      refine WL.do (dx_store (cs' := [.int .i64 3, .int .i64 n128, .string ⟨#[]⟩, .slice none 0 0, .slice none 0 0]) (vs := [.int .i64 3, .int .i64 n128, .string ⟨#[]⟩, .slice none 0 0, .slice none 0 0]) rfl ty_size_26_5 rfl rfl rfl (oc_cons rfl (oc_cons rfl (oc_cons rfl (oc_cons rfl (oc_cons rfl oc_nil))))) k3 rfl (Nat.le_of_ble_eq_true rfl) rfl) rfl ?_
      rintro _ W142 ⟨k144, o143⟩
      replace hp141 := hp141.other o143 n6
      clear k3
      replace hB := Chg.only hB o143 (.inr l7)
      refine Pu rfl (Ni (hK112 ?_))
      exact WC.ret fun a_ ha_ => hQ (cw_ret2 rfl (.agg rfl ty_agg_26_5 k144.range rfl) (.tmp rfl) (.inl ⟨k126, leafT 3 n128 ⟨#[]⟩, rfl, (valB_c hc28 hc29).trans ((valC_n (by omega)).trans (numR_t hw130)), leaf_rd _ _ _ _ _ _, by first | omega | (simp only [ByteArray.size] at *; simp at *; omega), by omega, hp141⟩) hB ha_)
     ·
      replace k3 := k3.chg g139 n6.symm
      replace hB := Chg.both hB g139
      refine Pu rfl (Pu rfl ?_)
      refine WL.do (dx_store (cs' := zV) (vs := zV) rfl ty_size_26_5 rfl rfl rfl (oc_cons rfl (oc_cons rfl (oc_cons rfl (oc_cons rfl (oc_cons rfl oc_nil))))) k3 rfl (Nat.le_of_ble_eq_true rfl) rfl) rfl ?_
      rintro _ W145 ⟨k147, o146⟩
      replace hp141 := hp141.other o146 n6
      clear k3
      replace hB := Chg.only hB o146 (.inr l7)
      refine Pu rfl (Ni (hK112 ?_))
      exact WC.ret fun a_ ha_ => hQ (cw_ret2 rfl (.agg rfl ty_agg_26_5 k147.range rfl) (.tmp rfl) (.inr ⟨k127, e129, rfl, hw135, (valB_c hc28 hc29).trans ((valC_n (by omega)).trans (numR_f hw136)), by omega, hp141⟩) hB ha_)
    ·
     replace g111 := dF g111
     refine Pu rfl (Va (dx_geq rfl rfl rfl) rfl rfl (Pu rfl ?_))
     refine WL.split 38 rfl (fun g148 => ?_) (fun g148 => ?_)
     ·
      replace g148 := dT g148
      refine Pu rfl (Va (dx_leq rfl rfl rfl) rfl rfl (Pu rfl (Pu rfl (Pu rfl (Ni (hK110 ?_))))))
      refine WC.cond rfl (fun c149 => ?_) (fun c149 => ?_)
      ·
       replace c149 := dT c149
       refine Sq fun K150 hK150 => (Rg (Pu rfl ?_))
       refine Ge (dx_cw rfl Try.func61 rfl rfl rfl (number_v s P ka dp W31 _ hL (.tail _ hPL) hs (by omega) hp)) rfl rfl ?_
       rintro _ W178 ⟨(⟨k164, n166, rfl, hw168, hw169, hw170, hw171, hw172, hp179⟩ | ⟨k165, e167, rfl, hw173, hw174, hw175, hp179⟩), g177⟩
       ·
        replace k3 := k3.chg g177 n6.symm
        replace hB := Chg.both hB g177
        refine Pu rfl (Pu rfl ?_)
        refine WL.do (dx_store (cs' := [.int .i64 3, .int .i64 n166, .string ⟨#[]⟩, .slice none 0 0, .slice none 0 0]) (vs := [.int .i64 3, .int .i64 n166, .string ⟨#[]⟩, .slice none 0 0, .slice none 0 0]) rfl ty_size_26_5 rfl rfl rfl (oc_cons rfl (oc_cons rfl (oc_cons rfl (oc_cons rfl (oc_cons rfl oc_nil))))) k3 rfl (Nat.le_of_ble_eq_true rfl) rfl) rfl ?_
        rintro _ W180 ⟨k182, o181⟩
        replace hp179 := hp179.other o181 n6
        clear k3
        replace hB := Chg.only hB o181 (.inr l7)
        refine Pu rfl (Ni (hK150 ?_))
        exact WC.ret fun a_ ha_ => hQ (cw_ret2 rfl (.agg rfl ty_agg_26_5 k182.range rfl) (.tmp rfl) (.inl ⟨k164, leafT 3 n166 ⟨#[]⟩, rfl, (valB_c hc28 hc29).trans ((valC_n (by omega)).trans (numR_t hw168)), leaf_rd _ _ _ _ _ _, by first | omega | (simp only [ByteArray.size] at *; simp at *; omega), by omega, hp179⟩) hB ha_)
       ·
        replace k3 := k3.chg g177 n6.symm
        replace hB := Chg.both hB g177
        refine Pu rfl (Pu rfl ?_)
        refine WL.do (dx_store (cs' := zV) (vs := zV) rfl ty_size_26_5 rfl rfl rfl (oc_cons rfl (oc_cons rfl (oc_cons rfl (oc_cons rfl (oc_cons rfl oc_nil))))) k3 rfl (Nat.le_of_ble_eq_true rfl) rfl) rfl ?_
        rintro _ W183 ⟨k185, o184⟩
        replace hp179 := hp179.other o184 n6
        clear k3
        replace hB := Chg.only hB o184 (.inr l7)
        refine Pu rfl (Ni (hK150 ?_))
        exact WC.ret fun a_ ha_ => hQ (cw_ret2 rfl (.agg rfl ty_agg_26_5 k185.range rfl) (.tmp rfl) (.inr ⟨k165, e167, rfl, hw173, (valB_c hc28 hc29).trans ((valC_n (by omega)).trans (numR_f hw174)), by omega, hp179⟩) hB ha_)
      ·
       replace c149 := dF c149
       refine Sq fun K186 hK186 => (Rg (Pu rfl (Va (dx_eql rfl rfl rfl) rfl rfl (Pu rfl (Ni (hK186 ?_))))))
       refine WC.cond rfl (fun c187 => ?_) (fun c187 => ?_)
       ·
        replace c187 := dT c187
        refine Sq fun K188 hK188 => (Rg (Pu rfl ?_))
        refine Ge (dx_cw rfl Try.func62 rfl rfl rfl (quoted_v s P ka dp W31 _ hL (.tail _ hPL) hs (by omega) hp (take_of (by rcases Nat.lt_or_ge ka s.size with h_ | h_; exact h_; (have := hc29 h_; omega)) (by have h_ : ka < s.size := (by rcases Nat.lt_or_ge ka s.size with h_ | h_; exact h_; (have := hc29 h_; omega)); have := hc28 h_; omega)))) rfl rfl ?_
        rintro _ W214 ⟨(⟨k201, l203, rfl, hw204, hw205, hw206, hw207, hw208, hp215⟩ | ⟨k202, rfl, hw209, hw210, hp215⟩), g213⟩
        ·
         replace k3 := k3.chg g213 n6.symm
         replace hB := Chg.both hB g213
         refine Pu rfl (Pu rfl (Pu rfl (Pu rfl (Pu rfl (Ni (hK188 (Sq fun K216 hK216 => ?_)))))))
         refine Sq fun K217 hK217 => (Rg (Pu rfl (Va (dx_neq rfl rfl rfl) rfl rfl (Ni (hK217 (WC.condF rfl (WC.skip ?_)))))))
         refine hK216 (Sq fun K218 hK218 => (Rg (Pu rfl (Va (dx_build rfl rfl (built_of_O (cs := [.int .i64 4, .int .i64 0, .string (strOfNums l203), .slice none 0 0, .slice none 0 0]) (by kernel_rfl) (oc_cons rfl (oc_cons rfl oc_nil)))) rfl rfl ?_))))
         refine WL.do (dx_store (cs' := [.int .i64 4, .int .i64 0, .string (strOfNums l203), .slice none 0 0, .slice none 0 0]) (vs := [.int .i64 4, .int .i64 0, .string (strOfNums l203), .slice none 0 0, .slice none 0 0]) rfl ty_size_26_5 rfl rfl rfl (oc_cons rfl (oc_cons rfl (oc_cons rfl (oc_cons rfl (oc_cons rfl oc_nil))))) k3 rfl (Nat.le_of_ble_eq_true rfl) rfl) rfl ?_
         rintro _ W219 ⟨k221, o220⟩
         replace hp215 := hp215.other o220 n6
         clear k3
         replace hB := Chg.only hB o220 (.inr l7)
         refine Pu rfl (Ni (hK218 ?_))
         exact WC.ret fun a_ ha_ => hQ (cw_ret2 rfl (.agg rfl ty_agg_26_5 k221.range rfl) (.tmp rfl) (.inl ⟨k201, leafT 4 0 (strOfNums l203), rfl, (valB_c hc28 hc29).trans ((valC_q (by omega)).trans (quoR_t hw204)), leaf_rd _ _ _ _ _ _, by first | omega | (simp only [ByteArray.size] at *; simp at *; omega), by omega, hp215⟩) hB ha_)
        ·
         replace k3 := k3.chg g213 n6.symm
         replace hB := Chg.both hB g213
         refine Pu rfl (Pu rfl (Pu rfl (Pu rfl (Pu rfl (Ni (hK188 (Sq fun K222 hK222 => ?_)))))))
         refine Sq fun K223 hK223 => (Rg (Pu rfl (Va (dx_neq rfl rfl rfl) rfl rfl (Ni (hK223 (WC.condT rfl (Sq fun K224 hK224 => ?_)))))))
         refine Rg (Va (dx_build rfl rfl (built_of_O (cs := zV) (by kernel_rfl) oc_nil)) rfl rfl (Pu rfl ?_))
         refine WL.do (dx_store (cs' := zV) (vs := zV) rfl ty_size_26_5 rfl rfl rfl (oc_cons rfl (oc_cons rfl (oc_cons rfl (oc_cons rfl (oc_cons rfl oc_nil))))) k3 rfl (Nat.le_of_ble_eq_true rfl) rfl) rfl ?_
         rintro _ W225 ⟨k227, o226⟩
         replace hp215 := hp215.other o226 n6
         clear k3
         replace hB := Chg.only hB o226 (.inr l7)
         refine Pu rfl (Ni (hK224 ?_))
         exact WC.ret fun a_ ha_ => hQ (cw_ret2 rfl (.agg rfl ty_agg_26_5 k227.range rfl) (.tmp rfl) (.inr ⟨k202, 2, rfl, (by decide), (valB_c hc28 hc29).trans ((valC_q (by omega)).trans (quoR_f hw209)), by omega, hp215⟩) hB ha_)
       ·
        replace c187 := dF c187
        refine Sq fun K228 hK228 => (Rg (Pu rfl (Va (dx_eql rfl rfl rfl) rfl rfl (Pu rfl (Ni (hK228 ?_))))))
        refine WC.cond rfl (fun c229 => ?_) (fun c229 => ?_)
        ·
         replace c229 := dT c229
         refine Sq fun K230 hK230 => (Rg (Pu rfl (Pu rfl (Va (dx_funcP rfl rfl) rfl rfl ?_))))
         refine Ge (dx_cw rfl Try.func63 rfl rfl rfl (nested_v (.func (.func 64) #[.pointer (some ⟨P, 0, none⟩)] #[]) n rl s P ka dp W31 _ hL (.tail _ hPL) hs (by omega) hp hdp (fun h12 W_ L_ h1_ h2_ h3_ d_ h4_ h5_ => ⟨64, #[.pointer (some ⟨P, 0, none⟩)], #[], _, rfl, Try.func64, rfl, rfl, hl h12 (take_of (by rcases Nat.lt_or_ge ka s.size with h_ | h_; exact h_; (have := hc29 h_; omega)) (by have h_ : ka < s.size := (by rcases Nat.lt_or_ge ka s.size with h_ | h_; exact h_; (have := hc29 h_; omega)); have := hc28 h_; omega)) W_ L_ h1_ h2_ d_ h4_ h5_⟩))) rfl rfl ?_
         rintro _ W258 ⟨(⟨k244, t246, rfl, hw248, hw249, hw250, hw251, hp259⟩ | ⟨k245, e247, rfl, hw252, hw253, hw254, hp259⟩), g257⟩
         ·
          replace k3 := k3.chg g257 n6.symm
          replace hB := Chg.both hB g257
          refine Pu rfl (Pu rfl ?_)
          refine WL.do (dx_store (cs' := [.int .i64 t246.kind, .int .i64 t246.num, .string t246.text, t246.nv, t246.iv]) (vs := [.int .i64 t246.kind, .int .i64 t246.num, .string t246.text, t246.nv, t246.iv]) rfl ty_size_26_5 rfl rfl rfl (oc_cons rfl (oc_cons rfl (oc_cons rfl (oc_cons (hw249.1).one (oc_cons (hw249.2.1).one oc_nil))))) k3 rfl (Nat.le_of_ble_eq_true rfl) rfl) rfl ?_
          rintro _ W260 ⟨k262, o261⟩
          replace hp259 := hp259.other o261 n6
          clear k3
          replace hw249 := hw249.only o261 (.head _)
          replace hB := Chg.only hB o261 (.inr l7)
          refine Pu rfl (Ni (hK230 ?_))
          exact WC.ret fun a_ ha_ => hQ (cw_ret2 rfl (.agg rfl ty_agg_26_5 k262.range rfl) (.tmp rfl) (.inl ⟨k244, t246, rfl, (valB_c hc28 hc29).trans ((valC_l (by omega)).trans hw248), (hw249.less (fun x hx => (.tail _ hx))), by omega, by omega, hp259⟩) hB ha_)
         ·
          replace k3 := k3.chg g257 n6.symm
          replace hB := Chg.both hB g257
          refine Pu rfl (Pu rfl ?_)
          refine WL.do (dx_store (cs' := zV) (vs := zV) rfl ty_size_26_5 rfl rfl rfl (oc_cons rfl (oc_cons rfl (oc_cons rfl (oc_cons rfl (oc_cons rfl oc_nil))))) k3 rfl (Nat.le_of_ble_eq_true rfl) rfl) rfl ?_
          rintro _ W263 ⟨k265, o264⟩
          replace hp259 := hp259.other o264 n6
          clear k3
          replace hB := Chg.only hB o264 (.inr l7)
          refine Pu rfl (Ni (hK230 ?_))
          exact WC.ret fun a_ ha_ => hQ (cw_ret2 rfl (.agg rfl ty_agg_26_5 k265.range rfl) (.tmp rfl) (.inr ⟨k245, e247, rfl, hw252, (valB_c hc28 hc29).trans ((valC_l (by omega)).trans hw253), by omega, hp259⟩) hB ha_)
        ·
         replace c229 := dF c229
         refine Sq fun K266 hK266 => (Rg (Pu rfl (Va (dx_eql rfl rfl rfl) rfl rfl (Pu rfl (Ni (hK266 ?_))))))
         refine WC.cond rfl (fun c267 => ?_) (fun c267 => ?_)
         ·
          replace c267 := dT c267
          refine Sq fun K268 hK268 => (Rg (Pu rfl (Pu rfl (Va (dx_funcP rfl rfl) rfl rfl ?_))))
          refine Ge (dx_cw rfl Try.func63 rfl rfl rfl (nested_v (.func (.func 65) #[.pointer (some ⟨P, 0, none⟩)] #[]) n ro s P ka dp W31 _ hL (.tail _ hPL) hs (by omega) hp hdp (fun h12 W_ L_ h1_ h2_ h3_ d_ h4_ h5_ => ⟨65, #[.pointer (some ⟨P, 0, none⟩)], #[], _, rfl, Try.func65, rfl, rfl, ho h12 (take_of (by rcases Nat.lt_or_ge ka s.size with h_ | h_; exact h_; (have := hc29 h_; omega)) (by have h_ : ka < s.size := (by rcases Nat.lt_or_ge ka s.size with h_ | h_; exact h_; (have := hc29 h_; omega)); have := hc28 h_; omega)) W_ L_ h1_ h2_ d_ h4_ h5_⟩))) rfl rfl ?_
          rintro _ W296 ⟨(⟨k282, t284, rfl, hw286, hw287, hw288, hw289, hp297⟩ | ⟨k283, e285, rfl, hw290, hw291, hw292, hp297⟩), g295⟩
          ·
           replace k3 := k3.chg g295 n6.symm
           replace hB := Chg.both hB g295
           refine Pu rfl (Pu rfl ?_)
           refine WL.do (dx_store (cs' := [.int .i64 t284.kind, .int .i64 t284.num, .string t284.text, t284.nv, t284.iv]) (vs := [.int .i64 t284.kind, .int .i64 t284.num, .string t284.text, t284.nv, t284.iv]) rfl ty_size_26_5 rfl rfl rfl (oc_cons rfl (oc_cons rfl (oc_cons rfl (oc_cons (hw287.1).one (oc_cons (hw287.2.1).one oc_nil))))) k3 rfl (Nat.le_of_ble_eq_true rfl) rfl) rfl ?_
           rintro _ W298 ⟨k300, o299⟩
           replace hp297 := hp297.other o299 n6
           clear k3
           replace hw287 := hw287.only o299 (.head _)
           replace hB := Chg.only hB o299 (.inr l7)
           refine Pu rfl (Ni (hK268 ?_))
           exact WC.ret fun a_ ha_ => hQ (cw_ret2 rfl (.agg rfl ty_agg_26_5 k300.range rfl) (.tmp rfl) (.inl ⟨k282, t284, rfl, (valB_c hc28 hc29).trans ((valC_o (by omega)).trans hw286), (hw287.less (fun x hx => (.tail _ hx))), by omega, by omega, hp297⟩) hB ha_)
          ·
           replace k3 := k3.chg g295 n6.symm
           replace hB := Chg.both hB g295
           refine Pu rfl (Pu rfl ?_)
           refine WL.do (dx_store (cs' := zV) (vs := zV) rfl ty_size_26_5 rfl rfl rfl (oc_cons rfl (oc_cons rfl (oc_cons rfl (oc_cons rfl (oc_cons rfl oc_nil))))) k3 rfl (Nat.le_of_ble_eq_true rfl) rfl) rfl ?_
           rintro _ W301 ⟨k303, o302⟩
           replace hp297 := hp297.other o302 n6
           clear k3
           replace hB := Chg.only hB o302 (.inr l7)
           refine Pu rfl (Ni (hK268 ?_))
           exact WC.ret fun a_ ha_ => hQ (cw_ret2 rfl (.agg rfl ty_agg_26_5 k303.range rfl) (.tmp rfl) (.inr ⟨k283, e285, rfl, hw290, (valB_c hc28 hc29).trans ((valC_o (by omega)).trans hw291), by omega, hp297⟩) hB ha_)
         ·
          replace c267 := dF c267
          refine WC.skip (hK8 (Sq fun K304 hK304 => (Rg (Va (dx_build rfl rfl (built_of_O (cs := zV) (by kernel_rfl) oc_nil)) rfl rfl ?_))))
          refine WL.do (dx_store (cs' := zV) (vs := zV) rfl ty_size_26_5 rfl rfl rfl (oc_cons rfl (oc_cons rfl (oc_cons rfl (oc_cons rfl (oc_cons rfl oc_nil))))) k3 rfl (Nat.le_of_ble_eq_true rfl) rfl) rfl ?_
          rintro _ W305 ⟨k307, o306⟩
          replace hp := hp.other o306 n6
          clear k3
          replace hB := Chg.only hB o306 (.inr l7)
          refine Pu rfl (Ni (hK304 ?_))
          exact WC.ret fun a_ ha_ => hQ (cw_ret2 rfl (.agg rfl ty_agg_26_5 k307.range rfl) (.tmp rfl) (.inr ⟨ka, 2, rfl, by decide, (valB_c hc28 hc29).trans (valC_0 (by omega) (by omega) (by omega) (by omega) (by first | omega | simp_all) (by omega) (by omega) (by omega)), by omega, hp⟩) hB ha_)
     ·
      replace g148 := dF g148
      refine Of rfl (Of rfl (Pu rfl (Pu rfl (Pu rfl (Ni (hK110 (WC.condF rfl ?_)))))))
      refine Sq fun K308 hK308 => (Rg (Pu rfl (Va (dx_eql rfl rfl rfl) rfl rfl (Pu rfl (Ni (hK308 ?_))))))
      refine WC.cond rfl (fun c309 => ?_) (fun c309 => ?_)
      ·
       replace c309 := dT c309
       refine Sq fun K310 hK310 => (Rg (Pu rfl ?_))
       refine Ge (dx_cw rfl Try.func62 rfl rfl rfl (quoted_v s P ka dp W31 _ hL (.tail _ hPL) hs (by omega) hp (take_of (by rcases Nat.lt_or_ge ka s.size with h_ | h_; exact h_; (have := hc29 h_; omega)) (by have h_ : ka < s.size := (by rcases Nat.lt_or_ge ka s.size with h_ | h_; exact h_; (have := hc29 h_; omega)); have := hc28 h_; omega)))) rfl rfl ?_
       rintro _ W336 ⟨(⟨k323, l325, rfl, hw326, hw327, hw328, hw329, hw330, hp337⟩ | ⟨k324, rfl, hw331, hw332, hp337⟩), g335⟩
       ·
        replace k3 := k3.chg g335 n6.symm
        replace hB := Chg.both hB g335
        refine Pu rfl (Pu rfl (Pu rfl (Pu rfl (Pu rfl (Ni (hK310 (Sq fun K338 hK338 => ?_)))))))
        refine Sq fun K339 hK339 => (Rg (Pu rfl (Va (dx_neq rfl rfl rfl) rfl rfl (Ni (hK339 (WC.condF rfl (WC.skip ?_)))))))
        refine hK338 (Sq fun K340 hK340 => (Rg (Pu rfl (Va (dx_build rfl rfl (built_of_O (cs := [.int .i64 4, .int .i64 0, .string (strOfNums l325), .slice none 0 0, .slice none 0 0]) (by kernel_rfl) (oc_cons rfl (oc_cons rfl oc_nil)))) rfl rfl ?_))))
        refine WL.do (dx_store (cs' := [.int .i64 4, .int .i64 0, .string (strOfNums l325), .slice none 0 0, .slice none 0 0]) (vs := [.int .i64 4, .int .i64 0, .string (strOfNums l325), .slice none 0 0, .slice none 0 0]) rfl ty_size_26_5 rfl rfl rfl (oc_cons rfl (oc_cons rfl (oc_cons rfl (oc_cons rfl (oc_cons rfl oc_nil))))) k3 rfl (Nat.le_of_ble_eq_true rfl) rfl) rfl ?_
        rintro _ W341 ⟨k343, o342⟩
        replace hp337 := hp337.other o342 n6
        clear k3
        replace hB := Chg.only hB o342 (.inr l7)
        refine Pu rfl (Ni (hK340 ?_))
        exact WC.ret fun a_ ha_ => hQ (cw_ret2 rfl (.agg rfl ty_agg_26_5 k343.range rfl) (.tmp rfl) (.inl ⟨k323, leafT 4 0 (strOfNums l325), rfl, (valB_c hc28 hc29).trans ((valC_q (by omega)).trans (quoR_t hw326)), leaf_rd _ _ _ _ _ _, by first | omega | (simp only [ByteArray.size] at *; simp at *; omega), by omega, hp337⟩) hB ha_)
       ·
        replace k3 := k3.chg g335 n6.symm
        replace hB := Chg.both hB g335
        refine Pu rfl (Pu rfl (Pu rfl (Pu rfl (Pu rfl (Ni (hK310 (Sq fun K344 hK344 => ?_)))))))
        refine Sq fun K345 hK345 => (Rg (Pu rfl (Va (dx_neq rfl rfl rfl) rfl rfl (Ni (hK345 (WC.condT rfl (Sq fun K346 hK346 => ?_)))))))
        refine Rg (Va (dx_build rfl rfl (built_of_O (cs := zV) (by kernel_rfl) oc_nil)) rfl rfl (Pu rfl ?_))
        refine WL.do (dx_store (cs' := zV) (vs := zV) rfl ty_size_26_5 rfl rfl rfl (oc_cons rfl (oc_cons rfl (oc_cons rfl (oc_cons rfl (oc_cons rfl oc_nil))))) k3 rfl (Nat.le_of_ble_eq_true rfl) rfl) rfl ?_
        rintro _ W347 ⟨k349, o348⟩
        replace hp337 := hp337.other o348 n6
        clear k3
        replace hB := Chg.only hB o348 (.inr l7)
        refine Pu rfl (Ni (hK346 ?_))
        exact WC.ret fun a_ ha_ => hQ (cw_ret2 rfl (.agg rfl ty_agg_26_5 k349.range rfl) (.tmp rfl) (.inr ⟨k324, 2, rfl, (by decide), (valB_c hc28 hc29).trans ((valC_q (by omega)).trans (quoR_f hw331)), by omega, hp337⟩) hB ha_)
      ·
       replace c309 := dF c309
       refine Sq fun K350 hK350 => (Rg (Pu rfl (Va (dx_eql rfl rfl rfl) rfl rfl (Pu rfl (Ni (hK350 ?_))))))
       refine WC.cond rfl (fun c351 => ?_) (fun c351 => ?_)
       ·
        replace c351 := dT c351
        refine Sq fun K352 hK352 => (Rg (Pu rfl (Pu rfl (Va (dx_funcP rfl rfl) rfl rfl ?_))))
        refine Ge (dx_cw rfl Try.func63 rfl rfl rfl (nested_v (.func (.func 64) #[.pointer (some ⟨P, 0, none⟩)] #[]) n rl s P ka dp W31 _ hL (.tail _ hPL) hs (by omega) hp hdp (fun h12 W_ L_ h1_ h2_ h3_ d_ h4_ h5_ => ⟨64, #[.pointer (some ⟨P, 0, none⟩)], #[], _, rfl, Try.func64, rfl, rfl, hl h12 (take_of (by rcases Nat.lt_or_ge ka s.size with h_ | h_; exact h_; (have := hc29 h_; omega)) (by have h_ : ka < s.size := (by rcases Nat.lt_or_ge ka s.size with h_ | h_; exact h_; (have := hc29 h_; omega)); have := hc28 h_; omega)) W_ L_ h1_ h2_ d_ h4_ h5_⟩))) rfl rfl ?_
        rintro _ W380 ⟨(⟨k366, t368, rfl, hw370, hw371, hw372, hw373, hp381⟩ | ⟨k367, e369, rfl, hw374, hw375, hw376, hp381⟩), g379⟩
        ·
         replace k3 := k3.chg g379 n6.symm
         replace hB := Chg.both hB g379
         refine Pu rfl (Pu rfl ?_)
         refine WL.do (dx_store (cs' := [.int .i64 t368.kind, .int .i64 t368.num, .string t368.text, t368.nv, t368.iv]) (vs := [.int .i64 t368.kind, .int .i64 t368.num, .string t368.text, t368.nv, t368.iv]) rfl ty_size_26_5 rfl rfl rfl (oc_cons rfl (oc_cons rfl (oc_cons rfl (oc_cons (hw371.1).one (oc_cons (hw371.2.1).one oc_nil))))) k3 rfl (Nat.le_of_ble_eq_true rfl) rfl) rfl ?_
         rintro _ W382 ⟨k384, o383⟩
         replace hp381 := hp381.other o383 n6
         clear k3
         replace hw371 := hw371.only o383 (.head _)
         replace hB := Chg.only hB o383 (.inr l7)
         refine Pu rfl (Ni (hK352 ?_))
         exact WC.ret fun a_ ha_ => hQ (cw_ret2 rfl (.agg rfl ty_agg_26_5 k384.range rfl) (.tmp rfl) (.inl ⟨k366, t368, rfl, (valB_c hc28 hc29).trans ((valC_l (by omega)).trans hw370), (hw371.less (fun x hx => (.tail _ hx))), by omega, by omega, hp381⟩) hB ha_)
        ·
         replace k3 := k3.chg g379 n6.symm
         replace hB := Chg.both hB g379
         refine Pu rfl (Pu rfl ?_)
         refine WL.do (dx_store (cs' := zV) (vs := zV) rfl ty_size_26_5 rfl rfl rfl (oc_cons rfl (oc_cons rfl (oc_cons rfl (oc_cons rfl (oc_cons rfl oc_nil))))) k3 rfl (Nat.le_of_ble_eq_true rfl) rfl) rfl ?_
         rintro _ W385 ⟨k387, o386⟩
         replace hp381 := hp381.other o386 n6
         clear k3
         replace hB := Chg.only hB o386 (.inr l7)
         refine Pu rfl (Ni (hK352 ?_))
         exact WC.ret fun a_ ha_ => hQ (cw_ret2 rfl (.agg rfl ty_agg_26_5 k387.range rfl) (.tmp rfl) (.inr ⟨k367, e369, rfl, hw374, (valB_c hc28 hc29).trans ((valC_l (by omega)).trans hw375), by omega, hp381⟩) hB ha_)
       ·
        replace c351 := dF c351
        refine Sq fun K388 hK388 => (Rg (Pu rfl (Va (dx_eql rfl rfl rfl) rfl rfl (Pu rfl (Ni (hK388 ?_))))))
        refine WC.cond rfl (fun c389 => ?_) (fun c389 => ?_)
        ·
         replace c389 := dT c389
         refine Sq fun K390 hK390 => (Rg (Pu rfl (Pu rfl (Va (dx_funcP rfl rfl) rfl rfl ?_))))
         refine Ge (dx_cw rfl Try.func63 rfl rfl rfl (nested_v (.func (.func 65) #[.pointer (some ⟨P, 0, none⟩)] #[]) n ro s P ka dp W31 _ hL (.tail _ hPL) hs (by omega) hp hdp (fun h12 W_ L_ h1_ h2_ h3_ d_ h4_ h5_ => ⟨65, #[.pointer (some ⟨P, 0, none⟩)], #[], _, rfl, Try.func65, rfl, rfl, ho h12 (take_of (by rcases Nat.lt_or_ge ka s.size with h_ | h_; exact h_; (have := hc29 h_; omega)) (by have h_ : ka < s.size := (by rcases Nat.lt_or_ge ka s.size with h_ | h_; exact h_; (have := hc29 h_; omega)); have := hc28 h_; omega)) W_ L_ h1_ h2_ d_ h4_ h5_⟩))) rfl rfl ?_
         rintro _ W418 ⟨(⟨k404, t406, rfl, hw408, hw409, hw410, hw411, hp419⟩ | ⟨k405, e407, rfl, hw412, hw413, hw414, hp419⟩), g417⟩
         ·
          replace k3 := k3.chg g417 n6.symm
          replace hB := Chg.both hB g417
          refine Pu rfl (Pu rfl ?_)
          refine WL.do (dx_store (cs' := [.int .i64 t406.kind, .int .i64 t406.num, .string t406.text, t406.nv, t406.iv]) (vs := [.int .i64 t406.kind, .int .i64 t406.num, .string t406.text, t406.nv, t406.iv]) rfl ty_size_26_5 rfl rfl rfl (oc_cons rfl (oc_cons rfl (oc_cons rfl (oc_cons (hw409.1).one (oc_cons (hw409.2.1).one oc_nil))))) k3 rfl (Nat.le_of_ble_eq_true rfl) rfl) rfl ?_
          rintro _ W420 ⟨k422, o421⟩
          replace hp419 := hp419.other o421 n6
          clear k3
          replace hw409 := hw409.only o421 (.head _)
          replace hB := Chg.only hB o421 (.inr l7)
          refine Pu rfl (Ni (hK390 ?_))
          exact WC.ret fun a_ ha_ => hQ (cw_ret2 rfl (.agg rfl ty_agg_26_5 k422.range rfl) (.tmp rfl) (.inl ⟨k404, t406, rfl, (valB_c hc28 hc29).trans ((valC_o (by omega)).trans hw408), (hw409.less (fun x hx => (.tail _ hx))), by omega, by omega, hp419⟩) hB ha_)
         ·
          replace k3 := k3.chg g417 n6.symm
          replace hB := Chg.both hB g417
          refine Pu rfl (Pu rfl ?_)
          refine WL.do (dx_store (cs' := zV) (vs := zV) rfl ty_size_26_5 rfl rfl rfl (oc_cons rfl (oc_cons rfl (oc_cons rfl (oc_cons rfl (oc_cons rfl oc_nil))))) k3 rfl (Nat.le_of_ble_eq_true rfl) rfl) rfl ?_
          rintro _ W423 ⟨k425, o424⟩
          replace hp419 := hp419.other o424 n6
          clear k3
          replace hB := Chg.only hB o424 (.inr l7)
          refine Pu rfl (Ni (hK390 ?_))
          exact WC.ret fun a_ ha_ => hQ (cw_ret2 rfl (.agg rfl ty_agg_26_5 k425.range rfl) (.tmp rfl) (.inr ⟨k405, e407, rfl, hw412, (valB_c hc28 hc29).trans ((valC_o (by omega)).trans hw413), by omega, hp419⟩) hB ha_)
        ·
         replace c389 := dF c389
         refine WC.skip (hK8 (Sq fun K426 hK426 => (Rg (Va (dx_build rfl rfl (built_of_O (cs := zV) (by kernel_rfl) oc_nil)) rfl rfl ?_))))
         refine WL.do (dx_store (cs' := zV) (vs := zV) rfl ty_size_26_5 rfl rfl rfl (oc_cons rfl (oc_cons rfl (oc_cons rfl (oc_cons rfl (oc_cons rfl oc_nil))))) k3 rfl (Nat.le_of_ble_eq_true rfl) rfl) rfl ?_
         rintro _ W427 ⟨k429, o428⟩
         replace hp := hp.other o428 n6
         clear k3
         replace hB := Chg.only hB o428 (.inr l7)
         refine Pu rfl (Ni (hK426 ?_))
         exact WC.ret fun a_ ha_ => hQ (cw_ret2 rfl (.agg rfl ty_agg_26_5 k429.range rfl) (.tmp rfl) (.inr ⟨ka, 2, rfl, by decide, (valB_c hc28 hc29).trans (valC_0 (by omega) (by omega) (by omega) (by omega) (by first | omega | simp_all) (by omega) (by omega) (by omega)), by omega, hp⟩) hB ha_)

def parS (s : ByteArray) (vs : Nat → Except Int (Js × Nat)) : Except Int Js :=
 if 8192 < s.size then .error 3 else if upB s = false then .error 2 else match vs (blankS s 0) with
  | .error e => .error e
  | .ok (j, k) => if s.size ≤ blankS s k then .ok j else .error 2
section
variable {s : ByteArray} {vs : Nat → Except Int (Js × Nat)} {e : Int} {j : Js} {k0 k k1 k2 : Nat}
theorem parS_l (h : 8192 < s.size) : parS s vs = .error 3 := by unfold parS; rw [if_pos h]
theorem parS_u (h : ¬ 8192 < s.size) (u : upB s = false) : parS s vs = .error 2 := by unfold parS; rw [if_neg h, if_pos u]
theorem parS_e (h : ¬ 8192 < s.size) (u : upB s = true) (h0 : k0 = 0) (e1 : k1 = blankS s k0) (hv : vs k1 = .error e) : parS s vs = .error e := by subst e1 h0; unfold parS; rw [if_neg h, if_neg (by rw [u]; decide), hv]
theorem parS_t (h : ¬ 8192 < s.size) (u : upB s = true) (h0 : k0 = 0) (e1 : k1 = blankS s k0) (hv : vs k1 = .ok (j, k)) (e2 : k2 = blankS s k) (h2 : s.size ≤ k2) : parS s vs = .ok j := by subst e2 e1 h0; unfold parS; rw [if_neg h, if_neg (by rw [u]; decide), hv]; dsimp only; rw [if_pos h2]
theorem parS_f (h : ¬ 8192 < s.size) (u : upB s = true) (h0 : k0 = 0) (e1 : k1 = blankS s k0) (hv : vs k1 = .ok (j, k)) (e2 : k2 = blankS s k) (h2 : ¬ s.size ≤ k2) : parS s vs = .error 2 := by subst e2 e1 h0; unfold parS; rw [if_neg h, if_neg (by rw [u]; decide), hv]; dsimp only; rw [if_neg h2]
end
theorem Below.thenChg {B : Nat} {w W W' : World} (hle : w.heap.size ≤ B) (h : Below w.heap.size w W) (g : Chg B W W') : Below w.heap.size w W' := ⟨g.os.trans h.os, g.tape.trans h.tape, g.output.trans h.output, Nat.le_trans h.size g.size, fun k hk => (g.block k (Nat.lt_of_lt_of_le hk h.size) (by omega)).trans (h.block k hk)⟩
theorem bld_53 (a : ByteArray) : Try.prog.built 53 [(0, .string a)] = some [.string a, .int .i64 0].toArray := by kernel_rfl
theorem bld_55 (a : ByteArray) (b : Int) : Try.prog.built 55 [(0, .agg #[.string a, .int .i64 b])] = some [.string a, .int .i64 b, .int .i64 0].toArray := by kernel_rfl
abbrev ValAt (n : Nat) (vs : Nat → Except Int (Js × Nat)) (s : ByteArray) (dp : Nat) : Prop := ∀ (P ka : Nat) (w : World) (L : List Nat), LL L w → P ∈ L → ka ≤ s.size → Blk w P (psC s ka dp) → CW Try.prog 34 [.pointer (some ⟨P, 0, none⟩)] w P fun v W => (∃ k' t, v = .tuple #[.agg #[.int .i64 t.kind, .int .i64 t.num, .string t.text, t.nv, t.iv], .int .i64 0] ∧ vs ka = .ok (t.er, k') ∧ RdT n L W t ∧ ka < k' ∧ k' ≤ s.size ∧ Blk W P (psC s k' dp)) ∨ (∃ k' e, v = .tuple #[.agg #[.int .i64 0, .int .i64 0, .string ⟨#[]⟩, .slice none 0 0, .slice none 0 0], .int .i64 e] ∧ e ≠ 0 ∧ vs ka = .error e ∧ k' ≤ s.size ∧ Blk W P (psC s k' dp))
set_option maxHeartbeats 1000000 in
theorem parse_v (n : Nat) (vs : Nat → Except Int (Js × Nat)) (s : ByteArray) (w : World) (L : List Nat) (hL : LL L w)   (hv : s.size ≤ 8192 → ∀ dq, dq = 0 → ValAt (n + 1) vs s dq) : CV Try.prog 12 [.string s] w fun v W => (∃ t, v = .tuple #[.agg #[.int .i64 t.kind, .int .i64 t.num, .string t.text, t.nv, t.iv], .int .i64 0] ∧ parS s vs = .ok t.er ∧ RdT (n + 1) L W t) ∨ (∃ e, v = .tuple #[.agg #[.int .i64 0, .int .i64 0, .string ⟨#[]⟩, .slice none 0 0, .slice none 0 0], .int .i64 e] ∧ e ≠ 0 ∧ parS s vs = .error e) := by
 refine cv_enter (N := 44) (f := [(0, .string s)]) Try.func12 rfl rfl rfl rfl fun Q hQ hE => ?_
 have hB := Below.refl w.heap.size w
 refine Sq fun K1 hK1 => (Rg ?_)
 refine Ge (dx_alloc rfl ty_zero_26 rfl) rfl rfl ?_
 rintro _ W2 ⟨rfl, k3, b4, z5⟩
 have l6 := hB.size
 replace hB := below_then hB b4
 replace hL := LL.more hL z5
 refine Pu rfl (Ni (hK1 (Sq fun K7 hK7 => (Sq fun K8 hK8 => (Rg (Pu rfl (Va (dx_lenT rfl Try.underlying9 rfl) rfl rfl ?_)))))))
 refine Va (dx_gtr rfl rfl rfl) rfl rfl (Ni (hK8 ?_))
 refine WC.cond rfl (fun c9 => ?_) (fun c9 => ?_)
 ·
  replace c9 := dT c9
  refine Sq fun K10 hK10 => (Rg (Va (dx_build rfl rfl (built_of_O (cs := zV) (by kernel_rfl) oc_nil)) rfl rfl ?_))
  refine WL.do (dx_store (cs' := zV) (vs := zV) rfl ty_size_26_5 rfl rfl rfl (oc_cons rfl (oc_cons rfl (oc_cons rfl (oc_cons rfl (oc_cons rfl oc_nil))))) k3 rfl (Nat.le_of_ble_eq_true rfl) rfl) rfl ?_
  rintro _ W11 ⟨k13, o12⟩
  clear k3
  replace hB := o12.below hB l6
  refine Pu rfl (Ni (hK10 ?_))
  exact WC.ret fun a_ ha_ => hQ (cv_ret2 rfl (.agg rfl ty_agg_26_5 k13.range rfl) (.tmp rfl) (.inr ⟨3, rfl, by decide, parS_l (by omega)⟩) hB ha_)
 ·
  replace c9 := dF c9
  refine WC.skip (hK7 (Sq fun K14 hK14 => (Sq fun K15 hK15 => ?_)))
  have hs : s.size ≤ 1000000 := by omega
  refine Rg (Pu rfl ?_)
  refine Ge (dx_sb (L := w.heap.size :: L) rfl Try.underlying9 Try.underlying50 Try.underlying5 rfl hL (by unfold maxLen; omega)) rfl rfl ?_
  rintro u16 W17 ⟨k18, b19⟩
  replace k3 := k3.below b19
  replace hB := below_then hB b19
  replace hL := LL.below hL b19
  refine Ge (dx_cv rfl Try.func32 rfl rfl rfl ((show CV _ _ [_] _ (fun v _ => v = .bool (upB s)) from cv_oldB (right_any u16 (sb s) W17 (rdI_of k18) (sb_bytes _) (by rw [sb_length]; omega))))) rfl rfl ?_
  rintro _ W21 ⟨rfl, b20⟩
  replace k3 := k3.below b20
  replace hB := below_then hB b20
  replace hL := LL.below hL b20
  refine Va (dx_not rfl rfl) rfl rfl (Ni (hK15 ?_))
  refine WC.cond rfl (fun c22 => ?_) (fun c22 => ?_)
  ·
   replace c22 := bnot_t c22
   refine Sq fun K23 hK23 => (Rg (Va (dx_build rfl rfl (built_of_O (cs := zV) (by kernel_rfl) oc_nil)) rfl rfl ?_))
   refine WL.do (dx_store (cs' := zV) (vs := zV) rfl ty_size_26_5 rfl rfl rfl (oc_cons rfl (oc_cons rfl (oc_cons rfl (oc_cons rfl (oc_cons rfl oc_nil))))) k3 rfl (Nat.le_of_ble_eq_true rfl) rfl) rfl ?_
   rintro _ W24 ⟨k26, o25⟩
   clear k3
   replace hB := o25.below hB l6
   refine Pu rfl (Ni (hK23 ?_))
   exact WC.ret fun a_ ha_ => hQ (cv_ret2 rfl (.agg rfl ty_agg_26_5 k26.range rfl) (.tmp rfl) (.inr ⟨2, rfl, by decide, (by first | exact parS_u (by omega) (by assumption) | (apply parS_f (k0 := k0) <;> first | assumption | omega; done))⟩) hB ha_)
  ·
   replace c22 := bnot_f c22
   refine WC.skip (hK14 (Sq fun K27 hK27 => (Rg (Pu rfl (Va (dx_build rfl rfl (bld_53 _)) rfl rfl (Va (dx_build rfl rfl (bld_55 _ _)) rfl rfl ?_))))))
   refine Ge (dx_box rfl rfl rfl) rfl rfl ?_
   rintro _ W28 ⟨rfl, k29, b30, z31⟩
   have n32 : w.heap.size ≠ W21.heap.size := Nat.ne_of_lt k3.lt
   have l33 := hB.size
   replace k3 := k3.below b30
   replace hB := below_then hB b30
   replace hL := LL.more hL z31
   have hPle : w.heap.size ≤ W21.heap.size := l33
   obtain ⟨P, hPe⟩ : ∃ P, P = W21.heap.size := ⟨_, rfl⟩
   rw [← hPe] at k29 hL hPle n32 ⊢
   obtain ⟨k0, hk0⟩ : ∃ q : Nat, q = 0 := ⟨_, rfl⟩
   obtain ⟨d0, hd0⟩ : ∃ q : Nat, q = 0 := ⟨_, rfl⟩
   replace k29 : Blk W28 P (psC s k0 d0) := by rw [hk0, hd0]; exact k29
   refine Pu rfl (Ni (hK27 (Sq fun K34 hK34 => (Rg (Pu rfl (Va (dx_nilCheck rfl rfl) rfl rfl (Va (dx_fld (o1 := 0) rfl ty_fld_55_0_0 rfl rfl) rfl rfl ?_)))))))
   refine Ge (dx_cw rfl Try.func33 rfl rfl rfl (blanks_v s P k0 d0 W28 _ hL (.head _) hs (by omega) k29)) rfl rfl ?_
   rintro _ W45 ⟨hp46, g44⟩
   replace k3 := k3.chg g44 n32
   replace hB := Below.thenChg hPle hB g44
   replace hL := hL.chg g44
   obtain ⟨k41, hk42⟩ : ∃ k, k = blankS s k0 := ⟨_, rfl⟩
   rw [← hk42] at hp46
   have hk43 := blankS_le (s := s) (k := k0) (by omega)
   rw [← hk42] at hk43
   refine Ni (hK34 (Sq fun K47 hK47 => (Rg (Pu rfl ?_))))
   refine Ge (dx_cw rfl Try.func34 rfl rfl rfl (hv (by omega) d0 hd0 P k41 W45 _ hL (.head _) (by omega) (by first | exact hp46 | (subst hd0; exact hp46)))) rfl rfl ?_
   rintro _ W75 ⟨(⟨k61, t63, rfl, hw65, hw66, hw67, hw68, hp76⟩ | ⟨k62, e64, rfl, hw69, hw70, hw71, hp76⟩), g74⟩
   ·
    replace k3 := k3.chg g74 n32
    replace hB := Below.thenChg hPle hB g74
    replace hL := hL.chg g74
    refine Pu rfl (Pu rfl (Pu rfl ?_))
    refine Ge (dx_alloc rfl ty_zero_26 rfl) rfl rfl ?_
    rintro _ W77 ⟨rfl, k78, b79, z80⟩
    have n81 : w.heap.size ≠ W75.heap.size := Nat.ne_of_lt k3.lt
    have n82 : P ≠ W75.heap.size := Nat.ne_of_lt hp76.lt
    have l83 := hB.size
    replace hw66 := hw66.more b79 (Nat.le_refl _)
    replace k3 := k3.below b79
    replace hp76 := hp76.below b79
    replace hB := below_then hB b79
    replace hL := LL.more hL z80
    refine WL.do (dx_store (cs' := [.int .i64 t63.kind, .int .i64 t63.num, .string t63.text, t63.nv, t63.iv]) (vs := [.int .i64 t63.kind, .int .i64 t63.num, .string t63.text, t63.nv, t63.iv]) rfl ty_size_26_5 rfl rfl rfl (oc_cons rfl (oc_cons rfl (oc_cons rfl (oc_cons (hw66.1).one (oc_cons (hw66.2.1).one oc_nil))))) k78 rfl (Nat.le_of_ble_eq_true rfl) rfl) rfl ?_
    rintro _ W84 ⟨k86, o85⟩
    replace k3 := k3.other o85 n81
    replace hp76 := hp76.other o85 n82
    clear k78
    replace hw66 := hw66.only o85 (.head _)
    replace hB := o85.below hB l83
    replace hL := LL.only hL o85
    refine Pu rfl (Ni (hK47 (Sq fun K87 hK87 => (Sq fun K88 hK88 => (Rg (Pu rfl (Va (dx_neq rfl rfl rfl) rfl rfl ?_)))))))
    refine Ni (hK88 (WC.condF rfl (WC.skip (hK87 (Sq fun K89 hK89 => (Rg (Pu rfl ?_)))))))
    refine Va (dx_nilCheck rfl rfl) rfl rfl (Va (dx_fld (o1 := 0) rfl ty_fld_55_0_0 rfl rfl) rfl rfl ?_)
    refine Ge (dx_cw rfl Try.func33 rfl rfl rfl (blanks_v s P k61 d0 W84 _ hL (.tail _ (.head _)) hs (by omega) hp76)) rfl rfl ?_
    rintro _ W100 ⟨hp101, g99⟩
    replace hw66 := hw66.chgL g99 (.tail _ (.head _))
    replace k3 := k3.chg g99 n32
    replace k86 := k86.chg g99 n82.symm
    replace hB := Below.thenChg hPle hB g99
    replace hL := hL.chg g99
    obtain ⟨k96, hk97⟩ : ∃ k, k = blankS s k61 := ⟨_, rfl⟩
    rw [← hk97] at hp101
    have hk98 := blankS_le (s := s) (k := k61) (by omega)
    rw [← hk97] at hk98
    refine Ni (hK89 (Sq fun K102 hK102 => (Sq fun K103 hK103 => (Rg (Pu rfl (Va (dx_nilCheck rfl rfl) rfl rfl (Va (dx_fld (o1 := 0) rfl ty_fld_55_0_0 rfl rfl) rfl rfl ?_)))))))
    refine Ge (dx_cv rfl Try.func35 rfl rfl rfl (ended_v s P k96 d0 W100 _ hL (.tail _ (.head _)) hs (by omega) hp101)) rfl rfl ?_
    rintro _ W105 ⟨rfl, b104⟩
    replace hw66 := hw66.below b104
    replace k3 := k3.below b104
    replace k86 := k86.below b104
    replace hB := below_then hB b104
    refine Va (dx_not rfl rfl) rfl rfl (Ni (hK103 ?_))
    refine WC.cond rfl (fun c106 => ?_) (fun c106 => ?_)
    ·
     replace c106 := bnot_t c106
     replace c106 := dF c106
     refine Sq fun K107 hK107 => (Rg (Va (dx_build rfl rfl (built_of_O (cs := zV) (by kernel_rfl) oc_nil)) rfl rfl ?_))
     refine WL.do (dx_store (cs' := zV) (vs := zV) rfl ty_size_26_5 rfl rfl rfl (oc_cons rfl (oc_cons rfl (oc_cons rfl (oc_cons rfl (oc_cons rfl oc_nil))))) k3 rfl (Nat.le_of_ble_eq_true rfl) rfl) rfl ?_
     rintro _ W108 ⟨k110, o109⟩
     clear k3
     replace hB := o109.below hB l6
     refine Pu rfl (Ni (hK107 ?_))
     exact WC.ret fun a_ ha_ => hQ (cv_ret2 rfl (.agg rfl ty_agg_26_5 k110.range rfl) (.tmp rfl) (.inr ⟨2, rfl, by decide, (by first | exact parS_u (by omega) (by assumption) | (apply parS_f (k0 := k0) <;> first | assumption | omega; done))⟩) hB ha_)
    ·
     replace c106 := bnot_f c106
     replace c106 := dT c106
     refine WC.skip (hK102 (Sq fun K111 hK111 => (Rg (Va (dx_loadN rfl ty_agg_26_5 rfl k86.range rfl) rfl rfl ?_))))
     refine WL.do (dx_store (cs' := [.int .i64 t63.kind, .int .i64 t63.num, .string t63.text, t63.nv, t63.iv]) (vs := [.int .i64 t63.kind, .int .i64 t63.num, .string t63.text, t63.nv, t63.iv]) rfl ty_size_26_5 rfl rfl rfl (oc_cons rfl (oc_cons rfl (oc_cons rfl (oc_cons (hw66.1).one (oc_cons (hw66.2.1).one oc_nil))))) k3 rfl (Nat.le_of_ble_eq_true rfl) rfl) rfl ?_
     rintro _ W112 ⟨k114, o113⟩
     clear k3
     replace hw66 := hw66.only o113 (.tail _ (.tail _ (.head _)))
     replace hB := o113.below hB l6
     refine Pu rfl (Ni (hK111 ?_))
     exact WC.ret fun a_ ha_ => hQ (cv_ret2 rfl (.agg rfl ty_agg_26_5 k114.range rfl) (.tmp rfl) (.inl ⟨t63, rfl, (by apply parS_t (k0 := k0) <;> first | assumption | omega), (hw66.less (fun x hx => (.tail _ (.tail _ (.tail _ hx)))))⟩) hB ha_)
   ·
    replace k3 := k3.chg g74 n32
    replace hB := Below.thenChg hPle hB g74
    refine Pu rfl (Pu rfl (Pu rfl ?_))
    refine Ge (dx_alloc rfl ty_zero_26 rfl) rfl rfl ?_
    rintro _ W115 ⟨rfl, k116, b117, z118⟩
    have n119 : w.heap.size ≠ W75.heap.size := Nat.ne_of_lt k3.lt
    have l121 := hB.size
    replace k3 := k3.below b117
    replace hB := below_then hB b117
    refine WL.do (dx_store (cs' := zV) (vs := zV) rfl ty_size_26_5 rfl rfl rfl (oc_cons rfl (oc_cons rfl (oc_cons rfl (oc_cons rfl (oc_cons rfl oc_nil))))) k116 rfl (Nat.le_of_ble_eq_true rfl) rfl) rfl ?_
    rintro _ W122 ⟨k124, o123⟩
    replace k3 := k3.other o123 n119
    clear k116
    replace hB := o123.below hB l121
    refine Pu rfl (Ni (hK47 (Sq fun K125 hK125 => (Sq fun K126 hK126 => (Rg (Pu rfl (Va (dv_NT (dx_neq rfl rfl rfl) hw69) rfl rfl ?_)))))))
    refine Ni (hK126 (WC.condT rfl (Sq fun K127 hK127 => (Rg (Va (dx_build rfl rfl (built_of_O (cs := zV) (by kernel_rfl) oc_nil)) rfl rfl (Pu rfl ?_))))))
    refine WL.do (dx_store (cs' := zV) (vs := zV) rfl ty_size_26_5 rfl rfl rfl (oc_cons rfl (oc_cons rfl (oc_cons rfl (oc_cons rfl (oc_cons rfl oc_nil))))) k3 rfl (Nat.le_of_ble_eq_true rfl) rfl) rfl ?_
    rintro _ W128 ⟨k130, o129⟩
    clear k3
    replace hB := o129.below hB l6
    refine Pu rfl (Ni (hK127 ?_))
    exact WC.ret fun a_ ha_ => hQ (cv_ret2 rfl (.agg rfl ty_agg_26_5 k130.range rfl) (.tmp rfl) (.inr ⟨e64, rfl, hw69, (by apply parS_e (k0 := k0) <;> first | assumption | omega)⟩) hB ha_)

theorem ty_one_51 : oneB Try.prog 51 = true := by kernel_rfl
def oneL (vs : Nat → Except Int (Js × Nat)) (k : Nat) (st : List Js) : Except Int (List Js × Nat) := match vs k with
 | .error e => .error e
 | .ok (t, k') => .ok (st ++ [t], k')
def listS (s : ByteArray) (vs : Nat → Except Int (Js × Nat)) (k : Nat) : Except Int (Js × Nat) := match memS s (oneL vs) 93 k [] with
 | .error e => .error e
 | .ok (ts, k') => .ok (.mk 5 0 ⟨#[]⟩ [] ts, k')
def ItemsI (n b : Nat) (L : List Nat) (iv : Value) (ts : List Tr) (W : World) : Prop := (∀ x ∈ L, x < b) ∧ ((iv = .slice none 0 0 ∧ ts = []) ∨ ∃ B, b ≤ B ∧ OwS 5 W iv (ts.map encT) B ∧ ∀ t ∈ ts, RdT n (B :: L) W t)
theorem ItemsI.chgL {n b : Nat} {L : List Nat} {iv : Value} {ts : List Tr} {W W' : World} (h : ItemsI n b L iv ts W) {P : Nat} (g : Chg P W W') (hP : P ∈ L) : ItemsI n b L iv ts W' := by
 obtain ⟨h0, h | ⟨B, h1, h2, h3⟩⟩ := h
 · exact ⟨h0, .inl h⟩
 · exact ⟨h0, .inr ⟨B, h1, h2.chgL g (by have := h0 P hP; omega), fun t ht => (h3 t ht).chgL g (.tail _ hP)⟩⟩
theorem ItemsI.below {n b : Nat} {L : List Nat} {iv : Value} {ts : List Tr} {W W' : World} (h : ItemsI n b L iv ts W) (g : Below W.heap.size W W') : ItemsI n b L iv ts W' := by
 obtain ⟨h0, h | ⟨B, h1, h2, h3⟩⟩ := h
 · exact ⟨h0, .inl h⟩
 · exact ⟨h0, .inr ⟨B, h1, h2.below g, fun t ht => (h3 t ht).below g⟩⟩
theorem ItemsI.only {n b : Nat} {L : List Nat} {iv : Value} {ts : List Tr} {W W' : World} (h : ItemsI n b L iv ts W) {C : Nat} (g : Only C W W') (hC : C ∈ L) : ItemsI n b L iv ts W' := by
 obtain ⟨h0, h | ⟨B, h1, h2, h3⟩⟩ := h
 · exact ⟨h0, .inl h⟩
 · exact ⟨h0, .inr ⟨B, h1, h2.other g (by have := h0 C hC; omega), fun t ht => (h3 t ht).only g (.tail _ hC)⟩⟩
theorem ItemsI.one {n b : Nat} {L : List Nat} {iv : Value} {ts : List Tr} {W : World} (h : ItemsI n b L iv ts W) : iv.oneCell' = true := by
 obtain ⟨_, ⟨rfl, _⟩ | ⟨B, _, h2, _⟩⟩ := h
 · rfl
 · exact h2.one
theorem ItemsI.tree {n b : Nat} {L L' : List Nat} {iv : Value} {ts : List Tr} {W : World} (h : ItemsI n b L iv ts W) (hl : ∀ x, x ∈ L' → x ∈ L) (k m : Int) (t : ByteArray) : RdT (n + 1) L' W (.mk k m t (.slice none 0 0) [] iv ts) := by
 obtain ⟨h0, ⟨rfl, rfl⟩ | ⟨B, h1, h2, h3⟩⟩ := h
 · exact ⟨RdF.nil (by decide), RdF.nil (by decide), fun c hc => by cases hc⟩
 · exact ⟨RdF.nil (by decide), h2.rd (fun hx => by have := h0 B (hl B hx); omega), fun c hc => (h3 c hc).less fun x hx => .tail _ (hl x hx)⟩
def ListI (n b Bp V P : Nat) (L : List Nat) (js : List Js) (W : World) : Prop := ∃ iv ts, ts.map Tr.er = js ∧ Blk W Bp [.pointer (some ⟨P, 0, none⟩)] ∧ Blk W V [.int .i64 5, .int .i64 0, .string ⟨#[]⟩, .slice none 0 0, iv] ∧ ItemsI n b L iv ts W
def FiveE (V : Nat) (W : World) : Prop := ∃ cs : List Value, cs.length = 5 ∧ (∀ u ∈ cs, u.oneCell' = true) ∧ Blk W V cs
theorem listI_five {n b Bp V P : Nat} {L : List Nat} : ∀ (js : List Js) (W : World), ListI n b Bp V P L js W → FiveE V W := fun _ _ ⟨_, _, _, _, h2, h3⟩ => ⟨_, rfl, oc_cons rfl (oc_cons rfl (oc_cons rfl (oc_cons rfl (oc_cons h3.one oc_nil)))), h2⟩
theorem listI_chg {n b Bp V P : Nat} {L : List Nat} (h1 : Bp ≠ P) (h2 : V ≠ P) (hP : P ∈ L) : ∀ (js : List Js) (W W' : World), ListI n b Bp V P L js W → Chg P W W' → ListI n b Bp V P L js W' := fun _ _ _ ⟨iv, ts, he, a1, a2, a3⟩ g => ⟨iv, ts, he, a1.chg g h1, a2.chg g h2, a3.chgL g hP⟩
abbrev OneAt (n : Nat) (vs : Nat → Except Int (Js × Nat)) (s : ByteArray) (dp : Nat) : Prop := ∀ (b Bp V P : Nat) (L : List Nat) (k : Nat) (js : List Js) (W : World), LL L W → P ∈ L → V ∈ L → Bp ∈ L → Bp ≠ P → V ≠ P → Bp ≠ V → (∀ x ∈ L, x < b) → b ≤ W.heap.size → k ≤ s.size → Blk W P (psC s k dp) → ListI n b Bp V P L js W → js.length ≤ k →
 CX Try.prog 89 [.pointer (some ⟨Bp, 0, none⟩), .pointer (some ⟨V, 0, none⟩)] W (ChgV b P V) (fun v W' => (∃ k' st', v = .int .i64 0 ∧ oneL vs k js = .ok (st', k') ∧ k < k' ∧ k' ≤ s.size ∧ st'.length ≤ k' ∧ ListI n b Bp V P L st' W' ∧ Blk W' P (psC s k' dp)) ∨ (∃ k' e, v = .int .i64 e ∧ e ≠ 0 ∧ oneL vs k js = .error e ∧ k' ≤ s.size ∧ FiveE V W' ∧ Blk W' P (psC s k' dp)))
set_option maxHeartbeats 1000000 in
theorem list_v (n : Nat) (vs : Nat → Except Int (Js × Nat)) (s : ByteArray) (P ka dp : Nat) (w : World) (L : List Nat) (hL : LL L w) (hPL : P ∈ L) (hs : s.size ≤ 1000000) (hk : ka ≤ s.size) (hp : Blk w P (psC s ka dp))  (hq : takeS s ka 91 = true) (hc : OneAt n vs s dp) : CW Try.prog 64 [.pointer (some ⟨P, 0, none⟩)] w P fun v W => (∃ k' t, v = .tuple #[.agg #[.int .i64 t.kind, .int .i64 t.num, .string t.text, t.nv, t.iv], .int .i64 0] ∧ listS s vs ka = .ok (t.er, k') ∧ RdT (n + 1) L W t ∧ ka < k' ∧ k' ≤ s.size ∧ Blk W P (psC s k' dp)) ∨ (∃ k' e cs, v = .tuple #[.agg (List.toArray cs), .int .i64 e] ∧ e ≠ 0 ∧ cs.length = 5 ∧ (∀ u ∈ cs, u.oneCell' = true) ∧ listS s vs ka = .error e ∧ k' ≤ s.size ∧ Blk W P (psC s k' dp)) := by
 refine cw_enter (N := 12) (f := [(0, .pointer (some ⟨P, 0, none⟩))]) Try.func64 rfl rfl rfl rfl fun Q hQ hE => ?_
 have hB := Chg.refl P w
 have hL0 := hL
 refine Sq fun K1 hK1 => (Rg ?_)
 refine Ge (dx_box (cs := [.pointer (some ⟨P, 0, none⟩)]) rfl rfl rfl) rfl rfl ?_
 rintro _ W2 ⟨rfl, k3, b4, z5⟩
 have n6 : P ≠ w.heap.size := Nat.ne_of_lt hp.lt
 have l7 := hB.size
 replace hp := hp.below b4
 replace hB := Chg.thenB hB b4
 replace hL := LL.more hL z5
 refine Ge (dx_alloc rfl ty_zero_26 rfl) rfl rfl ?_
 rintro _ W8 ⟨rfl, k9, b10, z11⟩
 have n12 : P ≠ W2.heap.size := Nat.ne_of_lt hp.lt
 have l14 := hB.size
 replace hp := hp.below b10
 replace k3 := k3.below b10
 replace hB := Chg.thenB hB b10
 replace hL := LL.more hL z11
 refine Pu rfl (Ni (hK1 (Sq fun K15 hK15 => (Rg (Va (dx_build rfl rfl (built_of_O (cs := [.int .i64 5, .int .i64 0, .string ⟨#[]⟩, .slice none 0 0, .slice none 0 0]) (by kernel_rfl) (oc_cons rfl oc_nil))) rfl rfl ?_)))))
 refine Ge (dx_alloc rfl ty_zero_26 rfl) rfl rfl ?_
 rintro _ W16 ⟨rfl, k17, b18, z19⟩
 have n20 : P ≠ W8.heap.size := Nat.ne_of_lt hp.lt
 have n21 : w.heap.size ≠ W8.heap.size := Nat.ne_of_lt k3.lt
 have n22 : W2.heap.size ≠ W8.heap.size := Nat.ne_of_lt k9.lt
 have l23 := hB.size
 replace hp := hp.below b18
 replace k3 := k3.below b18
 replace k9 := k9.below b18
 replace hB := Chg.thenB hB b18
 replace hL := LL.more hL z19
 refine WL.do (dx_store (cs' := [.int .i64 5, .int .i64 0, .string ⟨#[]⟩, .slice none 0 0, .slice none 0 0]) (vs := [.int .i64 5, .int .i64 0, .string ⟨#[]⟩, .slice none 0 0, .slice none 0 0]) rfl ty_size_26_5 rfl rfl rfl (oc_cons rfl (oc_cons rfl (oc_cons rfl (oc_cons rfl (oc_cons rfl oc_nil))))) k17 rfl (Nat.le_of_ble_eq_true rfl) rfl) rfl ?_
 rintro _ W24 ⟨k26, o25⟩
 replace hp := hp.other o25 n20
 replace k3 := k3.other o25 n21
 replace k9 := k9.other o25 n22
 clear k17
 replace hB := Chg.only hB o25 (.inr l23)
 replace hL := LL.only hL o25
 refine Ni (hK15 (Sq fun K27 hK27 => (Rg (Va (dx_load rfl ty_one_51 rfl (k3.cell (k := 0) rfl)) rfl rfl (Va (dx_func rfl rfl rfl) rfl rfl ?_)))))
 refine Ge (dx_cx rfl Try.func88 rfl rfl rfl (members_v (ListI n W24.heap.size (w.heap.size) (W8.heap.size) P (W8.heap.size :: W2.heap.size :: w.heap.size :: L)) (FiveE (W8.heap.size)) (oneL vs) 91 93 _ W24.heap.size (W8.heap.size) [] List.length s P ka dp W24 _ hL (.tail _ (.tail _ (.tail _ hPL))) hs (by omega) hp (Nat.le_refl _) listI_five ⟨listI_chg n6.symm n20.symm (.tail _ (.tail _ (.tail _ hPL))), ⟨_, [], rfl, k3, k26, hL, .inl ⟨rfl, rfl⟩⟩⟩ (Nat.zero_le _) hq (fun W_ L_ k_ js_ h1_ h2_ h3_ h4_ h5_ h6_ h7_ => ⟨89, #[], #[.pointer (some ⟨w.heap.size, 0, none⟩), .pointer (some ⟨W8.heap.size, 0, none⟩)], _, rfl, Try.func89, rfl, rfl, hc W24.heap.size (w.heap.size) (W8.heap.size) P (W8.heap.size :: W2.heap.size :: w.heap.size :: L) k_ js_ W_ (fun x hx => Nat.lt_of_lt_of_le (hL x hx) h3_) (.tail _ (.tail _ (.tail _ hPL))) (.head _) (.tail _ (.tail _ (.head _))) n6.symm n20.symm n21 hL h3_ h4_ h5_ h6_ h7_⟩))) rfl rfl ?_
 rintro _ W50 ⟨(⟨k28, st29, rfl, hm34, hm35, hm36, ⟨iv32, ts33, hm37, hBp47, hV46, hm38⟩, hp51⟩ | ⟨k30, e31, rfl, hm39, hm40, hm41, ⟨cs48, hm42, hm43, hV46⟩, hp51⟩), g49⟩
 ·
  replace hB := ChgV.toChg hB g49 hB.size l23
  replace k9 := k9.chgV g49 k9.lt n12.symm n22
  refine Pu rfl (Ni (hK27 (Sq fun K52 hK52 => (Rg (Va (dx_loadN rfl ty_agg_26_5 rfl hV46.range rfl) rfl rfl (Pu rfl ?_))))))
  refine WL.do (dx_store (cs' := [.int .i64 5, .int .i64 0, .string ⟨#[]⟩, .slice none 0 0, iv32]) (vs := [.int .i64 5, .int .i64 0, .string ⟨#[]⟩, .slice none 0 0, iv32]) rfl ty_size_26_5 rfl rfl rfl (oc_cons rfl (oc_cons rfl (oc_cons rfl (oc_cons rfl (oc_cons hm38.one oc_nil))))) k9 rfl (Nat.le_of_ble_eq_true rfl) rfl) rfl ?_
  rintro _ W53 ⟨k55, o54⟩
  replace hp51 := hp51.other o54 n12
  clear k9
  replace hm38 := hm38.only o54 (.tail _ (.head _))
  replace hB := Chg.only hB o54 (.inr l14)
  refine Pu rfl (Ni (hK52 ?_))
  exact WC.ret fun a_ ha_ => hQ (cw_ret2 rfl (.agg rfl ty_agg_26_5 k55.range rfl) (.tmp rfl) (.inl ⟨k28, .mk 5 0 ⟨#[]⟩ (.slice none 0 0) [] iv32 ts33, rfl, (by unfold listS; rw [hm34, Tr.er_mk, hm37]), hm38.tree (fun x hx => (.tail _ (.tail _ (.tail _ hx)))) 5 0 ⟨#[]⟩, by omega, by omega, hp51⟩) hB ha_)
 ·
  replace hB := ChgV.toChg hB g49 hB.size l23
  replace k9 := k9.chgV g49 k9.lt n12.symm n22
  refine Pu rfl (Ni (hK27 (Sq fun K56 hK56 => (Rg (Va (dx_loadN (cs := cs48) rfl ty_agg_26_5 rfl hV46.range hm42) rfl rfl (Pu rfl ?_))))))
  refine WL.do (dx_storeW (vs := cs48) rfl ty_size_26_5 rfl rfl rfl hm43 k9 hm42 rfl) rfl ?_
  rintro _ W57 ⟨k59, o58⟩
  replace hp51 := hp51.other o58 n12
  clear k9
  replace hB := Chg.only hB o58 (.inr l14)
  refine Pu rfl (Ni (hK56 ?_))
  exact WC.ret fun a_ ha_ => hQ (cw_ret2 rfl (.agg rfl ty_agg_26_5 k59.range hm42) (.tmp rfl) (.inr ⟨k30, e31, cs48, rfl, hm39, hm42, hm43, (by unfold listS; rw [hm40]), by omega, hp51⟩) hB ha_)





abbrev SpK := List (Nat × (World → World → Prop) × List Nat)
def relK (sp : SpK) (k : Nat) (W W' : World) : Prop := match sp.find? (fun e => e.1 == k) with
 | some e => e.2.1 W W'
 | none => Below W.heap.size W W'
def RelOk (w : World) (sd : List (Option Tmp × VS)) (dl : List (List Nat)) : SpK → Prop
 | [] => True
 | e :: l => ((e.2.2.all fun j => j == e.1 || ((dl[j]?).getD []).contains e.1) = true ∧ VS.monoR e.2.1 (e.2.2.foldl (fun l k => l.set k (none, .is undef)) sd) ∧ ∀ W W', Below w.heap.size w W → e.2.1 W W' → Below w.heap.size w W') ∧ RelOk w sd dl l
theorem RelOk.at {w : World} {sd : List (Option Tmp × VS)} {dl : List (List Nat)} : ∀ {sp : SpK}, RelOk w sd dl sp → ∀ e ∈ sp, (e.2.2.all fun j => j == e.1 || ((dl[j]?).getD []).contains e.1) = true ∧ VS.monoR e.2.1 (e.2.2.foldl (fun l k => l.set k (none, .is undef)) sd) ∧ ∀ W W', Below w.heap.size w W → e.2.1 W W' → Below w.heap.size w W'
 | _ :: _, h, e, he => by
  rcases List.mem_cons.1 he with rfl | he
  · exact h.1
  · exact RelOk.at h.2 e he
def DStepsK (P : Program) (ops : Array Oper) (N : Nat) (w0 : World) (sd : List (Option Tmp × VS)) (dl : List (List Nat)) (f : Fl) (sp : SpK) : Nat → List Oper → Prop
 | _, [] => True
 | k, o :: l => (∀ W, Below w0.heap.size w0 W → DStep P ops o N W sd (fun v W' => relK sp k W W' ∧ okAt sd k v W') ((dl[k]?).getD []) f) ∧ DStepsK P ops N w0 sd dl f sp (k + 1) l
section
variable {P : Program} {N : Nat} {sd : List (Option Tmp × VS)} {dl : List (List Nat)}
theorem DStepsK.cons {ops : Array Oper} {w0 : World} {f : Fl} {k : Nat} {sp : SpK} {o : Oper} {l : List Oper} (hk : sp.all (fun e => !(e.1 == k)) = true) (h : ∀ W, Below w0.heap.size w0 W → DStep P ops o N W sd (fun v W' => Below W.heap.size W W' ∧ okAt sd k v W') ((dl[k]?).getD []) f) (hl : DStepsK P ops N w0 sd dl f sp (k + 1) l) : DStepsK P ops N w0 sd dl f sp k (o :: l) := by
 have e : relK sp k = fun W W' => Below W.heap.size W W' := by
  funext W W'
  have : sp.find? (fun e => e.1 == k) = none := List.find?_eq_none.2 fun x hx => by
   have := List.all_eq_true.1 hk x hx
   simpa using this
  simp only [relK, this]
 exact ⟨by rw [e]; exact h, hl⟩
theorem DStepsK.hit {ops : Array Oper} {w0 : World} {f : Fl} {k : Nat} {sp : SpK} {rel : World → World → Prop} {ex : List Nat} {o : Oper} {l : List Oper} (hk : sp.find? (fun e => e.1 == k) = some (k, rel, ex)) (h : ∀ W, Below w0.heap.size w0 W → DStep P ops o N W sd (fun v W' => rel W W' ∧ okAt sd k v W') ((dl[k]?).getD []) f) (hl : DStepsK P ops N w0 sd dl f sp (k + 1) l) : DStepsK P ops N w0 sd dl f sp k (o :: l) := by
 have e : relK sp k = rel := by
  funext W W'
  simp only [relK, hk]
 exact ⟨by rw [e]; exact h, hl⟩
end
theorem NewS.toW' {s base : Nat} {rs : List (List Value)} {u : Value} {w : World} (h : NewS s base rs u w) : NewW s base rs u w := by
 rcases h with h | ⟨B, sp, h1, rfl, h3, h4⟩
 · exact .inl h
 · exact .inr ⟨B, h1, h3.own⟩
theorem NewW.toS {s base : Nat} {rs : List (List Value)} {u : Value} {w : World} (h : NewW s base rs u w) (hn : rs ≠ []) : NewS s base rs u w := by
 rcases h with h | ⟨B, h1, h2⟩
 · exact .inl h
 · exact NewS.of_own h2 h1 hn
theorem NewW.keep {s base n : Nat} {rs : List (List Value)} {u : Value} {w w' : World} (h : NewW s base rs u w) (hne : rs ≠ []) (hk : KeepR s base n w w') (hn : rs.length ≤ n) : NewW s base rs u w' := ((h.toS hne).keep hk hn).toW'
section
variable {P : Program} {ops : Array Oper} {o : Oper} {N : Nat} {f : Fl} {w : World}
end
abbrev RelL := Nat → World → World → Prop
def MonoL (m : Nat) (rel : RelL) (sd : List (Option Tmp × VS)) (dl : List (List Nat)) : Prop := ∀ i, i < m → ∀ j, j ≠ i → i ∉ (dl[j]?).getD [] → ∀ u W W', rel i W W' → okAt sd j u W → okAt sd j u W'
def DStepsL (P : Program) (ops : Array Oper) (N : Nat) (G : (Nat → Bool) → World → Prop) (rel : RelL) (sd : List (Option Tmp × VS)) (dl : List (List Nat)) (f : Fl) : Nat → List Oper → Prop
 | _, [] => True
 | k, o :: l => (∀ L W, L k = false → (∀ j, k ∈ (dl[j]?).getD [] → L j = false) → G L W → DStep P ops o N W sd (fun v W' => rel k W W' ∧ G (upd L k true) W' ∧ okAt sd k v W') ((dl[k]?).getD []) f) ∧ DStepsL P ops N G rel sd dl f (k + 1) l
section
variable {P : Program} {N : Nat} {sd : List (Option Tmp × VS)} {dl : List (List Nat)}
theorem WC.drawL {id : Nat} {f : Fl} {w : World} {Q : Exit → Act → World → Prop} (G : (Nat → Bool) → World → Prop) (m : Nat) (rel : RelL) {ops : List Oper} (sd : List (Option Tmp × VS)) (dl : List (List Nat)) (hm : P.follows .mixedOrders = true) (hb : ordB .any ops.toArray = true) (hbp : ordB .any (ops.take m).toArray = true) (ht : tailB .any ops.toArray (ops.take m).length = true) (hdl : (ops.take m).map (depsOf .any) = dl)
    (hds : (ops.take m).map (·.dst) = sd.map (·.1)) (hN : inN N sd = true) (hG0 : G (fun _ => false) w.drew) (hmono : MonoL (ops.take m).length rel sd dl) (hst : DStepsL P (ops.take m).toArray N G rel sd dl f 0 (ops.take m))
    (hend : ∀ W, G (fun j => decide (j < (ops.take m).length)) W → DEnd (fun f W => WL P ops.toArray Q N (ops.drop m) f W) W sd f) : WC P N (.region id ops.toArray true) Q f w := fun a ha => by
  obtain ⟨pre, hpre⟩ : ∃ pre, pre = ops.take m := ⟨_, rfl⟩
  obtain ⟨suf, hsuf⟩ : ∃ suf, suf = ops.drop m := ⟨_, rfl⟩
  have hops : pre ++ suf = ops := by rw [hpre, hsuf]; exact List.take_append_drop m ops
  rw [← hpre] at hbp ht hdl hds hst hmono hend
  rw [← hsuf] at hend
  clear hpre hsuf
  subst hops
  have hlen : dl.length = sd.length := by rw [← hdl, List.length_map, ← List.length_map (f := (·.dst)), hds, List.length_map]
  have hpl : pre.length = dl.length := by rw [← hdl, List.length_map]
  refine wp_region_any hm ?_
  have hrep : Array.replicate (pre ++ suf).toArray.size false = Array.replicate pre.toArray.size false ++ Array.replicate suf.length false := by
    simp [Array.replicate_append_replicate]
  rw [hrep]
  have hsz : (pre ++ suf).toArray.size = pre.toArray.size + suf.length := by simp
  rw [hsz]
  refine pre_tail (pre := pre.toArray) (suf := suf) hb hbp (by simp) (by simpa using ht) pre.toArray.size _ (by simp) (fun j hj => by simp [Array.getD_eq_getD_getElem?, Array.getElem?_replicate] at hj; split at hj <;> simp_all) a w.drew ?_
  have hda : ∀ j, depsAt .any pre.toArray j = (dl[j]?).getD [] := by
    intro j
    subst hdl
    simp only [depsAt, List.getElem?_map, List.getElem?_toArray]
  have hF0 : ∀ j, (Array.replicate pre.toArray.size false).getD j false = true → False := fun j hj => by simp [Array.getD_eq_getD_getElem?, Array.getElem?_replicate] at hj; split at hj <;> simp_all
  refine wpAny_factsD hbp a G (fun j g W => okAt sd j (g j) W) (fun i _ W W' => i < pre.length ∧ rel i W W') ?_ ?_ ?_ pre.toArray.size _ (fun _ => undef) a w.drew (by simp) (by
      have := List.countP_le_length (p := fun b => !b) (l := (Array.replicate pre.toArray.size false).toList)
      simpa using this) (fun j hj => (hF0 j hj).elim) (Agrees.start fun j hj => hF0 j hj) (by
      have e : (fun j => (Array.replicate pre.toArray.size false).getD j false) = fun _ => false := by
        funext j
        cases hj : (Array.replicate pre.toArray.size false).getD j false with
        | false => rfl
        | true => exact (hF0 j hj).elim
      rw [e]
      exact hG0) (fun j hj => (hF0 j hj).elim)
  · intro i g W W' j g' hB hne hnd h
    exact hmono i hB.1 j hne (by rw [← hda j]; exact hnd) _ W W' hB.2 h
  · intro i o hoi L g W hLi hdn hG hd
    have key : ∀ (l : List Oper) (k : Nat), DStepsL P pre.toArray N G rel sd dl f k l → ∀ j o, l[j]? = some o → ∀ L W, L (k + j) = false → (∀ q, (k + j) ∈ (dl[q]?).getD [] → L q = false) → G L W → DStep P pre.toArray o N W sd (fun v W' => rel (k + j) W W' ∧ G (upd L (k + j) true) W' ∧ okAt sd (k + j) v W') ((dl[k + j]?).getD []) f := by
      intro l
      induction l with
      | nil => intro k _ j o h; simp at h
      | cons x l ih =>
        intro k hs j o h
        cases j with
        | zero =>
          simp only [List.getElem?_cons_zero, Option.some.injEq] at h
          subst h
          exact hs.1
        | succ j =>
          have := ih (k + 1) hs.2 j o (by simpa using h)
          rw [show k + (j + 1) = k + 1 + j by omega]
          exact this
    have hk := key pre 0 hst i o (by simpa using hoi) L W (by rw [Nat.zero_add]; exact hLi) (by rw [Nat.zero_add]; intro q hq; exact hdn q (by rw [hda q]; exact hq)) hG
    rw [Nat.zero_add] at hk
    have hdo : depsOf .any o = (dl[i]?).getD [] := by rw [← hda i, depsAt_eq hoi]
    rw [hdo] at hd ⊢
    rw [putL_eq (ds := sd.map (·.1)) (by simpa using hds)]
    have hH : HypL (fun j g w => okAt sd j (g j) w) dl g W ((dl[i]?).getD []) := HypL.of _ fun j hj => by have := hd j hj; rwa [hda j] at this
    have hil : i < pre.length := by
      have := (Array.getElem?_eq_some_iff.1 hoi).1
      simpa using this
    refine (DStep.to hN _ f a hk ha hH).mono fun v W' h => ⟨⟨hil, h.1⟩, h.2.1, ?_⟩
    simp only [restr_self]
    rw [show upd g i v i = v by simp [upd]]
    exact h.2.2
  · intro L g W hL hG hd
    rw [putL_eq (ds := sd.map (·.1)) (by simpa using hds)]
    have hH : HypL (fun j g w => okAt sd j (g j) w) dl g W (List.range' 0 sd.length) := HypL.of _ fun j hj => by
      have hj' : j < pre.toArray.size := by
        simp [List.mem_range'] at hj
        simp
        omega
      have := hd j hj'
      rwa [hda j] at this
    have hLe : L = fun j => decide (j < pre.length) := by
      funext j
      rw [hL j]
      simp
    rw [hLe] at hG
    have hfin := DEnd.to (Q := fun a W => wpList P (pre ++ suf).toArray Q suf a W) hN (fun f h a ha => h a ha) sd 0 f a (by simp) (hend W hG) ha hH
    show wpOps P (pre ++ suf).toArray Q (List.range' pre.toArray.size suf.length) _ _
    rw [wpOps_eq_wpList suf pre.toArray.size (fun j => by simp [List.getElem?_append_right])]
    rw [List.range_eq_range', show pre.toArray.size = sd.length by simp; omega]
    exact hfin
end
theorem heap_alloc_size (w : World) (o : Obj) : (w.alloc o).heap.size = w.heap.size + 1 := by
 show (w.heap.push o).size = _
 rw [Array.size_push]
section
variable {P : Program} {ops : Array Oper} {o : Oper} {N : Nat} {f : Fl} {w : World}
theorem dx_apRoom {t s bytes cap B : Nat} {x y : Operand} {v2 : Value} {rs news : List (List Value)} {L : List Nat} (ho : o.op = .call { callee := .builtin .append, args := #[x, y], argTypes := #[t, t] }) (ht : apB P t s bytes = true) (hx : ev f x = some (.slice (some ⟨B, 0, none⟩) rs.length cap)) (hy : ev f y = some v2)
    (h : OwS s w (.slice (some ⟨B, 0, none⟩) rs.length cap) rs B) (h2 : RdF s L w v2 news) (hn : news ≠ []) (h1 : ∀ r ∈ news, ∀ u ∈ r, u.oneCell' = true) (hroom : rs.length + news.length ≤ cap) (hw : wantF ops o f = some true := by rfl) :
    DR P ops o N f w fun u W => u = .slice (some ⟨B, 0, none⟩) (rs.length + news.length) cap ∧ OwS s W u (rs ++ news) B ∧ Only B w W := fun a ha => by
  obtain ⟨e, i, Z, hu, hi, hz, rfl, rfl, hzs⟩ := of_apB ht
  have hx := ha.ev hx
  have hy := ha.ev hy
  obtain ⟨h0, hl, cap', sp, he, hc1, hc2, hc3, hb⟩ := h
  obtain ⟨_, hl2, a2, cap2, rfl, hd1, hd2, hd3, hd4⟩ := h2
  simp only [Value.slice.injEq, true_and] at he
  obtain rfl := he
  have hlr : ∀ r ∈ rs ++ news, r.length = i.size := fun r hr => by
    rcases List.mem_append.1 hr with h | h
    · exact hl r h
    · exact hl2 r h
  obtain ⟨X, o0, rfl, hX, hc⟩ := hd4 hn
  obtain ⟨tt, hb'⟩ := hb
  have hnews : ∀ j u, news.flatten[j]? = some u → w.cell? ((⟨X, o0, none⟩ : Addr).add j) = some u := fun j u hj => by rw [addr_at]; exact hc j u hj
  have hflat : news.flatten.length = news.length * i.size := flat_len hl2
  have h1' : ∀ u ∈ news.flatten, u.oneCell' = true := fun u hu => by
    obtain ⟨r, hr, hur⟩ := List.mem_flatten.1 hu
    exact h1 r hr u hur
  have hfl : rs.flatten.length = rs.length * i.size := flat_len hl
  have hle : news.length * i.size ≤ sp.length := by
    rw [hc3]
    exact Nat.mul_le_mul_right _ (by omega)
  have hr := run_ap_room (P := P) (w := w) (t := t) (ty := o.type) hu hi B rs.length cap _ hb' ⟨X, o0, none⟩ news.length cap2 news.flatten hflat hnews h1' hroom (by rw [List.size_toArray, List.length_append, hflat, hfl]; omega)
  exact Does.of_wp (wantF_of ha hw) fun K hK => by
    unfold Oper.wp execOp
    simp only [ho, resolve, invoke, builtin, Sem.run_bind, Sem.run_pure, Result.andThen_ok, List.map_toArray, List.map_cons, List.map_nil, hx, hy, hr]
    refine hK _ _ ⟨rfl, ⟨h0, hlr, cap, sp.drop news.flatten.length, by rw [List.length_append], by rw [List.length_append]; exact hroom, hc2, ?_, ⟨tt, ?_⟩⟩, only_setRow w B _⟩
    · rw [List.length_drop, List.length_append, hc3, hflat, ← Nat.sub_mul]
      congr 1
      omega
    · rw [setRow_heap w B _ _ tt _ hb']
      congr 3
      simp only [List.flatten_append, List.append_assoc]
      rw [← hfl, List.take_left, List.drop_append, List.drop_eq_nil_of_le (by omega), List.nil_append, Nat.add_sub_cancel_left]
theorem dx_litX {t len s : Nat} {parts : Array (Nat × Operand)} {e : TypeId} {i : TypeInfo} {Z : Value} {ps : List (Nat × Value)} {rs : List (List Value)} (ho : o.op = .buildSlice t len parts) (hu : P.underlying t = some (.slice e)) (hi : P.info? e = some i) (hz : i.zero = some Z) (hs : i.size = s) (h0 : 0 < s)
  (hp : (evl f (parts.toList.map (·.2))).map (fun vs => (parts.toList.map (·.1)).zip vs) = some ps) (hlen : len * s ≤ 16777216)
  (hf : Instr.fill (fun k => some (k * s, s)) (if len * s = 0 then #[] else (Array.range (len * s)).map (Z.cells[· % Z.cells.size]!)) ps = some rs.flatten.toArray) (hrs : ∀ r ∈ rs, r.length = s) (hl : rs.length = len) (hm : len ≤ maxLen) (hw : wantF ops o f = some true := by rfl) : DR P ops o N f w (fun u W => NewO s w rs u W ∧ W.heap.size = w.heap.size + 1) := fun a ha => by
 have key : (parts.map fun (i, x) => (i, a.eval x)).toList = ps := by
  cases hq : evl f (parts.toList.map (·.2)) with
  | none => rw [hq] at hp; cases hp
  | some vs =>
   rw [hq] at hp
   have h1 := ha.evl hq
   simp only [Option.map_some, Option.some.injEq] at hp
   rw [← hp, ← h1, Array.toList_map]
   clear hp h1 hq ho
   induction parts.toList with
   | nil => rfl
   | cons p l ih => simp only [List.map_cons, List.zip_cons_cons, List.cons.injEq, true_and]; exact ih
 subst hs
 have hrun := run_buildSlice (w := w) hu hi hz len (parts.map fun (i, x) => (i, a.eval x)) hlen (cs := rs.flatten.toArray) (by rw [key]; exact hf)
 exact Does.of_wp (wantF_of ha hw) fun K hK => by
  unfold Oper.wp execOp
  simp only [ho, Sem.run_bind, hrun, Sem.run_pure, Result.andThen_ok]
  obtain ⟨n1, n2, n3⟩ := newB_row w e rs.flatten
  exact hK _ _ ⟨⟨⟨h0, hrs, len, [], by rw [hl], by omega, hm, by simp [hl], by simpa using n1⟩, n2, n3⟩, heap_alloc_size _ _⟩
theorem dx_lit1X {t s bytes : Nat} {x : Operand} {V : Value} {r : List Value} (ho : o.op = .buildSlice t 1 #[(0, x)]) (ht : apB P t s bytes = true) (h0 : 0 < s) (hs : s ≤ 16777216) (hx : ev f x = some V) (hV : V.cells.toList = r) (hl : r.length = s) (hw : wantF ops o f = some true := by rfl) : DR P ops o N f w (fun u W => NewO s w [r] u W ∧ W.heap.size = w.heap.size + 1) := by
 obtain ⟨e, i, Z, hu, hi, hZ, rfl, rfl, hzs⟩ := of_apB ht
 have hVs : V.cells.size = i.size := by rw [← Array.length_toList, hV, hl]
 refine dx_litX (ps := [(0, V)]) (rs := [r]) ho hu hi hZ rfl h0 (by simp [evl, hx]) (by omega) ?_ (by simpa using hl) rfl (by unfold maxLen; omega) hw
 rw [if_neg (by omega), fill_one i.size _ (by simp) V hVs]
 simp [← hV]
end
theorem OwS.uniq {s B : Nat} {w : World} {u u' : Value} {rs rs' : List (List Value)} (h : OwS s w u rs B) (h' : OwS s w u' rs' B) (hl : rs.length = rs'.length) : u = u' := by
 obtain ⟨h0, hr, cap, sp, rfl, a2, a3, a4, ⟨t, a5⟩⟩ := h
 obtain ⟨_, hr', cap', sp', rfl, b2, b3, b4, ⟨t', b5⟩⟩ := h'
 rw [a5] at b5
 have e := congrArg (fun o : Option Obj => match o with | some (.cells cs _ _) => cs.size | _ => 0) b5
 simp only [List.size_toArray, List.length_append, flat_len hr, flat_len hr', a4, b4, hl] at e
 have hc : cap * s = cap' * s := by
  have e1 : rs'.length * s + (cap - rs'.length) * s = cap * s := by rw [← Nat.add_mul]; congr 1; omega
  have e2 : rs'.length * s + (cap' - rs'.length) * s = cap' * s := by rw [← Nat.add_mul]; congr 1; omega
  omega
 rw [hl, Nat.eq_of_mul_eq_mul_right h0 hc]
abbrev vC (iv : Value) : List Value := [.int .i64 5, .int .i64 0, .string ⟨#[]⟩, .slice none 0 0, iv]
abbrev zR : List Value := [.int .i64 0, .int .i64 0, .string ⟨#[]⟩, .slice none 0 0, .slice none 0 0]
def H2 (A : Bool) (W0 : World) (V D : Nat) (iv : Value) (rows : List (List Value)) (tr : List Value) (l4 l5 l7 l9 : Bool) (W : World) : Prop :=
 ChgV W0.heap.size V D W0 W ∧ (l9 = false → Blk W V (vC iv)) ∧ (l5 = false → if A = true then W.heap.size = W0.heap.size + (if l4 = true then 1 else 0) else OwS 5 W iv rows D) ∧
 (l7 = true → ∃ u, OwS 5 W u (rows ++ [tr]) D) ∧ (l9 = true → ∃ u r, Blk W V (vC u) ∧ OwS 5 W u (rows ++ [r]) D)
def rel2 (A : Bool) (V D : Nat) (rows : List (List Value)) (tr : List Value) : RelL := fun k W W' =>
 if k = 5 then (if A = true then Below W.heap.size W W' else Only D W W') else if k = 7 then Only D W W' ∧ ∀ u r, OwS 5 W u (rows ++ [r]) D → OwS 5 W' u (rows ++ [tr]) D else if k = 9 then Only V W W' else Below W.heap.size W W'
def p4 (W0 : World) (V D : Nat) (u : Value) (W : World) : Prop := ∃ B, B ≠ D ∧ B ≠ V ∧ W0.heap.size ≤ B ∧ OwS 5 W u [zR] B
def p5 (D : Nat) (rows : List (List Value)) (u : Value) (W : World) : Prop := ∃ r, OwS 5 W u (rows ++ [r]) D
abbrev sd2 (W0 : World) (V D n : Nat) (iv : Value) (rows : List (List Value)) (tr : List Value) : List (Option Tmp × VS) :=
  [(some 10, .is (.pointer (some ⟨V, 4, none⟩))), (some 11, .is iv), (some 12, .is (.agg tr.toArray)), (some 13, .is (.int .i64 (n : Int))), (some 14, .by (p4 W0 V D)), (some 15, .by (p5 D rows)),
   (some 16, .is (.pointer (some ⟨D, n * 5, none⟩))), (none, .by fun _ _ => True), (some 17, .is (.pointer (some ⟨V, 4, none⟩))), (none, .by fun _ _ => True)]
theorem p4_rel {A : Bool} {W0 W W' : World} {V D i : Nat} {rows : List (List Value)} {tr : List Value} {u : Value} (hr : rel2 A V D rows tr i W W') (h : p4 W0 V D u W) : p4 W0 V D u W' := by
  obtain ⟨B, h1, h2, h3, h4⟩ := h
  refine ⟨B, h1, h2, h3, ?_⟩
  unfold rel2 at hr
  split at hr
  · split at hr
    · exact h4.below hr
    · exact h4.other hr h1
  · split at hr
    · exact h4.other hr.1 h1
    · split at hr
      · exact h4.other hr h2
      · exact h4.below hr
theorem p5_rel {A : Bool} {W W' : World} {V D i : Nat} {rows : List (List Value)} {tr : List Value} {u : Value} (hi : i ≠ 5) (hVD : D ≠ V) (hr : rel2 A V D rows tr i W W') (h : p5 D rows u W) : p5 D rows u W' := by
  obtain ⟨r, h4⟩ := h
  unfold rel2 at hr
  rw [if_neg hi] at hr
  split at hr
  · exact ⟨tr, hr.2 u r h4⟩
  · split at hr
    · exact ⟨r, h4.other hr hVD⟩
    · exact ⟨r, h4.below hr⟩
theorem mono2 {A : Bool} {W0 : World} {V D n m : Nat} {iv : Value} {rows : List (List Value)} {tr : List Value} {dl : List (List Nat)} (hVD : D ≠ V) : MonoL m (rel2 A V D rows tr) (sd2 W0 V D n iv rows tr) dl := by
 intro i hi j hne hnd u W W' hr h
 match j, hne, h with
 | 0, _, h => exact h
 | 1, _, h => exact h
 | 2, _, h => exact h
 | 3, _, h => exact h
 | 4, _, h => exact p4_rel hr h
 | 5, hne, h => exact p5_rel (fun e => hne e.symm) hVD hr h
 | 6, _, h => exact h
 | 7, _, _ => exact trivial
 | 8, _, h => exact h
 | 9, _, _ => exact trivial
 | _ + 10, _, _ => exact trivial
theorem end2 {A : Bool} {W0 W : World} {V D : Nat} {iv : Value} {rows : List (List Value)} {tr : List Value} (h : H2 A W0 V D iv rows tr true true true true W) : ChgV W0.heap.size V D W0 W ∧ ∃ u, Blk W V (vC u) ∧ OwS 5 W u (rows ++ [tr]) D := by
 obtain ⟨h1, _, _, h4, h5⟩ := h
 obtain ⟨u, hu⟩ := h4 rfl
 obtain ⟨u', r, hv, hu'⟩ := h5 rfl
 obtain rfl := hu.uniq hu' (by simp)
 exact ⟨h1, u, hv, hu⟩
theorem begin2 {A : Bool} {W0 : World} {V D : Nat} {iv : Value} {rows : List (List Value)} {tr : List Value} (hv : Blk W0 V (vC iv)) (hA : A = false → OwS 5 W0 iv rows D) : H2 A W0 V D iv rows tr false false false false W0.drew := by
 have hb : Below W0.heap.size W0 W0.drew := below_draws (Below.refl _ _) 1
 refine ⟨.of_below hb, fun _ => hv.below hb, fun _ => ?_, fun h => (by cases h), fun h => (by cases h)⟩
 cases A with
 | true => rw [if_pos rfl]; exact World.size_drew _
 | false => rw [if_neg (by decide)]; exact (hA rfl).below hb
theorem lit2 {A : Bool} {W0 W W' : World} {V D : Nat} {iv : Value} {rows : List (List Value)} {tr : List Value} {l7 l9 : Bool} (h : H2 A W0 V D iv rows tr false false l7 l9 W) (hb : Below W.heap.size W W') (hs : W'.heap.size = W.heap.size + 1) : H2 A W0 V D iv rows tr true false l7 l9 W' := by
  obtain ⟨h1, h2, h3, h4, h5⟩ := h
  have h0 := h3 rfl
  refine ⟨h1.both (.of_below (hb.mono h1.size)), fun e => (h2 e).below hb, fun _ => ?_, fun e => ?_, fun e => ?_⟩
  · cases A with
    | true => rw [if_pos rfl] at h0 ⊢; rw [hs, h0]; rfl
    | false => rw [if_neg (by decide)] at h0 ⊢; exact h0.below hb
  · obtain ⟨u, hu⟩ := h4 e; exact ⟨u, hu.below hb⟩
  · obtain ⟨u, r, hv, hu⟩ := h5 e; exact ⟨u, r, hv.below hb, hu.below hb⟩
theorem app2 {A : Bool} {W0 W W' : World} {V D : Nat} {iv : Value} {rows : List (List Value)} {tr : List Value} {l4 : Bool} (hVD : D ≠ V) (h : H2 A W0 V D iv rows tr l4 false false false W) (hr : if A = true then Below W.heap.size W W' else Only D W W') : H2 A W0 V D iv rows tr l4 true false false W' := by
 obtain ⟨h1, h2, h3, h4, h5⟩ := h
 cases A with
 | true => rw [if_pos rfl] at hr; exact ⟨h1.both (.of_below (hr.mono h1.size)), fun e => (h2 e).below hr, fun h => (by cases h), fun h => (by cases h), fun h => (by cases h)⟩
 | false => rw [if_neg (by decide)] at hr; exact ⟨h1.both (.of_only hr (.inr (.inl rfl))), fun e => (h2 e).other hr hVD.symm, fun h => (by cases h), fun h => (by cases h), fun h => (by cases h)⟩
theorem ChgV.inner {b P V D : Nat} {w W W' : World} (h : ChgV b P V w W) (k : ChgV W.heap.size V D W W') (hb : b ≤ W.heap.size) (hD : b ≤ D) : ChgV b P V w W' := ⟨k.os.trans h.os, k.tape.trans h.tape, k.output.trans h.output, Nat.le_trans h.size k.size, fun i hi h1 h2 => (k.block i (by omega) h2 (by omega)).trans (h.block i hi h1 h2)⟩
theorem OwS.chgV {s b B C D : Nat} {w w' : World} {v : Value} {rs : List (List Value)} (h : OwS s w v rs D) (k : ChgV b B C w w') (hb : D < b) (h1 : D ≠ B) (h2 : D ≠ C) : OwS s w' v rs D := by
 obtain ⟨h0, hl, cap, sp, a1, a2, a3, a4, a5⟩ := h
 exact ⟨h0, hl, cap, sp, a1, a2, a3, a4, a5.chgV k hb h1 h2⟩
theorem RdT.inner {n V D : Nat} {L : List Nat} {W W' : World} {t : Tr} (h : RdT n (D :: L) W t) (k : ChgV W.heap.size V D W W') (hV : V ∈ L) : RdT n (D :: L) W' t := h.agree ⟨k.size, fun i hi hlt => k.block i hlt (fun e => hi (e ▸ .tail _ hV)) (fun e => hi (e ▸ .head _))⟩
theorem rel_o {A : Bool} {V D k : Nat} {rows : List (List Value)} {tr : List Value} {W W' : World} (h5 : k ≠ 5) (h7 : k ≠ 7) (h9 : k ≠ 9) (h : Below W.heap.size W W') : rel2 A V D rows tr k W W' := by unfold rel2; rw [if_neg h5, if_neg h7, if_neg h9]; exact h
theorem OwS.caps {s B l l' c c' : Nat} {a a' : Option Addr} {w : World} {rs rs' : List (List Value)} (h : OwS s w (.slice a l c) rs B) (h' : OwS s w (.slice a' l' c') rs' B) : c = c' := by
 obtain ⟨h0, hr, cap, sp, e1, a2, a3, a4, ⟨t, a5⟩⟩ := h
 obtain ⟨_, hr', cap', sp', e2, b2, b3, b4, ⟨t', b5⟩⟩ := h'
 simp only [Value.slice.injEq] at e1 e2
 obtain ⟨rfl, rfl, rfl⟩ := e1
 obtain ⟨rfl, rfl, rfl⟩ := e2
 rw [a5] at b5
 have e := congrArg (fun o : Option Obj => match o with | some (.cells cs _ _) => cs.size | _ => 0) b5
 simp only [List.size_toArray, List.length_append, flat_len hr, flat_len hr', a4, b4] at e
 rw [← Nat.add_mul, ← Nat.add_mul] at e
 have := Nat.eq_of_mul_eq_mul_right h0 e
 omega
theorem OwS.init {s B c : Nat} {w W : World} {u : Value} {rs : List (List Value)} {r r' : List Value} (h : OwS s w (.slice (some ⟨B, 0, none⟩) rs.length c) rs B) (k : OwS s w u (rs ++ [r']) B) (h' : OwS s W u (rs ++ [r]) B) : OwS s W (.slice (some ⟨B, 0, none⟩) rs.length c) rs B := by
 obtain ⟨h0, hr, cap, sp, rfl, a2, a3, a4, a5⟩ := h'
 have e := h.caps k
 subst e
 have hl : r.length = s := hr r (by simp)
 rw [List.length_append, List.length_singleton] at a2 a4
 refine ⟨h0, fun x hx => hr x (List.mem_append_left _ hx), c, r ++ sp, rfl, by omega, a3, ?_, ?_⟩
 · rw [List.length_append, hl, a4, show c - rs.length = (c - (rs.length + 1)) + 1 by omega, Nat.succ_mul]; omega
 · rw [List.flatten_append] at a5; simpa using a5
theorem row3 {A : Bool} {W0 W W' : World} {V D c : Nat} {iv : Value} {rows : List (List Value)} {tr : List Value} {l4 l5 l9 : Bool} (hVD : D ≠ V) (hiv : A = false → iv = .slice (some ⟨D, 0, none⟩) rows.length c) (h : H2 A W0 V D iv rows tr l4 l5 false l9 W) (hr : Only D W W') (hs : ∀ u r, OwS 5 W u (rows ++ [r]) D → OwS 5 W' u (rows ++ [tr]) D) (h5 : ∃ u r, OwS 5 W u (rows ++ [r]) D) : H2 A W0 V D iv rows tr l4 l5 true l9 W' := by
 obtain ⟨h1, h2, h3, h4, h9⟩ := h
 obtain ⟨u, r, hu⟩ := h5
 refine ⟨h1.both (.of_only hr (.inr (.inl rfl))), fun e => (h2 e).other hr hVD.symm, fun e => ?_, fun _ => ⟨u, hs u r hu⟩, fun e => by obtain ⟨u, r, hv, hu⟩ := h9 e; exact ⟨u, tr, hv.other hr hVD.symm, hs u r hu⟩⟩
 have h0 := h3 e
 cases A with
 | true => rw [if_pos rfl] at h0 ⊢; rw [hr.size]; exact h0
 | false =>
  rw [if_neg (by decide)] at h0 ⊢
  obtain rfl := hiv rfl
  exact h0.init hu (hs u r hu)
theorem put3 {A : Bool} {W0 W W' : World} {V D : Nat} {iv u : Value} {rows : List (List Value)} {r tr : List Value} {l4 l5 l7 : Bool} (hVD : D ≠ V) (h : H2 A W0 V D iv rows tr l4 l5 l7 false W) (hr : Only V W W') (hv : Blk W' V (vC u)) (hu : OwS 5 W u (rows ++ [r]) D) : H2 A W0 V D iv rows tr l4 l5 l7 true W' := by
 obtain ⟨h1, h2, h3, h4, h9⟩ := h
 refine ⟨h1.both (.of_only hr (.inl rfl)), fun h => (by cases h), fun e => ?_, fun e => (by obtain ⟨u, hu⟩ := h4 e; exact ⟨u, hu.other hr hVD⟩), fun _ => ⟨u, r, hv, hu.other hr hVD⟩⟩
 have h0 := h3 e
 cases A with
 | true => rw [if_pos rfl] at h0 ⊢; rw [hr.size]; exact h0
 | false => rw [if_neg (by decide)] at h0 ⊢; exact h0.other hr hVD
theorem set_last {rows : List (List Value)} {r t : List Value} : (rows ++ [r]).set rows.length t = rows ++ [t] := by simp
theorem oc_lit (r : List Value) (h : ∀ u ∈ r, u.oneCell' = true) : ∀ x ∈ [r], ∀ u ∈ x, u.oneCell' = true := fun x hx => by rw [List.mem_singleton.1 hx]; exact h
theorem one_v (n : Nat) (vs : Nat → Except Int (Js × Nat)) (s : ByteArray) (dp : Nat) (hs : s.size ≤ 1000000) (hv : ValAt (n + 1) vs s dp) : OneAt (n + 1) vs s dp := by
  intro b Bp V P L ka js w hL hPL hVL hBL hBP hVP hBV hLb hbw hk hp hI hjs
  obtain ⟨iv, ts, rfl, hBp, hV, hI0, hI⟩ := hI
  rw [List.length_map] at hjs
  have hsm : ts.length ≤ 1000000 := by omega
  rcases hI with ⟨rfl, h0⟩ | ⟨B0, hbB, hO, hts⟩
  ·
    refine cx_enter (N := 19) (f := [(0, .pointer (some ⟨Bp, 0, none⟩)), (1, .pointer (some ⟨V, 0, none⟩))]) Try.func89 rfl rfl rfl rfl fun Q hQ hE_ => ?_
    have hB := ChgV.refl b P V w
    refine Sq fun K1 hK1 => (Rg (Pu rfl (Ni (hK1 (Sq fun K2 hK2 => (Rg (Va (dx_load rfl ty_one_51 rfl (hBp.cell (k := 0) rfl)) rfl rfl ?_)))))))
    refine Ge (dx_cw rfl Try.func34 rfl rfl rfl (hv P ka w _ hL hPL (by omega) hp)) rfl rfl ?_
    rintro _ W30 ⟨(⟨k16, t18, rfl, hw20, hw21, hw22, hw23, hp31⟩ | ⟨k17, e19, rfl, hw24, hw25, hw26, hp31⟩), g29⟩
    ·
      replace hBp := hBp.chg g29 hBP
      replace hV := hV.chg g29 hVP
      replace hB := hB.chg g29 (Nat.le_trans hbw hB.size)
      refine Pu rfl (Pu rfl (Pu rfl ?_))
      refine Ge (dx_alloc rfl ty_zero_26 rfl) rfl rfl ?_
      rintro _ W32 ⟨rfl, k33, b34, z35⟩
      have n36 : P ≠ W30.heap.size := Nat.ne_of_lt hp31.lt
      have n37 : Bp ≠ W30.heap.size := Nat.ne_of_lt hBp.lt
      have n38 : V ≠ W30.heap.size := Nat.ne_of_lt hV.lt
      have l39 := hB.size
      replace hw21 := hw21.more b34 (Nat.le_refl _)
      replace hp31 := hp31.below b34
      replace hBp := hBp.below b34
      replace hV := hV.below b34
      replace hB := hB.both (.of_below (b34.mono (Nat.le_trans hbw hB.size)))
      refine WL.do (dx_store (cs' := [.int .i64 t18.kind, .int .i64 t18.num, .string t18.text, t18.nv, t18.iv]) (vs := [.int .i64 t18.kind, .int .i64 t18.num, .string t18.text, t18.nv, t18.iv]) rfl ty_size_26_5 rfl rfl rfl (oc_cons rfl (oc_cons rfl (oc_cons rfl (oc_cons (hw21.1).one (oc_cons (hw21.2.1).one oc_nil))))) k33 rfl (Nat.le_of_ble_eq_true rfl) rfl) rfl ?_
      rintro _ W40 ⟨k42, o41⟩
      replace hp31 := hp31.other o41 n36
      replace hBp := hBp.other o41 n37
      replace hV := hV.other o41 n38
      clear k33
      replace hw21 := hw21.only o41 (.head _)
      replace hB := hB.both (.of_only o41 (.inr (.inr (Nat.le_trans hbw l39))))
      refine Pu rfl (Ni (hK2 (Sq fun K43 hK43 => ?_)))
      have hsW := hB.size
      obtain ⟨D, hD⟩ : ∃ D, D = W40.heap.size + 1 := ⟨_, rfl⟩
      have hDV : D ≠ V := by have := hV.lt; omega
      have hbD : b ≤ D := by omega
      refine WC.drawL (fun L_ W_ => H2 true W40 V D (.slice none 0 0) (ts.map encT) [.int .i64 t18.kind, .int .i64 t18.num, .string t18.text, t18.nv, t18.iv] (L_ 4) (L_ 5) (L_ 7) (L_ 9) W_) 10 (rel2 true V D (ts.map encT) [.int .i64 t18.kind, .int .i64 t18.num, .string t18.text, t18.nv, t18.iv]) (sd2 W40 V D 0 (.slice none 0 0) (ts.map encT) [.int .i64 t18.kind, .int .i64 t18.num, .string t18.text, t18.nv, t18.iv]) [[], [0], [], [1], [], [1, 4, 0, 1, 2, 3, 4], [5, 3, 0, 1, 2, 3, 4, 5], [6, 2, 5, 0, 1, 2, 3, 4, 5], [0, 1, 2, 3, 4, 5], [8, 5, 5, 0, 1, 2, 3, 4, 5]] (by kernel_rfl) (by kernel_rfl) (by kernel_rfl) (by kernel_rfl) (by kernel_rfl) (by kernel_rfl) (by kernel_rfl) (begin2 hV (fun h => by cases h)) (mono2 hDV) ?_ ?_
      ·
        refine ⟨fun L_ Wd hl hn hG => ?_, ?_⟩
        ·
          replace hG : H2 true W40 V D (.slice none 0 0) (ts.map encT) [.int .i64 t18.kind, .int .i64 t18.num, .string t18.text, t18.nv, t18.iv] (L_ 4) (L_ 5) (L_ 7) (L_ 9) Wd := hG
          exact DV.dr (dx_fld (o1 := 4) rfl ty_fld_26_4_4 rfl rfl) ⟨rel_o (by decide) (by decide) (by decide) (Below.refl _ _), hG, rfl⟩
        refine ⟨fun L_ Wd hl hn hG => ?_, ?_⟩
        ·
          replace hG : H2 true W40 V D (.slice none 0 0) (ts.map encT) [.int .i64 t18.kind, .int .i64 t18.num, .string t18.text, t18.nv, t18.iv] (L_ 4) (L_ 5) (L_ 7) (L_ 9) Wd := hG
          exact DV.dr (dx_load rfl ty_one_24 rfl ((hG.2.1 (hn 9 (by decide))).cell (k := 4) rfl)) ⟨rel_o (by decide) (by decide) (by decide) (Below.refl _ _), hG, rfl⟩
        refine ⟨fun L_ Wd hl hn hG => ?_, ?_⟩
        ·
          replace hG : H2 true W40 V D (.slice none 0 0) (ts.map encT) [.int .i64 t18.kind, .int .i64 t18.num, .string t18.text, t18.nv, t18.iv] (L_ 4) (L_ 5) (L_ 7) (L_ 9) Wd := hG
          exact DV.dr (dx_loadN (cs := [.int .i64 t18.kind, .int .i64 t18.num, .string t18.text, t18.nv, t18.iv]) rfl ty_agg_26_5 rfl (k42.chgV hG.1 k42.lt n38.symm (by have := k42.lt; omega)).range rfl) ⟨rel_o (by decide) (by decide) (by decide) (Below.refl _ _), hG, rfl⟩
        refine ⟨fun L_ Wd hl hn hG => ?_, ?_⟩
        ·
          replace hG : H2 true W40 V D (.slice none 0 0) (ts.map encT) [.int .i64 t18.kind, .int .i64 t18.num, .string t18.text, t18.nv, t18.iv] (L_ 4) (L_ 5) (L_ 7) (L_ 9) Wd := hG
          exact DV.dr (dx_len rfl Try.underlying24 rfl) ⟨rel_o (by decide) (by decide) (by decide) (Below.refl _ _), hG, rfl⟩
        refine ⟨fun L_ Wd hl hn hG => ?_, ?_⟩
        ·
          replace hG : H2 true W40 V D (.slice none 0 0) (ts.map encT) [.int .i64 t18.kind, .int .i64 t18.num, .string t18.text, t18.nv, t18.iv] (L_ 4) (L_ 5) (L_ 7) (L_ 9) Wd := hG
          have h5_ := hn 5 (by decide)
          rw [hl, h5_] at hG
          refine (dx_lit1X (r := zR) rfl ty_ap_24 (by decide) (by decide) rfl rfl rfl).mono ?_
          rintro u W_ ⟨⟨k1_, k2_, k3_⟩, k4_⟩
          have hs0_ := hG.1.size
          refine ⟨rel_o (by decide) (by decide) (by decide) k2_, ?_, ⟨Wd.heap.size, ?_, ?_, hs0_, k1_⟩⟩
          · show H2 _ _ _ _ _ _ _ true (L_ 5) (L_ 7) (L_ 9) _
            rw [h5_]
            exact lit2 hG k2_ k4_
          · have := hG.2.2.1 rfl; rw [if_pos rfl, if_neg (by decide)] at this; omega
          · have := hV.lt; omega
        refine ⟨fun L_ Wd hl hn hG => ?_, ?_⟩
        ·
          intro u4 q4 u4 q4
          replace hG : H2 true W40 V D (.slice none 0 0) (ts.map encT) [.int .i64 t18.kind, .int .i64 t18.num, .string t18.text, t18.nv, t18.iv] (L_ 4) (L_ 5) (L_ 7) (L_ 9) Wd := hG
          have h7_ := hn 7 (by decide)
          have h9_ := hn 9 (by decide)
          rw [hl, h7_, h9_] at hG
          obtain ⟨B4, e1_, e2_, e3_, e4_⟩ := q4
          have e5_ := e4_.lt
          have hz_ := hG.2.2.1 rfl
          rw [if_pos rfl] at hz_
          have hz2_ : Wd.heap.size = D := by rw [hz_] at e5_ ⊢; split at e5_ <;> split <;> omega
          refine (dx_apF (rs := []) (L := []) rfl ty_ap_24 rfl rfl (RdF.nil (L := []) (by decide)) (e4_.rd (L := []) (by simp)) (by simp) (by simp [maxLen] <;> omega) (by simp <;> omega)).mono ?_
          rintro u W_ ⟨k1_, k2_, k3_⟩
          rw [hz2_] at k1_
          replace k1_ : OwS 5 W_ u ((ts.map encT) ++ [zR]) D := by rw [h0]; exact k1_
          refine ⟨(by unfold rel2; rw [if_pos rfl]; exact k2_), ?_, ⟨zR, k1_⟩⟩
          show H2 _ _ _ _ _ _ _ (L_ 4) true (L_ 7) (L_ 9) _
          rw [h7_, h9_]
          exact app2 hDV hG k2_
        refine ⟨fun L_ Wd hl hn hG => ?_, ?_⟩
        ·
          intro u5 q5 u4 q4 u5 q5
          replace hG : H2 true W40 V D (.slice none 0 0) (ts.map encT) [.int .i64 t18.kind, .int .i64 t18.num, .string t18.text, t18.nv, t18.iv] (L_ 4) (L_ 5) (L_ 7) (L_ 9) Wd := hG
          obtain ⟨r_, h5_⟩ := q5
          exact DV.dr (dx_idxO 0 rfl ty_slice_24 rfl rfl h5_ rfl (by simp [h0]) rfl) ⟨rel_o (by decide) (by decide) (by decide) (Below.refl _ _), hG, rfl⟩
        refine ⟨fun L_ Wd hl hn hG => ?_, ?_⟩
        ·
          intro u5 q5 u4 q4 u5 q5
          replace hG : H2 true W40 V D (.slice none 0 0) (ts.map encT) [.int .i64 t18.kind, .int .i64 t18.num, .string t18.text, t18.nv, t18.iv] (L_ 4) (L_ 5) (L_ 7) (L_ 9) Wd := hG
          have hq_ := q5
          obtain ⟨r_, h5_⟩ := q5
          refine (dx_storeO (k := 0) (r := [.int .i64 t18.kind, .int .i64 t18.num, .string t18.text, t18.nv, t18.iv]) rfl ty_size_26_5 rfl rfl rfl (oc_cons rfl (oc_cons rfl (oc_cons rfl (oc_cons (hw21.1).one (oc_cons (hw21.2.1).one oc_nil))))) h5_ rfl (by simp [h0]) rfl).mono ?_
          rintro _ W_ ⟨k1_, k2_⟩
          replace k1_ : OwS 5 W_ u5 ((ts.map encT) ++ [[.int .i64 t18.kind, .int .i64 t18.num, .string t18.text, t18.nv, t18.iv]]) D := by rw [h0] at k1_ ⊢; exact k1_
          have hs_ : ∀ u r, OwS 5 Wd u ((ts.map encT) ++ [r]) D → OwS 5 W_ u ((ts.map encT) ++ [[.int .i64 t18.kind, .int .i64 t18.num, .string t18.text, t18.nv, t18.iv]]) D := fun u r h => by have e_ := h5_.uniq h (by simp); rw [← e_]; exact k1_
          rw [hl] at hG
          refine ⟨(by unfold rel2; rw [if_neg (by decide), if_pos rfl]; exact ⟨k2_, hs_⟩), ?_, trivial⟩
          show H2 _ _ _ _ _ _ _ (L_ 4) (L_ 5) true (L_ 9) _
          exact row3 (c := 0) hDV (fun h => (by cases h)) hG k2_ hs_ ⟨_, r_, h5_⟩
        refine ⟨fun L_ Wd hl hn hG => ?_, ?_⟩
        ·
          intro u4 q4 u5 q5
          replace hG : H2 true W40 V D (.slice none 0 0) (ts.map encT) [.int .i64 t18.kind, .int .i64 t18.num, .string t18.text, t18.nv, t18.iv] (L_ 4) (L_ 5) (L_ 7) (L_ 9) Wd := hG
          exact DV.dr (dx_fld (o1 := 4) rfl ty_fld_26_4_4 rfl rfl) ⟨rel_o (by decide) (by decide) (by decide) (Below.refl _ _), hG, rfl⟩
        refine ⟨fun L_ Wd hl hn hG => ?_, ?_⟩
        ·
          intro u5 q5 u5 q5 u4 q4 u5 q5
          replace hG : H2 true W40 V D (.slice none 0 0) (ts.map encT) [.int .i64 t18.kind, .int .i64 t18.num, .string t18.text, t18.nv, t18.iv] (L_ 4) (L_ 5) (L_ 7) (L_ 9) Wd := hG
          obtain ⟨r_, h5_⟩ := q5
          rw [hl] at hG
          refine (dx_store (cs' := vC u5) (vs := [u5]) rfl ty_size_24_1 rfl rfl (oc_one h5_.one) (oc_cons h5_.one oc_nil) (hG.2.1 rfl) rfl (Nat.le_of_ble_eq_true rfl) rfl).mono ?_
          rintro _ W_ ⟨k1_, k2_⟩
          refine ⟨(by unfold rel2; rw [if_neg (by decide), if_neg (by decide), if_pos rfl]; exact k2_), ?_, trivial⟩
          show H2 _ _ _ _ _ _ _ (L_ 4) (L_ 5) (L_ 7) true _
          exact put3 hDV hG k2_ k1_ h5_
        exact trivial
      ·
        intro We hGe
        obtain ⟨hc, uN, hVe, hOe⟩ := end2 (show H2 true W40 V D (.slice none 0 0) (ts.map encT) [.int .i64 t18.kind, .int .i64 t18.num, .string t18.text, t18.nv, t18.iv] true true true true We from hGe)
        intro u4 q4 u5 q5 _ _ _ _
        have hts_ : ∀ c ∈ ts, RdT (n + 1) (D :: L) We c := fun c hc_ => (by rw [h0] at hc_; cases hc_)
        have ht_ : RdT (n + 1) (D :: L) We t18 := ((hw21.less (fun x hx => .tail _ hx)).more (Below.refl _ _) (show W40.heap.size ≤ D by omega)).inner hc hVL
        replace hp31 := hp31.chgV hc hp31.lt hVP.symm (by have := hp31.lt; omega)
        replace hBp := hBp.chgV hc hBp.lt hBV (by have := hBp.lt; omega)
        replace hB := hB.inner hc (Nat.le_trans hbw hB.size) hbD
        refine Ni (hK43 (Sq fun K44 hK44 => (Rg (Pu rfl (Pu rfl (Ni (hK44 ?_)))))))
        exact WC.ret fun a_ ha_ => hQ (cx_ret1 rfl (.tmp rfl) (.inl ⟨k16, ts.map Tr.er ++ [t18.er], rfl, (by unfold oneL; rw [hw20]), by omega, by omega, (by rw [List.length_append, List.length_map]; show ts.length + 1 ≤ _; omega), ⟨uN, ts ++ [t18], by simp, hBp, hVe, hI0, .inr ⟨D, hbD, (by rw [List.map_append]; exact hOe), fun c hc_ => (by rcases List.mem_append.1 hc_ with h_ | h_; exact hts_ c h_; (rw [List.mem_singleton.1 h_]; exact ht_))⟩⟩, hp31⟩) hB ha_)
    ·
      replace hV := hV.chg g29 hVP
      replace hB := hB.chg g29 (Nat.le_trans hbw hB.size)
      refine Pu rfl (Pu rfl (Pu rfl ?_))
      refine Ge (dx_alloc rfl ty_zero_26 rfl) rfl rfl ?_
      rintro _ W45 ⟨rfl, k46, b47, z48⟩
      have n49 : P ≠ W30.heap.size := Nat.ne_of_lt hp31.lt
      have n51 : V ≠ W30.heap.size := Nat.ne_of_lt hV.lt
      have l52 := hB.size
      replace hp31 := hp31.below b47
      replace hV := hV.below b47
      replace hB := hB.both (.of_below (b47.mono (Nat.le_trans hbw hB.size)))
      refine WL.do (dx_store (cs' := zV) (vs := zV) rfl ty_size_26_5 rfl rfl rfl (oc_cons rfl (oc_cons rfl (oc_cons rfl (oc_cons rfl (oc_cons rfl oc_nil))))) k46 rfl (Nat.le_of_ble_eq_true rfl) rfl) rfl ?_
      rintro _ W53 ⟨k55, o54⟩
      replace hp31 := hp31.other o54 n49
      replace hV := hV.other o54 n51
      clear k46
      replace hB := hB.both (.of_only o54 (.inr (.inr (Nat.le_trans hbw l52))))
      refine Pu rfl (Ni (hK2 (Sq fun K56 hK56 => ?_)))
      have hsW := hB.size
      obtain ⟨D, hD⟩ : ∃ D, D = W53.heap.size + 1 := ⟨_, rfl⟩
      have hDV : D ≠ V := by have := hV.lt; omega
      have hbD : b ≤ D := by omega
      refine WC.drawL (fun L_ W_ => H2 true W53 V D (.slice none 0 0) (ts.map encT) [.int .i64 0, .int .i64 0, .string ⟨#[]⟩, .slice none 0 0, .slice none 0 0] (L_ 4) (L_ 5) (L_ 7) (L_ 9) W_) 10 (rel2 true V D (ts.map encT) [.int .i64 0, .int .i64 0, .string ⟨#[]⟩, .slice none 0 0, .slice none 0 0]) (sd2 W53 V D 0 (.slice none 0 0) (ts.map encT) [.int .i64 0, .int .i64 0, .string ⟨#[]⟩, .slice none 0 0, .slice none 0 0]) [[], [0], [], [1], [], [1, 4, 0, 1, 2, 3, 4], [5, 3, 0, 1, 2, 3, 4, 5], [6, 2, 5, 0, 1, 2, 3, 4, 5], [0, 1, 2, 3, 4, 5], [8, 5, 5, 0, 1, 2, 3, 4, 5]] (by kernel_rfl) (by kernel_rfl) (by kernel_rfl) (by kernel_rfl) (by kernel_rfl) (by kernel_rfl) (by kernel_rfl) (begin2 hV (fun h => by cases h)) (mono2 hDV) ?_ ?_
      ·
        refine ⟨fun L_ Wd hl hn hG => ?_, ?_⟩
        ·
          replace hG : H2 true W53 V D (.slice none 0 0) (ts.map encT) [.int .i64 0, .int .i64 0, .string ⟨#[]⟩, .slice none 0 0, .slice none 0 0] (L_ 4) (L_ 5) (L_ 7) (L_ 9) Wd := hG
          exact DV.dr (dx_fld (o1 := 4) rfl ty_fld_26_4_4 rfl rfl) ⟨rel_o (by decide) (by decide) (by decide) (Below.refl _ _), hG, rfl⟩
        refine ⟨fun L_ Wd hl hn hG => ?_, ?_⟩
        ·
          replace hG : H2 true W53 V D (.slice none 0 0) (ts.map encT) [.int .i64 0, .int .i64 0, .string ⟨#[]⟩, .slice none 0 0, .slice none 0 0] (L_ 4) (L_ 5) (L_ 7) (L_ 9) Wd := hG
          exact DV.dr (dx_load rfl ty_one_24 rfl ((hG.2.1 (hn 9 (by decide))).cell (k := 4) rfl)) ⟨rel_o (by decide) (by decide) (by decide) (Below.refl _ _), hG, rfl⟩
        refine ⟨fun L_ Wd hl hn hG => ?_, ?_⟩
        ·
          replace hG : H2 true W53 V D (.slice none 0 0) (ts.map encT) [.int .i64 0, .int .i64 0, .string ⟨#[]⟩, .slice none 0 0, .slice none 0 0] (L_ 4) (L_ 5) (L_ 7) (L_ 9) Wd := hG
          exact DV.dr (dx_loadN (cs := zV) rfl ty_agg_26_5 rfl (k55.chgV hG.1 k55.lt n51.symm (by have := k55.lt; omega)).range rfl) ⟨rel_o (by decide) (by decide) (by decide) (Below.refl _ _), hG, rfl⟩
        refine ⟨fun L_ Wd hl hn hG => ?_, ?_⟩
        ·
          replace hG : H2 true W53 V D (.slice none 0 0) (ts.map encT) [.int .i64 0, .int .i64 0, .string ⟨#[]⟩, .slice none 0 0, .slice none 0 0] (L_ 4) (L_ 5) (L_ 7) (L_ 9) Wd := hG
          exact DV.dr (dx_len rfl Try.underlying24 rfl) ⟨rel_o (by decide) (by decide) (by decide) (Below.refl _ _), hG, rfl⟩
        refine ⟨fun L_ Wd hl hn hG => ?_, ?_⟩
        ·
          replace hG : H2 true W53 V D (.slice none 0 0) (ts.map encT) [.int .i64 0, .int .i64 0, .string ⟨#[]⟩, .slice none 0 0, .slice none 0 0] (L_ 4) (L_ 5) (L_ 7) (L_ 9) Wd := hG
          have h5_ := hn 5 (by decide)
          rw [hl, h5_] at hG
          refine (dx_lit1X (r := zR) rfl ty_ap_24 (by decide) (by decide) rfl rfl rfl).mono ?_
          rintro u W_ ⟨⟨k1_, k2_, k3_⟩, k4_⟩
          have hs0_ := hG.1.size
          refine ⟨rel_o (by decide) (by decide) (by decide) k2_, ?_, ⟨Wd.heap.size, ?_, ?_, hs0_, k1_⟩⟩
          · show H2 _ _ _ _ _ _ _ true (L_ 5) (L_ 7) (L_ 9) _
            rw [h5_]
            exact lit2 hG k2_ k4_
          · have := hG.2.2.1 rfl; rw [if_pos rfl, if_neg (by decide)] at this; omega
          · have := hV.lt; omega
        refine ⟨fun L_ Wd hl hn hG => ?_, ?_⟩
        ·
          intro u4 q4 u4 q4
          replace hG : H2 true W53 V D (.slice none 0 0) (ts.map encT) [.int .i64 0, .int .i64 0, .string ⟨#[]⟩, .slice none 0 0, .slice none 0 0] (L_ 4) (L_ 5) (L_ 7) (L_ 9) Wd := hG
          have h7_ := hn 7 (by decide)
          have h9_ := hn 9 (by decide)
          rw [hl, h7_, h9_] at hG
          obtain ⟨B4, e1_, e2_, e3_, e4_⟩ := q4
          have e5_ := e4_.lt
          have hz_ := hG.2.2.1 rfl
          rw [if_pos rfl] at hz_
          have hz2_ : Wd.heap.size = D := by rw [hz_] at e5_ ⊢; split at e5_ <;> split <;> omega
          refine (dx_apF (rs := []) (L := []) rfl ty_ap_24 rfl rfl (RdF.nil (L := []) (by decide)) (e4_.rd (L := []) (by simp)) (by simp) (by simp [maxLen] <;> omega) (by simp <;> omega)).mono ?_
          rintro u W_ ⟨k1_, k2_, k3_⟩
          rw [hz2_] at k1_
          replace k1_ : OwS 5 W_ u ((ts.map encT) ++ [zR]) D := by rw [h0]; exact k1_
          refine ⟨(by unfold rel2; rw [if_pos rfl]; exact k2_), ?_, ⟨zR, k1_⟩⟩
          show H2 _ _ _ _ _ _ _ (L_ 4) true (L_ 7) (L_ 9) _
          rw [h7_, h9_]
          exact app2 hDV hG k2_
        refine ⟨fun L_ Wd hl hn hG => ?_, ?_⟩
        ·
          intro u5 q5 u4 q4 u5 q5
          replace hG : H2 true W53 V D (.slice none 0 0) (ts.map encT) [.int .i64 0, .int .i64 0, .string ⟨#[]⟩, .slice none 0 0, .slice none 0 0] (L_ 4) (L_ 5) (L_ 7) (L_ 9) Wd := hG
          obtain ⟨r_, h5_⟩ := q5
          exact DV.dr (dx_idxO 0 rfl ty_slice_24 rfl rfl h5_ rfl (by simp [h0]) rfl) ⟨rel_o (by decide) (by decide) (by decide) (Below.refl _ _), hG, rfl⟩
        refine ⟨fun L_ Wd hl hn hG => ?_, ?_⟩
        ·
          intro u5 q5 u4 q4 u5 q5
          replace hG : H2 true W53 V D (.slice none 0 0) (ts.map encT) [.int .i64 0, .int .i64 0, .string ⟨#[]⟩, .slice none 0 0, .slice none 0 0] (L_ 4) (L_ 5) (L_ 7) (L_ 9) Wd := hG
          have hq_ := q5
          obtain ⟨r_, h5_⟩ := q5
          refine (dx_storeO (k := 0) (r := [.int .i64 0, .int .i64 0, .string ⟨#[]⟩, .slice none 0 0, .slice none 0 0]) rfl ty_size_26_5 rfl rfl rfl (oc_cons rfl (oc_cons rfl (oc_cons rfl (oc_cons rfl (oc_cons rfl oc_nil))))) h5_ rfl (by simp [h0]) rfl).mono ?_
          rintro _ W_ ⟨k1_, k2_⟩
          replace k1_ : OwS 5 W_ u5 ((ts.map encT) ++ [[.int .i64 0, .int .i64 0, .string ⟨#[]⟩, .slice none 0 0, .slice none 0 0]]) D := by rw [h0] at k1_ ⊢; exact k1_
          have hs_ : ∀ u r, OwS 5 Wd u ((ts.map encT) ++ [r]) D → OwS 5 W_ u ((ts.map encT) ++ [[.int .i64 0, .int .i64 0, .string ⟨#[]⟩, .slice none 0 0, .slice none 0 0]]) D := fun u r h => by have e_ := h5_.uniq h (by simp); rw [← e_]; exact k1_
          rw [hl] at hG
          refine ⟨(by unfold rel2; rw [if_neg (by decide), if_pos rfl]; exact ⟨k2_, hs_⟩), ?_, trivial⟩
          show H2 _ _ _ _ _ _ _ (L_ 4) (L_ 5) true (L_ 9) _
          exact row3 (c := 0) hDV (fun h => (by cases h)) hG k2_ hs_ ⟨_, r_, h5_⟩
        refine ⟨fun L_ Wd hl hn hG => ?_, ?_⟩
        ·
          intro u4 q4 u5 q5
          replace hG : H2 true W53 V D (.slice none 0 0) (ts.map encT) [.int .i64 0, .int .i64 0, .string ⟨#[]⟩, .slice none 0 0, .slice none 0 0] (L_ 4) (L_ 5) (L_ 7) (L_ 9) Wd := hG
          exact DV.dr (dx_fld (o1 := 4) rfl ty_fld_26_4_4 rfl rfl) ⟨rel_o (by decide) (by decide) (by decide) (Below.refl _ _), hG, rfl⟩
        refine ⟨fun L_ Wd hl hn hG => ?_, ?_⟩
        ·
          intro u5 q5 u5 q5 u4 q4 u5 q5
          replace hG : H2 true W53 V D (.slice none 0 0) (ts.map encT) [.int .i64 0, .int .i64 0, .string ⟨#[]⟩, .slice none 0 0, .slice none 0 0] (L_ 4) (L_ 5) (L_ 7) (L_ 9) Wd := hG
          obtain ⟨r_, h5_⟩ := q5
          rw [hl] at hG
          refine (dx_store (cs' := vC u5) (vs := [u5]) rfl ty_size_24_1 rfl rfl (oc_one h5_.one) (oc_cons h5_.one oc_nil) (hG.2.1 rfl) rfl (Nat.le_of_ble_eq_true rfl) rfl).mono ?_
          rintro _ W_ ⟨k1_, k2_⟩
          refine ⟨(by unfold rel2; rw [if_neg (by decide), if_neg (by decide), if_pos rfl]; exact k2_), ?_, trivial⟩
          show H2 _ _ _ _ _ _ _ (L_ 4) (L_ 5) (L_ 7) true _
          exact put3 hDV hG k2_ k1_ h5_
        exact trivial
      ·
        intro We hGe
        obtain ⟨hc, uN, hVe, hOe⟩ := end2 (show H2 true W53 V D (.slice none 0 0) (ts.map encT) [.int .i64 0, .int .i64 0, .string ⟨#[]⟩, .slice none 0 0, .slice none 0 0] true true true true We from hGe)
        intro u4 q4 u5 q5 _ _ _ _
        have hts_ : ∀ c ∈ ts, RdT (n + 1) (D :: L) We c := fun c hc_ => (by rw [h0] at hc_; cases hc_)
        replace hp31 := hp31.chgV hc hp31.lt hVP.symm (by have := hp31.lt; omega)
        replace hB := hB.inner hc (Nat.le_trans hbw hB.size) hbD
        refine Ni (hK56 (Sq fun K57 hK57 => (Rg (Pu rfl (Pu rfl (Ni (hK57 ?_)))))))
        exact WC.ret fun a_ ha_ => hQ (cx_ret1 rfl (.tmp rfl) (.inr ⟨k17, e19, rfl, hw24, (by unfold oneL; rw [hw25]), by omega, ⟨vC uN, rfl, (oc_cons rfl (oc_cons rfl (oc_cons rfl (oc_cons rfl (oc_cons hOe.one oc_nil))))), hVe⟩, hp31⟩) hB ha_)
  have hB0P : B0 ≠ P := by have := hLb P hPL; omega
  have hB0V : B0 ≠ V := by have := hLb V hVL; omega
  have hB0Bp : B0 ≠ Bp := by have := hLb Bp hBL; omega
  replace hL := LL.cons hL hO.lt
  replace hts : RdTs (n + 1) (B0 :: L) w ts := hts
  obtain ⟨q0, q1, cap, sp, rfl, q2, q3, q4, q5⟩ := id hO
  by_cases hroom : (ts.map encT).length + 1 ≤ cap
  ·
    refine cx_enter (N := 19) (f := [(0, .pointer (some ⟨Bp, 0, none⟩)), (1, .pointer (some ⟨V, 0, none⟩))]) Try.func89 rfl rfl rfl rfl fun Q hQ hE_ => ?_
    have hB := ChgV.refl b P V w
    refine Sq fun K1 hK1 => (Rg (Pu rfl (Ni (hK1 (Sq fun K2 hK2 => (Rg (Va (dx_load rfl ty_one_51 rfl (hBp.cell (k := 0) rfl)) rfl rfl ?_)))))))
    refine Ge (dx_cw rfl Try.func34 rfl rfl rfl (hv P ka w _ hL (.tail _ hPL) (by omega) hp)) rfl rfl ?_
    rintro _ W30 ⟨(⟨k16, t18, rfl, hw20, hw21, hw22, hw23, hp31⟩ | ⟨k17, e19, rfl, hw24, hw25, hw26, hp31⟩), g29⟩
    ·
      replace hts := hts.chgL g29 (.tail _ hPL)
      replace hBp := hBp.chg g29 hBP
      replace hV := hV.chg g29 hVP
      replace hO := hO.chgL g29 hB0P
      replace hB := hB.chg g29 (Nat.le_trans hbw hB.size)
      refine Pu rfl (Pu rfl (Pu rfl ?_))
      refine Ge (dx_alloc rfl ty_zero_26 rfl) rfl rfl ?_
      rintro _ W32 ⟨rfl, k33, b34, z35⟩
      have n36 : P ≠ W30.heap.size := Nat.ne_of_lt hp31.lt
      have n37 : Bp ≠ W30.heap.size := Nat.ne_of_lt hBp.lt
      have n38 : V ≠ W30.heap.size := Nat.ne_of_lt hV.lt
      have n39 : B0 ≠ W30.heap.size := Nat.ne_of_lt hO.lt
      have l40 := hB.size
      replace hts := hts.more b34 (Nat.le_refl _)
      replace hw21 := hw21.more b34 (Nat.le_refl _)
      replace hp31 := hp31.below b34
      replace hBp := hBp.below b34
      replace hV := hV.below b34
      replace hO := hO.below b34
      replace hB := hB.both (.of_below (b34.mono (Nat.le_trans hbw hB.size)))
      refine WL.do (dx_store (cs' := [.int .i64 t18.kind, .int .i64 t18.num, .string t18.text, t18.nv, t18.iv]) (vs := [.int .i64 t18.kind, .int .i64 t18.num, .string t18.text, t18.nv, t18.iv]) rfl ty_size_26_5 rfl rfl rfl (oc_cons rfl (oc_cons rfl (oc_cons rfl (oc_cons (hw21.1).one (oc_cons (hw21.2.1).one oc_nil))))) k33 rfl (Nat.le_of_ble_eq_true rfl) rfl) rfl ?_
      rintro _ W41 ⟨k43, o42⟩
      replace hp31 := hp31.other o42 n36
      replace hBp := hBp.other o42 n37
      replace hV := hV.other o42 n38
      replace hO := hO.other o42 n39
      clear k33
      replace hts := hts.only o42 (.head _)
      replace hw21 := hw21.only o42 (.head _)
      replace hB := hB.both (.of_only o42 (.inr (.inr (Nat.le_trans hbw l40))))
      refine Pu rfl (Ni (hK2 (Sq fun K44 hK44 => ?_)))
      have hsW := hB.size
      have hDV := hB0V
      have hbD := hbB
      refine WC.drawL (fun L_ W_ => H2 false W41 V B0 (.slice (some ⟨B0, 0, none⟩) (ts.map encT).length cap) (ts.map encT) [.int .i64 t18.kind, .int .i64 t18.num, .string t18.text, t18.nv, t18.iv] (L_ 4) (L_ 5) (L_ 7) (L_ 9) W_) 10 (rel2 false V B0 (ts.map encT) [.int .i64 t18.kind, .int .i64 t18.num, .string t18.text, t18.nv, t18.iv]) (sd2 W41 V B0 (ts.map encT).length (.slice (some ⟨B0, 0, none⟩) (ts.map encT).length cap) (ts.map encT) [.int .i64 t18.kind, .int .i64 t18.num, .string t18.text, t18.nv, t18.iv]) [[], [0], [], [1], [], [1, 4, 0, 1, 2, 3, 4], [5, 3, 0, 1, 2, 3, 4, 5], [6, 2, 5, 0, 1, 2, 3, 4, 5], [0, 1, 2, 3, 4, 5], [8, 5, 5, 0, 1, 2, 3, 4, 5]] (by kernel_rfl) (by kernel_rfl) (by kernel_rfl) (by kernel_rfl) (by kernel_rfl) (by kernel_rfl) (by kernel_rfl) (begin2 hV (fun _ => hO)) (mono2 hDV) ?_ ?_
      ·
        refine ⟨fun L_ Wd hl hn hG => ?_, ?_⟩
        ·
          replace hG : H2 false W41 V B0 (.slice (some ⟨B0, 0, none⟩) (ts.map encT).length cap) (ts.map encT) [.int .i64 t18.kind, .int .i64 t18.num, .string t18.text, t18.nv, t18.iv] (L_ 4) (L_ 5) (L_ 7) (L_ 9) Wd := hG
          exact DV.dr (dx_fld (o1 := 4) rfl ty_fld_26_4_4 rfl rfl) ⟨rel_o (by decide) (by decide) (by decide) (Below.refl _ _), hG, rfl⟩
        refine ⟨fun L_ Wd hl hn hG => ?_, ?_⟩
        ·
          replace hG : H2 false W41 V B0 (.slice (some ⟨B0, 0, none⟩) (ts.map encT).length cap) (ts.map encT) [.int .i64 t18.kind, .int .i64 t18.num, .string t18.text, t18.nv, t18.iv] (L_ 4) (L_ 5) (L_ 7) (L_ 9) Wd := hG
          exact DV.dr (dx_load rfl ty_one_24 rfl ((hG.2.1 (hn 9 (by decide))).cell (k := 4) rfl)) ⟨rel_o (by decide) (by decide) (by decide) (Below.refl _ _), hG, rfl⟩
        refine ⟨fun L_ Wd hl hn hG => ?_, ?_⟩
        ·
          replace hG : H2 false W41 V B0 (.slice (some ⟨B0, 0, none⟩) (ts.map encT).length cap) (ts.map encT) [.int .i64 t18.kind, .int .i64 t18.num, .string t18.text, t18.nv, t18.iv] (L_ 4) (L_ 5) (L_ 7) (L_ 9) Wd := hG
          exact DV.dr (dx_loadN (cs := [.int .i64 t18.kind, .int .i64 t18.num, .string t18.text, t18.nv, t18.iv]) rfl ty_agg_26_5 rfl (k43.chgV hG.1 k43.lt n38.symm (by have := k43.lt; exact n39.symm)).range rfl) ⟨rel_o (by decide) (by decide) (by decide) (Below.refl _ _), hG, rfl⟩
        refine ⟨fun L_ Wd hl hn hG => ?_, ?_⟩
        ·
          replace hG : H2 false W41 V B0 (.slice (some ⟨B0, 0, none⟩) (ts.map encT).length cap) (ts.map encT) [.int .i64 t18.kind, .int .i64 t18.num, .string t18.text, t18.nv, t18.iv] (L_ 4) (L_ 5) (L_ 7) (L_ 9) Wd := hG
          exact DV.dr (dx_len rfl Try.underlying24 rfl) ⟨rel_o (by decide) (by decide) (by decide) (Below.refl _ _), hG, rfl⟩
        refine ⟨fun L_ Wd hl hn hG => ?_, ?_⟩
        ·
          replace hG : H2 false W41 V B0 (.slice (some ⟨B0, 0, none⟩) (ts.map encT).length cap) (ts.map encT) [.int .i64 t18.kind, .int .i64 t18.num, .string t18.text, t18.nv, t18.iv] (L_ 4) (L_ 5) (L_ 7) (L_ 9) Wd := hG
          have h5_ := hn 5 (by decide)
          rw [hl, h5_] at hG
          refine (dx_lit1X (r := zR) rfl ty_ap_24 (by decide) (by decide) rfl rfl rfl).mono ?_
          rintro u W_ ⟨⟨k1_, k2_, k3_⟩, k4_⟩
          have hs0_ := hG.1.size
          refine ⟨rel_o (by decide) (by decide) (by decide) k2_, ?_, ⟨Wd.heap.size, ?_, ?_, hs0_, k1_⟩⟩
          · show H2 _ _ _ _ _ _ _ true (L_ 5) (L_ 7) (L_ 9) _
            rw [h5_]
            exact lit2 hG k2_ k4_
          · have := hG.2.2.1 rfl; rw [if_neg (by decide)] at this; exact Nat.ne_of_gt this.lt
          · have := hV.lt; omega
        refine ⟨fun L_ Wd hl hn hG => ?_, ?_⟩
        ·
          intro u4 q4 u4 q4
          replace hG : H2 false W41 V B0 (.slice (some ⟨B0, 0, none⟩) (ts.map encT).length cap) (ts.map encT) [.int .i64 t18.kind, .int .i64 t18.num, .string t18.text, t18.nv, t18.iv] (L_ 4) (L_ 5) (L_ 7) (L_ 9) Wd := hG
          have h7_ := hn 7 (by decide)
          have h9_ := hn 9 (by decide)
          rw [hl, h7_, h9_] at hG
          obtain ⟨B4, e1_, e2_, e3_, e4_⟩ := q4
          have e5_ := e4_.lt
          have hO_ := hG.2.2.1 rfl
          rw [if_neg (by decide)] at hO_
          refine (dx_apRoom rfl ty_ap_24 rfl rfl hO_ (e4_.rd (L := []) (by simp)) (by simp) (oc_lit zR (oc_cons rfl (oc_cons rfl (oc_cons rfl (oc_cons rfl (oc_cons rfl oc_nil)))))) (by simpa using hroom)).mono ?_
          rintro u W_ ⟨-, k1_, k2_⟩
          refine ⟨(by unfold rel2; rw [if_pos rfl]; exact k2_), ?_, ⟨zR, k1_⟩⟩
          show H2 _ _ _ _ _ _ _ (L_ 4) true (L_ 7) (L_ 9) _
          rw [h7_, h9_]
          exact app2 hDV hG k2_
        refine ⟨fun L_ Wd hl hn hG => ?_, ?_⟩
        ·
          intro u5 q5 u4 q4 u5 q5
          replace hG : H2 false W41 V B0 (.slice (some ⟨B0, 0, none⟩) (ts.map encT).length cap) (ts.map encT) [.int .i64 t18.kind, .int .i64 t18.num, .string t18.text, t18.nv, t18.iv] (L_ 4) (L_ 5) (L_ 7) (L_ 9) Wd := hG
          obtain ⟨r_, h5_⟩ := q5
          exact DV.dr (dx_idxO (ts.map encT).length rfl ty_slice_24 rfl rfl h5_ rfl (by simp) rfl) ⟨rel_o (by decide) (by decide) (by decide) (Below.refl _ _), hG, rfl⟩
        refine ⟨fun L_ Wd hl hn hG => ?_, ?_⟩
        ·
          intro u5 q5 u4 q4 u5 q5
          replace hG : H2 false W41 V B0 (.slice (some ⟨B0, 0, none⟩) (ts.map encT).length cap) (ts.map encT) [.int .i64 t18.kind, .int .i64 t18.num, .string t18.text, t18.nv, t18.iv] (L_ 4) (L_ 5) (L_ 7) (L_ 9) Wd := hG
          have hq_ := q5
          obtain ⟨r_, h5_⟩ := q5
          refine (dx_storeO (k := (ts.map encT).length) (r := [.int .i64 t18.kind, .int .i64 t18.num, .string t18.text, t18.nv, t18.iv]) rfl ty_size_26_5 rfl rfl rfl (oc_cons rfl (oc_cons rfl (oc_cons rfl (oc_cons (hw21.1).one (oc_cons (hw21.2.1).one oc_nil))))) h5_ rfl (by simp) rfl).mono ?_
          rintro _ W_ ⟨k1_, k2_⟩
          rw [show ((ts.map encT) ++ [r_]).set (ts.map encT).length [.int .i64 t18.kind, .int .i64 t18.num, .string t18.text, t18.nv, t18.iv] = (ts.map encT) ++ [[.int .i64 t18.kind, .int .i64 t18.num, .string t18.text, t18.nv, t18.iv]] from set_last] at k1_
          have hs_ : ∀ u r, OwS 5 Wd u ((ts.map encT) ++ [r]) B0 → OwS 5 W_ u ((ts.map encT) ++ [[.int .i64 t18.kind, .int .i64 t18.num, .string t18.text, t18.nv, t18.iv]]) B0 := fun u r h => by have e_ := h5_.uniq h (by simp); rw [← e_]; exact k1_
          rw [hl] at hG
          refine ⟨(by unfold rel2; rw [if_neg (by decide), if_pos rfl]; exact ⟨k2_, hs_⟩), ?_, trivial⟩
          show H2 _ _ _ _ _ _ _ (L_ 4) (L_ 5) true (L_ 9) _
          exact row3 (c := cap) hDV (fun h => rfl) hG k2_ hs_ ⟨_, r_, h5_⟩
        refine ⟨fun L_ Wd hl hn hG => ?_, ?_⟩
        ·
          intro u4 q4 u5 q5
          replace hG : H2 false W41 V B0 (.slice (some ⟨B0, 0, none⟩) (ts.map encT).length cap) (ts.map encT) [.int .i64 t18.kind, .int .i64 t18.num, .string t18.text, t18.nv, t18.iv] (L_ 4) (L_ 5) (L_ 7) (L_ 9) Wd := hG
          exact DV.dr (dx_fld (o1 := 4) rfl ty_fld_26_4_4 rfl rfl) ⟨rel_o (by decide) (by decide) (by decide) (Below.refl _ _), hG, rfl⟩
        refine ⟨fun L_ Wd hl hn hG => ?_, ?_⟩
        ·
          intro u5 q5 u5 q5 u4 q4 u5 q5
          replace hG : H2 false W41 V B0 (.slice (some ⟨B0, 0, none⟩) (ts.map encT).length cap) (ts.map encT) [.int .i64 t18.kind, .int .i64 t18.num, .string t18.text, t18.nv, t18.iv] (L_ 4) (L_ 5) (L_ 7) (L_ 9) Wd := hG
          obtain ⟨r_, h5_⟩ := q5
          rw [hl] at hG
          refine (dx_store (cs' := vC u5) (vs := [u5]) rfl ty_size_24_1 rfl rfl (oc_one h5_.one) (oc_cons h5_.one oc_nil) (hG.2.1 rfl) rfl (Nat.le_of_ble_eq_true rfl) rfl).mono ?_
          rintro _ W_ ⟨k1_, k2_⟩
          refine ⟨(by unfold rel2; rw [if_neg (by decide), if_neg (by decide), if_pos rfl]; exact k2_), ?_, trivial⟩
          show H2 _ _ _ _ _ _ _ (L_ 4) (L_ 5) (L_ 7) true _
          exact put3 hDV hG k2_ k1_ h5_
        exact trivial
      ·
        intro We hGe
        obtain ⟨hc, uN, hVe, hOe⟩ := end2 (show H2 false W41 V B0 (.slice (some ⟨B0, 0, none⟩) (ts.map encT).length cap) (ts.map encT) [.int .i64 t18.kind, .int .i64 t18.num, .string t18.text, t18.nv, t18.iv] true true true true We from hGe)
        intro u4 q4 u5 q5 _ _ _ _
        have hts_ : ∀ c ∈ ts, RdT (n + 1) (B0 :: L) We c := fun c hc_ => ((hts c hc_).less (fun x hx => .tail _ hx)).inner hc hVL
        have ht_ : RdT (n + 1) (B0 :: L) We t18 := (hw21.less (fun x hx => .tail _ hx)).inner hc hVL
        replace hp31 := hp31.chgV hc hp31.lt hVP.symm hB0P.symm
        replace hBp := hBp.chgV hc hBp.lt hBV hB0Bp.symm
        replace hB := hB.inner hc (Nat.le_trans hbw hB.size) hbD
        refine Ni (hK44 (Sq fun K45 hK45 => (Rg (Pu rfl (Pu rfl (Ni (hK45 ?_)))))))
        exact WC.ret fun a_ ha_ => hQ (cx_ret1 rfl (.tmp rfl) (.inl ⟨k16, ts.map Tr.er ++ [t18.er], rfl, (by unfold oneL; rw [hw20]), by omega, by omega, (by rw [List.length_append, List.length_map]; show ts.length + 1 ≤ _; omega), ⟨uN, ts ++ [t18], by simp, hBp, hVe, hI0, .inr ⟨B0, hbD, (by rw [List.map_append]; exact hOe), fun c hc_ => (by rcases List.mem_append.1 hc_ with h_ | h_; exact hts_ c h_; (rw [List.mem_singleton.1 h_]; exact ht_))⟩⟩, hp31⟩) hB ha_)
    ·
      replace hts := hts.chgL g29 (.tail _ hPL)
      replace hV := hV.chg g29 hVP
      replace hO := hO.chgL g29 hB0P
      replace hB := hB.chg g29 (Nat.le_trans hbw hB.size)
      refine Pu rfl (Pu rfl (Pu rfl ?_))
      refine Ge (dx_alloc rfl ty_zero_26 rfl) rfl rfl ?_
      rintro _ W46 ⟨rfl, k47, b48, z49⟩
      have n50 : P ≠ W30.heap.size := Nat.ne_of_lt hp31.lt
      have n52 : V ≠ W30.heap.size := Nat.ne_of_lt hV.lt
      have n53 : B0 ≠ W30.heap.size := Nat.ne_of_lt hO.lt
      have l54 := hB.size
      replace hts := hts.more b48 (Nat.le_refl _)
      replace hp31 := hp31.below b48
      replace hV := hV.below b48
      replace hO := hO.below b48
      replace hB := hB.both (.of_below (b48.mono (Nat.le_trans hbw hB.size)))
      refine WL.do (dx_store (cs' := zV) (vs := zV) rfl ty_size_26_5 rfl rfl rfl (oc_cons rfl (oc_cons rfl (oc_cons rfl (oc_cons rfl (oc_cons rfl oc_nil))))) k47 rfl (Nat.le_of_ble_eq_true rfl) rfl) rfl ?_
      rintro _ W55 ⟨k57, o56⟩
      replace hp31 := hp31.other o56 n50
      replace hV := hV.other o56 n52
      replace hO := hO.other o56 n53
      clear k47
      replace hts := hts.only o56 (.head _)
      replace hB := hB.both (.of_only o56 (.inr (.inr (Nat.le_trans hbw l54))))
      refine Pu rfl (Ni (hK2 (Sq fun K58 hK58 => ?_)))
      have hsW := hB.size
      have hDV := hB0V
      have hbD := hbB
      refine WC.drawL (fun L_ W_ => H2 false W55 V B0 (.slice (some ⟨B0, 0, none⟩) (ts.map encT).length cap) (ts.map encT) [.int .i64 0, .int .i64 0, .string ⟨#[]⟩, .slice none 0 0, .slice none 0 0] (L_ 4) (L_ 5) (L_ 7) (L_ 9) W_) 10 (rel2 false V B0 (ts.map encT) [.int .i64 0, .int .i64 0, .string ⟨#[]⟩, .slice none 0 0, .slice none 0 0]) (sd2 W55 V B0 (ts.map encT).length (.slice (some ⟨B0, 0, none⟩) (ts.map encT).length cap) (ts.map encT) [.int .i64 0, .int .i64 0, .string ⟨#[]⟩, .slice none 0 0, .slice none 0 0]) [[], [0], [], [1], [], [1, 4, 0, 1, 2, 3, 4], [5, 3, 0, 1, 2, 3, 4, 5], [6, 2, 5, 0, 1, 2, 3, 4, 5], [0, 1, 2, 3, 4, 5], [8, 5, 5, 0, 1, 2, 3, 4, 5]] (by kernel_rfl) (by kernel_rfl) (by kernel_rfl) (by kernel_rfl) (by kernel_rfl) (by kernel_rfl) (by kernel_rfl) (begin2 hV (fun _ => hO)) (mono2 hDV) ?_ ?_
      ·
        refine ⟨fun L_ Wd hl hn hG => ?_, ?_⟩
        ·
          replace hG : H2 false W55 V B0 (.slice (some ⟨B0, 0, none⟩) (ts.map encT).length cap) (ts.map encT) [.int .i64 0, .int .i64 0, .string ⟨#[]⟩, .slice none 0 0, .slice none 0 0] (L_ 4) (L_ 5) (L_ 7) (L_ 9) Wd := hG
          exact DV.dr (dx_fld (o1 := 4) rfl ty_fld_26_4_4 rfl rfl) ⟨rel_o (by decide) (by decide) (by decide) (Below.refl _ _), hG, rfl⟩
        refine ⟨fun L_ Wd hl hn hG => ?_, ?_⟩
        ·
          replace hG : H2 false W55 V B0 (.slice (some ⟨B0, 0, none⟩) (ts.map encT).length cap) (ts.map encT) [.int .i64 0, .int .i64 0, .string ⟨#[]⟩, .slice none 0 0, .slice none 0 0] (L_ 4) (L_ 5) (L_ 7) (L_ 9) Wd := hG
          exact DV.dr (dx_load rfl ty_one_24 rfl ((hG.2.1 (hn 9 (by decide))).cell (k := 4) rfl)) ⟨rel_o (by decide) (by decide) (by decide) (Below.refl _ _), hG, rfl⟩
        refine ⟨fun L_ Wd hl hn hG => ?_, ?_⟩
        ·
          replace hG : H2 false W55 V B0 (.slice (some ⟨B0, 0, none⟩) (ts.map encT).length cap) (ts.map encT) [.int .i64 0, .int .i64 0, .string ⟨#[]⟩, .slice none 0 0, .slice none 0 0] (L_ 4) (L_ 5) (L_ 7) (L_ 9) Wd := hG
          exact DV.dr (dx_loadN (cs := zV) rfl ty_agg_26_5 rfl (k57.chgV hG.1 k57.lt n52.symm (by have := k57.lt; exact n53.symm)).range rfl) ⟨rel_o (by decide) (by decide) (by decide) (Below.refl _ _), hG, rfl⟩
        refine ⟨fun L_ Wd hl hn hG => ?_, ?_⟩
        ·
          replace hG : H2 false W55 V B0 (.slice (some ⟨B0, 0, none⟩) (ts.map encT).length cap) (ts.map encT) [.int .i64 0, .int .i64 0, .string ⟨#[]⟩, .slice none 0 0, .slice none 0 0] (L_ 4) (L_ 5) (L_ 7) (L_ 9) Wd := hG
          exact DV.dr (dx_len rfl Try.underlying24 rfl) ⟨rel_o (by decide) (by decide) (by decide) (Below.refl _ _), hG, rfl⟩
        refine ⟨fun L_ Wd hl hn hG => ?_, ?_⟩
        ·
          replace hG : H2 false W55 V B0 (.slice (some ⟨B0, 0, none⟩) (ts.map encT).length cap) (ts.map encT) [.int .i64 0, .int .i64 0, .string ⟨#[]⟩, .slice none 0 0, .slice none 0 0] (L_ 4) (L_ 5) (L_ 7) (L_ 9) Wd := hG
          have h5_ := hn 5 (by decide)
          rw [hl, h5_] at hG
          refine (dx_lit1X (r := zR) rfl ty_ap_24 (by decide) (by decide) rfl rfl rfl).mono ?_
          rintro u W_ ⟨⟨k1_, k2_, k3_⟩, k4_⟩
          have hs0_ := hG.1.size
          refine ⟨rel_o (by decide) (by decide) (by decide) k2_, ?_, ⟨Wd.heap.size, ?_, ?_, hs0_, k1_⟩⟩
          · show H2 _ _ _ _ _ _ _ true (L_ 5) (L_ 7) (L_ 9) _
            rw [h5_]
            exact lit2 hG k2_ k4_
          · have := hG.2.2.1 rfl; rw [if_neg (by decide)] at this; exact Nat.ne_of_gt this.lt
          · have := hV.lt; omega
        refine ⟨fun L_ Wd hl hn hG => ?_, ?_⟩
        ·
          intro u4 q4 u4 q4
          replace hG : H2 false W55 V B0 (.slice (some ⟨B0, 0, none⟩) (ts.map encT).length cap) (ts.map encT) [.int .i64 0, .int .i64 0, .string ⟨#[]⟩, .slice none 0 0, .slice none 0 0] (L_ 4) (L_ 5) (L_ 7) (L_ 9) Wd := hG
          have h7_ := hn 7 (by decide)
          have h9_ := hn 9 (by decide)
          rw [hl, h7_, h9_] at hG
          obtain ⟨B4, e1_, e2_, e3_, e4_⟩ := q4
          have e5_ := e4_.lt
          have hO_ := hG.2.2.1 rfl
          rw [if_neg (by decide)] at hO_
          refine (dx_apRoom rfl ty_ap_24 rfl rfl hO_ (e4_.rd (L := []) (by simp)) (by simp) (oc_lit zR (oc_cons rfl (oc_cons rfl (oc_cons rfl (oc_cons rfl (oc_cons rfl oc_nil)))))) (by simpa using hroom)).mono ?_
          rintro u W_ ⟨-, k1_, k2_⟩
          refine ⟨(by unfold rel2; rw [if_pos rfl]; exact k2_), ?_, ⟨zR, k1_⟩⟩
          show H2 _ _ _ _ _ _ _ (L_ 4) true (L_ 7) (L_ 9) _
          rw [h7_, h9_]
          exact app2 hDV hG k2_
        refine ⟨fun L_ Wd hl hn hG => ?_, ?_⟩
        ·
          intro u5 q5 u4 q4 u5 q5
          replace hG : H2 false W55 V B0 (.slice (some ⟨B0, 0, none⟩) (ts.map encT).length cap) (ts.map encT) [.int .i64 0, .int .i64 0, .string ⟨#[]⟩, .slice none 0 0, .slice none 0 0] (L_ 4) (L_ 5) (L_ 7) (L_ 9) Wd := hG
          obtain ⟨r_, h5_⟩ := q5
          exact DV.dr (dx_idxO (ts.map encT).length rfl ty_slice_24 rfl rfl h5_ rfl (by simp) rfl) ⟨rel_o (by decide) (by decide) (by decide) (Below.refl _ _), hG, rfl⟩
        refine ⟨fun L_ Wd hl hn hG => ?_, ?_⟩
        ·
          intro u5 q5 u4 q4 u5 q5
          replace hG : H2 false W55 V B0 (.slice (some ⟨B0, 0, none⟩) (ts.map encT).length cap) (ts.map encT) [.int .i64 0, .int .i64 0, .string ⟨#[]⟩, .slice none 0 0, .slice none 0 0] (L_ 4) (L_ 5) (L_ 7) (L_ 9) Wd := hG
          have hq_ := q5
          obtain ⟨r_, h5_⟩ := q5
          refine (dx_storeO (k := (ts.map encT).length) (r := [.int .i64 0, .int .i64 0, .string ⟨#[]⟩, .slice none 0 0, .slice none 0 0]) rfl ty_size_26_5 rfl rfl rfl (oc_cons rfl (oc_cons rfl (oc_cons rfl (oc_cons rfl (oc_cons rfl oc_nil))))) h5_ rfl (by simp) rfl).mono ?_
          rintro _ W_ ⟨k1_, k2_⟩
          rw [show ((ts.map encT) ++ [r_]).set (ts.map encT).length [.int .i64 0, .int .i64 0, .string ⟨#[]⟩, .slice none 0 0, .slice none 0 0] = (ts.map encT) ++ [[.int .i64 0, .int .i64 0, .string ⟨#[]⟩, .slice none 0 0, .slice none 0 0]] from set_last] at k1_
          have hs_ : ∀ u r, OwS 5 Wd u ((ts.map encT) ++ [r]) B0 → OwS 5 W_ u ((ts.map encT) ++ [[.int .i64 0, .int .i64 0, .string ⟨#[]⟩, .slice none 0 0, .slice none 0 0]]) B0 := fun u r h => by have e_ := h5_.uniq h (by simp); rw [← e_]; exact k1_
          rw [hl] at hG
          refine ⟨(by unfold rel2; rw [if_neg (by decide), if_pos rfl]; exact ⟨k2_, hs_⟩), ?_, trivial⟩
          show H2 _ _ _ _ _ _ _ (L_ 4) (L_ 5) true (L_ 9) _
          exact row3 (c := cap) hDV (fun h => rfl) hG k2_ hs_ ⟨_, r_, h5_⟩
        refine ⟨fun L_ Wd hl hn hG => ?_, ?_⟩
        ·
          intro u4 q4 u5 q5
          replace hG : H2 false W55 V B0 (.slice (some ⟨B0, 0, none⟩) (ts.map encT).length cap) (ts.map encT) [.int .i64 0, .int .i64 0, .string ⟨#[]⟩, .slice none 0 0, .slice none 0 0] (L_ 4) (L_ 5) (L_ 7) (L_ 9) Wd := hG
          exact DV.dr (dx_fld (o1 := 4) rfl ty_fld_26_4_4 rfl rfl) ⟨rel_o (by decide) (by decide) (by decide) (Below.refl _ _), hG, rfl⟩
        refine ⟨fun L_ Wd hl hn hG => ?_, ?_⟩
        ·
          intro u5 q5 u5 q5 u4 q4 u5 q5
          replace hG : H2 false W55 V B0 (.slice (some ⟨B0, 0, none⟩) (ts.map encT).length cap) (ts.map encT) [.int .i64 0, .int .i64 0, .string ⟨#[]⟩, .slice none 0 0, .slice none 0 0] (L_ 4) (L_ 5) (L_ 7) (L_ 9) Wd := hG
          obtain ⟨r_, h5_⟩ := q5
          rw [hl] at hG
          refine (dx_store (cs' := vC u5) (vs := [u5]) rfl ty_size_24_1 rfl rfl (oc_one h5_.one) (oc_cons h5_.one oc_nil) (hG.2.1 rfl) rfl (Nat.le_of_ble_eq_true rfl) rfl).mono ?_
          rintro _ W_ ⟨k1_, k2_⟩
          refine ⟨(by unfold rel2; rw [if_neg (by decide), if_neg (by decide), if_pos rfl]; exact k2_), ?_, trivial⟩
          show H2 _ _ _ _ _ _ _ (L_ 4) (L_ 5) (L_ 7) true _
          exact put3 hDV hG k2_ k1_ h5_
        exact trivial
      ·
        intro We hGe
        obtain ⟨hc, uN, hVe, hOe⟩ := end2 (show H2 false W55 V B0 (.slice (some ⟨B0, 0, none⟩) (ts.map encT).length cap) (ts.map encT) [.int .i64 0, .int .i64 0, .string ⟨#[]⟩, .slice none 0 0, .slice none 0 0] true true true true We from hGe)
        intro u4 q4 u5 q5 _ _ _ _
        have hts_ : ∀ c ∈ ts, RdT (n + 1) (B0 :: L) We c := fun c hc_ => ((hts c hc_).less (fun x hx => .tail _ hx)).inner hc hVL
        replace hp31 := hp31.chgV hc hp31.lt hVP.symm hB0P.symm
        replace hB := hB.inner hc (Nat.le_trans hbw hB.size) hbD
        refine Ni (hK58 (Sq fun K59 hK59 => (Rg (Pu rfl (Pu rfl (Ni (hK59 ?_)))))))
        exact WC.ret fun a_ ha_ => hQ (cx_ret1 rfl (.tmp rfl) (.inr ⟨k17, e19, rfl, hw24, (by unfold oneL; rw [hw25]), by omega, ⟨vC uN, rfl, (oc_cons rfl (oc_cons rfl (oc_cons rfl (oc_cons rfl (oc_cons hOe.one oc_nil))))), hVe⟩, hp31⟩) hB ha_)
  obtain rfl : cap = (ts.map encT).length := by omega
  refine cx_enter (N := 19) (f := [(0, .pointer (some ⟨Bp, 0, none⟩)), (1, .pointer (some ⟨V, 0, none⟩))]) Try.func89 rfl rfl rfl rfl fun Q hQ hE_ => ?_
  have hB := ChgV.refl b P V w
  refine Sq fun K1 hK1 => (Rg (Pu rfl (Ni (hK1 (Sq fun K2 hK2 => (Rg (Va (dx_load rfl ty_one_51 rfl (hBp.cell (k := 0) rfl)) rfl rfl ?_)))))))
  refine Ge (dx_cw rfl Try.func34 rfl rfl rfl (hv P ka w _ hL (.tail _ hPL) (by omega) hp)) rfl rfl ?_
  rintro _ W30 ⟨(⟨k16, t18, rfl, hw20, hw21, hw22, hw23, hp31⟩ | ⟨k17, e19, rfl, hw24, hw25, hw26, hp31⟩), g29⟩
  ·
    replace hts := hts.chgL g29 (.tail _ hPL)
    replace hBp := hBp.chg g29 hBP
    replace hV := hV.chg g29 hVP
    replace hO := hO.chgL g29 hB0P
    replace hB := hB.chg g29 (Nat.le_trans hbw hB.size)
    refine Pu rfl (Pu rfl (Pu rfl ?_))
    refine Ge (dx_alloc rfl ty_zero_26 rfl) rfl rfl ?_
    rintro _ W32 ⟨rfl, k33, b34, z35⟩
    have n36 : P ≠ W30.heap.size := Nat.ne_of_lt hp31.lt
    have n37 : Bp ≠ W30.heap.size := Nat.ne_of_lt hBp.lt
    have n38 : V ≠ W30.heap.size := Nat.ne_of_lt hV.lt
    have n39 : B0 ≠ W30.heap.size := Nat.ne_of_lt hO.lt
    have l40 := hB.size
    replace hts := hts.more b34 (Nat.le_refl _)
    replace hw21 := hw21.more b34 (Nat.le_refl _)
    replace hp31 := hp31.below b34
    replace hBp := hBp.below b34
    replace hV := hV.below b34
    replace hO := hO.below b34
    replace hB := hB.both (.of_below (b34.mono (Nat.le_trans hbw hB.size)))
    refine WL.do (dx_store (cs' := [.int .i64 t18.kind, .int .i64 t18.num, .string t18.text, t18.nv, t18.iv]) (vs := [.int .i64 t18.kind, .int .i64 t18.num, .string t18.text, t18.nv, t18.iv]) rfl ty_size_26_5 rfl rfl rfl (oc_cons rfl (oc_cons rfl (oc_cons rfl (oc_cons (hw21.1).one (oc_cons (hw21.2.1).one oc_nil))))) k33 rfl (Nat.le_of_ble_eq_true rfl) rfl) rfl ?_
    rintro _ W41 ⟨k43, o42⟩
    replace hp31 := hp31.other o42 n36
    replace hBp := hBp.other o42 n37
    replace hV := hV.other o42 n38
    replace hO := hO.other o42 n39
    clear k33
    replace hts := hts.only o42 (.head _)
    replace hw21 := hw21.only o42 (.head _)
    replace hB := hB.both (.of_only o42 (.inr (.inr (Nat.le_trans hbw l40))))
    refine Pu rfl (Ni (hK2 (Sq fun K44 hK44 => ?_)))
    have hsW := hB.size
    obtain ⟨D, hD⟩ : ∃ D, D = W41.heap.size + 1 := ⟨_, rfl⟩
    have hDV : D ≠ V := by have := hV.lt; omega
    have hbD : b ≤ D := by omega
    refine WC.drawL (fun L_ W_ => H2 true W41 V D (.slice (some ⟨B0, 0, none⟩) (ts.map encT).length (ts.map encT).length) (ts.map encT) [.int .i64 t18.kind, .int .i64 t18.num, .string t18.text, t18.nv, t18.iv] (L_ 4) (L_ 5) (L_ 7) (L_ 9) W_) 10 (rel2 true V D (ts.map encT) [.int .i64 t18.kind, .int .i64 t18.num, .string t18.text, t18.nv, t18.iv]) (sd2 W41 V D (ts.map encT).length (.slice (some ⟨B0, 0, none⟩) (ts.map encT).length (ts.map encT).length) (ts.map encT) [.int .i64 t18.kind, .int .i64 t18.num, .string t18.text, t18.nv, t18.iv]) [[], [0], [], [1], [], [1, 4, 0, 1, 2, 3, 4], [5, 3, 0, 1, 2, 3, 4, 5], [6, 2, 5, 0, 1, 2, 3, 4, 5], [0, 1, 2, 3, 4, 5], [8, 5, 5, 0, 1, 2, 3, 4, 5]] (by kernel_rfl) (by kernel_rfl) (by kernel_rfl) (by kernel_rfl) (by kernel_rfl) (by kernel_rfl) (by kernel_rfl) (begin2 hV (fun h => by cases h)) (mono2 hDV) ?_ ?_
    ·
      refine ⟨fun L_ Wd hl hn hG => ?_, ?_⟩
      ·
        replace hG : H2 true W41 V D (.slice (some ⟨B0, 0, none⟩) (ts.map encT).length (ts.map encT).length) (ts.map encT) [.int .i64 t18.kind, .int .i64 t18.num, .string t18.text, t18.nv, t18.iv] (L_ 4) (L_ 5) (L_ 7) (L_ 9) Wd := hG
        exact DV.dr (dx_fld (o1 := 4) rfl ty_fld_26_4_4 rfl rfl) ⟨rel_o (by decide) (by decide) (by decide) (Below.refl _ _), hG, rfl⟩
      refine ⟨fun L_ Wd hl hn hG => ?_, ?_⟩
      ·
        replace hG : H2 true W41 V D (.slice (some ⟨B0, 0, none⟩) (ts.map encT).length (ts.map encT).length) (ts.map encT) [.int .i64 t18.kind, .int .i64 t18.num, .string t18.text, t18.nv, t18.iv] (L_ 4) (L_ 5) (L_ 7) (L_ 9) Wd := hG
        exact DV.dr (dx_load rfl ty_one_24 rfl ((hG.2.1 (hn 9 (by decide))).cell (k := 4) rfl)) ⟨rel_o (by decide) (by decide) (by decide) (Below.refl _ _), hG, rfl⟩
      refine ⟨fun L_ Wd hl hn hG => ?_, ?_⟩
      ·
        replace hG : H2 true W41 V D (.slice (some ⟨B0, 0, none⟩) (ts.map encT).length (ts.map encT).length) (ts.map encT) [.int .i64 t18.kind, .int .i64 t18.num, .string t18.text, t18.nv, t18.iv] (L_ 4) (L_ 5) (L_ 7) (L_ 9) Wd := hG
        exact DV.dr (dx_loadN (cs := [.int .i64 t18.kind, .int .i64 t18.num, .string t18.text, t18.nv, t18.iv]) rfl ty_agg_26_5 rfl (k43.chgV hG.1 k43.lt n38.symm (by have := k43.lt; omega)).range rfl) ⟨rel_o (by decide) (by decide) (by decide) (Below.refl _ _), hG, rfl⟩
      refine ⟨fun L_ Wd hl hn hG => ?_, ?_⟩
      ·
        replace hG : H2 true W41 V D (.slice (some ⟨B0, 0, none⟩) (ts.map encT).length (ts.map encT).length) (ts.map encT) [.int .i64 t18.kind, .int .i64 t18.num, .string t18.text, t18.nv, t18.iv] (L_ 4) (L_ 5) (L_ 7) (L_ 9) Wd := hG
        exact DV.dr (dx_len rfl Try.underlying24 rfl) ⟨rel_o (by decide) (by decide) (by decide) (Below.refl _ _), hG, rfl⟩
      refine ⟨fun L_ Wd hl hn hG => ?_, ?_⟩
      ·
        replace hG : H2 true W41 V D (.slice (some ⟨B0, 0, none⟩) (ts.map encT).length (ts.map encT).length) (ts.map encT) [.int .i64 t18.kind, .int .i64 t18.num, .string t18.text, t18.nv, t18.iv] (L_ 4) (L_ 5) (L_ 7) (L_ 9) Wd := hG
        have h5_ := hn 5 (by decide)
        rw [hl, h5_] at hG
        refine (dx_lit1X (r := zR) rfl ty_ap_24 (by decide) (by decide) rfl rfl rfl).mono ?_
        rintro u W_ ⟨⟨k1_, k2_, k3_⟩, k4_⟩
        have hs0_ := hG.1.size
        refine ⟨rel_o (by decide) (by decide) (by decide) k2_, ?_, ⟨Wd.heap.size, ?_, ?_, hs0_, k1_⟩⟩
        · show H2 _ _ _ _ _ _ _ true (L_ 5) (L_ 7) (L_ 9) _
          rw [h5_]
          exact lit2 hG k2_ k4_
        · have := hG.2.2.1 rfl; rw [if_pos rfl, if_neg (by decide)] at this; omega
        · have := hV.lt; omega
      refine ⟨fun L_ Wd hl hn hG => ?_, ?_⟩
      ·
        intro u4 q4 u4 q4
        replace hG : H2 true W41 V D (.slice (some ⟨B0, 0, none⟩) (ts.map encT).length (ts.map encT).length) (ts.map encT) [.int .i64 t18.kind, .int .i64 t18.num, .string t18.text, t18.nv, t18.iv] (L_ 4) (L_ 5) (L_ 7) (L_ 9) Wd := hG
        have h7_ := hn 7 (by decide)
        have h9_ := hn 9 (by decide)
        rw [hl, h7_, h9_] at hG
        obtain ⟨B4, e1_, e2_, e3_, e4_⟩ := q4
        have e5_ := e4_.lt
        have hz_ := hG.2.2.1 rfl
        rw [if_pos rfl] at hz_
        have hz2_ : Wd.heap.size = D := by rw [hz_] at e5_ ⊢; split at e5_ <;> split <;> omega
        refine (dx_apF (rs := (ts.map encT)) (L := []) rfl ty_ap_24 rfl rfl (((hO.chgV hG.1 hO.lt hB0V (by have := hO.lt; omega)).rd (L := []) (by simp))) (e4_.rd (L := []) (by simp)) (by simp) (by simp [maxLen] <;> omega) (by simp <;> omega)).mono ?_
        rintro u W_ ⟨k1_, k2_, k3_⟩
        rw [hz2_] at k1_
        refine ⟨(by unfold rel2; rw [if_pos rfl]; exact k2_), ?_, ⟨zR, k1_⟩⟩
        show H2 _ _ _ _ _ _ _ (L_ 4) true (L_ 7) (L_ 9) _
        rw [h7_, h9_]
        exact app2 hDV hG k2_
      refine ⟨fun L_ Wd hl hn hG => ?_, ?_⟩
      ·
        intro u5 q5 u4 q4 u5 q5
        replace hG : H2 true W41 V D (.slice (some ⟨B0, 0, none⟩) (ts.map encT).length (ts.map encT).length) (ts.map encT) [.int .i64 t18.kind, .int .i64 t18.num, .string t18.text, t18.nv, t18.iv] (L_ 4) (L_ 5) (L_ 7) (L_ 9) Wd := hG
        obtain ⟨r_, h5_⟩ := q5
        exact DV.dr (dx_idxO (ts.map encT).length rfl ty_slice_24 rfl rfl h5_ rfl (by simp) rfl) ⟨rel_o (by decide) (by decide) (by decide) (Below.refl _ _), hG, rfl⟩
      refine ⟨fun L_ Wd hl hn hG => ?_, ?_⟩
      ·
        intro u5 q5 u4 q4 u5 q5
        replace hG : H2 true W41 V D (.slice (some ⟨B0, 0, none⟩) (ts.map encT).length (ts.map encT).length) (ts.map encT) [.int .i64 t18.kind, .int .i64 t18.num, .string t18.text, t18.nv, t18.iv] (L_ 4) (L_ 5) (L_ 7) (L_ 9) Wd := hG
        have hq_ := q5
        obtain ⟨r_, h5_⟩ := q5
        refine (dx_storeO (k := (ts.map encT).length) (r := [.int .i64 t18.kind, .int .i64 t18.num, .string t18.text, t18.nv, t18.iv]) rfl ty_size_26_5 rfl rfl rfl (oc_cons rfl (oc_cons rfl (oc_cons rfl (oc_cons (hw21.1).one (oc_cons (hw21.2.1).one oc_nil))))) h5_ rfl (by simp) rfl).mono ?_
        rintro _ W_ ⟨k1_, k2_⟩
        rw [show ((ts.map encT) ++ [r_]).set (ts.map encT).length [.int .i64 t18.kind, .int .i64 t18.num, .string t18.text, t18.nv, t18.iv] = (ts.map encT) ++ [[.int .i64 t18.kind, .int .i64 t18.num, .string t18.text, t18.nv, t18.iv]] from set_last] at k1_
        have hs_ : ∀ u r, OwS 5 Wd u ((ts.map encT) ++ [r]) D → OwS 5 W_ u ((ts.map encT) ++ [[.int .i64 t18.kind, .int .i64 t18.num, .string t18.text, t18.nv, t18.iv]]) D := fun u r h => by have e_ := h5_.uniq h (by simp); rw [← e_]; exact k1_
        rw [hl] at hG
        refine ⟨(by unfold rel2; rw [if_neg (by decide), if_pos rfl]; exact ⟨k2_, hs_⟩), ?_, trivial⟩
        show H2 _ _ _ _ _ _ _ (L_ 4) (L_ 5) true (L_ 9) _
        exact row3 (c := 0) hDV (fun h => (by cases h)) hG k2_ hs_ ⟨_, r_, h5_⟩
      refine ⟨fun L_ Wd hl hn hG => ?_, ?_⟩
      ·
        intro u4 q4 u5 q5
        replace hG : H2 true W41 V D (.slice (some ⟨B0, 0, none⟩) (ts.map encT).length (ts.map encT).length) (ts.map encT) [.int .i64 t18.kind, .int .i64 t18.num, .string t18.text, t18.nv, t18.iv] (L_ 4) (L_ 5) (L_ 7) (L_ 9) Wd := hG
        exact DV.dr (dx_fld (o1 := 4) rfl ty_fld_26_4_4 rfl rfl) ⟨rel_o (by decide) (by decide) (by decide) (Below.refl _ _), hG, rfl⟩
      refine ⟨fun L_ Wd hl hn hG => ?_, ?_⟩
      ·
        intro u5 q5 u5 q5 u4 q4 u5 q5
        replace hG : H2 true W41 V D (.slice (some ⟨B0, 0, none⟩) (ts.map encT).length (ts.map encT).length) (ts.map encT) [.int .i64 t18.kind, .int .i64 t18.num, .string t18.text, t18.nv, t18.iv] (L_ 4) (L_ 5) (L_ 7) (L_ 9) Wd := hG
        obtain ⟨r_, h5_⟩ := q5
        rw [hl] at hG
        refine (dx_store (cs' := vC u5) (vs := [u5]) rfl ty_size_24_1 rfl rfl (oc_one h5_.one) (oc_cons h5_.one oc_nil) (hG.2.1 rfl) rfl (Nat.le_of_ble_eq_true rfl) rfl).mono ?_
        rintro _ W_ ⟨k1_, k2_⟩
        refine ⟨(by unfold rel2; rw [if_neg (by decide), if_neg (by decide), if_pos rfl]; exact k2_), ?_, trivial⟩
        show H2 _ _ _ _ _ _ _ (L_ 4) (L_ 5) (L_ 7) true _
        exact put3 hDV hG k2_ k1_ h5_
      exact trivial
    ·
      intro We hGe
      obtain ⟨hc, uN, hVe, hOe⟩ := end2 (show H2 true W41 V D (.slice (some ⟨B0, 0, none⟩) (ts.map encT).length (ts.map encT).length) (ts.map encT) [.int .i64 t18.kind, .int .i64 t18.num, .string t18.text, t18.nv, t18.iv] true true true true We from hGe)
      intro u4 q4 u5 q5 _ _ _ _
      have hts_ : ∀ c ∈ ts, RdT (n + 1) (D :: L) We c := fun c hc_ => (((hts c hc_).less (fun x hx => .tail _ (.tail _ hx))).more (Below.refl _ _) (show W41.heap.size ≤ D by omega)).inner hc hVL
      have ht_ : RdT (n + 1) (D :: L) We t18 := ((hw21.less (fun x hx => .tail _ (.tail _ hx))).more (Below.refl _ _) (show W41.heap.size ≤ D by omega)).inner hc hVL
      replace hp31 := hp31.chgV hc hp31.lt hVP.symm (by have := hp31.lt; omega)
      replace hBp := hBp.chgV hc hBp.lt hBV (by have := hBp.lt; omega)
      replace hB := hB.inner hc (Nat.le_trans hbw hB.size) hbD
      refine Ni (hK44 (Sq fun K45 hK45 => (Rg (Pu rfl (Pu rfl (Ni (hK45 ?_)))))))
      exact WC.ret fun a_ ha_ => hQ (cx_ret1 rfl (.tmp rfl) (.inl ⟨k16, ts.map Tr.er ++ [t18.er], rfl, (by unfold oneL; rw [hw20]), by omega, by omega, (by rw [List.length_append, List.length_map]; show ts.length + 1 ≤ _; omega), ⟨uN, ts ++ [t18], by simp, hBp, hVe, hI0, .inr ⟨D, hbD, (by rw [List.map_append]; exact hOe), fun c hc_ => (by rcases List.mem_append.1 hc_ with h_ | h_; exact hts_ c h_; (rw [List.mem_singleton.1 h_]; exact ht_))⟩⟩, hp31⟩) hB ha_)
  ·
    replace hts := hts.chgL g29 (.tail _ hPL)
    replace hV := hV.chg g29 hVP
    replace hO := hO.chgL g29 hB0P
    replace hB := hB.chg g29 (Nat.le_trans hbw hB.size)
    refine Pu rfl (Pu rfl (Pu rfl ?_))
    refine Ge (dx_alloc rfl ty_zero_26 rfl) rfl rfl ?_
    rintro _ W46 ⟨rfl, k47, b48, z49⟩
    have n50 : P ≠ W30.heap.size := Nat.ne_of_lt hp31.lt
    have n52 : V ≠ W30.heap.size := Nat.ne_of_lt hV.lt
    have n53 : B0 ≠ W30.heap.size := Nat.ne_of_lt hO.lt
    have l54 := hB.size
    replace hts := hts.more b48 (Nat.le_refl _)
    replace hp31 := hp31.below b48
    replace hV := hV.below b48
    replace hO := hO.below b48
    replace hB := hB.both (.of_below (b48.mono (Nat.le_trans hbw hB.size)))
    refine WL.do (dx_store (cs' := zV) (vs := zV) rfl ty_size_26_5 rfl rfl rfl (oc_cons rfl (oc_cons rfl (oc_cons rfl (oc_cons rfl (oc_cons rfl oc_nil))))) k47 rfl (Nat.le_of_ble_eq_true rfl) rfl) rfl ?_
    rintro _ W55 ⟨k57, o56⟩
    replace hp31 := hp31.other o56 n50
    replace hV := hV.other o56 n52
    replace hO := hO.other o56 n53
    clear k47
    replace hts := hts.only o56 (.head _)
    replace hB := hB.both (.of_only o56 (.inr (.inr (Nat.le_trans hbw l54))))
    refine Pu rfl (Ni (hK2 (Sq fun K58 hK58 => ?_)))
    have hsW := hB.size
    obtain ⟨D, hD⟩ : ∃ D, D = W55.heap.size + 1 := ⟨_, rfl⟩
    have hDV : D ≠ V := by have := hV.lt; omega
    have hbD : b ≤ D := by omega
    refine WC.drawL (fun L_ W_ => H2 true W55 V D (.slice (some ⟨B0, 0, none⟩) (ts.map encT).length (ts.map encT).length) (ts.map encT) [.int .i64 0, .int .i64 0, .string ⟨#[]⟩, .slice none 0 0, .slice none 0 0] (L_ 4) (L_ 5) (L_ 7) (L_ 9) W_) 10 (rel2 true V D (ts.map encT) [.int .i64 0, .int .i64 0, .string ⟨#[]⟩, .slice none 0 0, .slice none 0 0]) (sd2 W55 V D (ts.map encT).length (.slice (some ⟨B0, 0, none⟩) (ts.map encT).length (ts.map encT).length) (ts.map encT) [.int .i64 0, .int .i64 0, .string ⟨#[]⟩, .slice none 0 0, .slice none 0 0]) [[], [0], [], [1], [], [1, 4, 0, 1, 2, 3, 4], [5, 3, 0, 1, 2, 3, 4, 5], [6, 2, 5, 0, 1, 2, 3, 4, 5], [0, 1, 2, 3, 4, 5], [8, 5, 5, 0, 1, 2, 3, 4, 5]] (by kernel_rfl) (by kernel_rfl) (by kernel_rfl) (by kernel_rfl) (by kernel_rfl) (by kernel_rfl) (by kernel_rfl) (begin2 hV (fun h => by cases h)) (mono2 hDV) ?_ ?_
    ·
      refine ⟨fun L_ Wd hl hn hG => ?_, ?_⟩
      ·
        replace hG : H2 true W55 V D (.slice (some ⟨B0, 0, none⟩) (ts.map encT).length (ts.map encT).length) (ts.map encT) [.int .i64 0, .int .i64 0, .string ⟨#[]⟩, .slice none 0 0, .slice none 0 0] (L_ 4) (L_ 5) (L_ 7) (L_ 9) Wd := hG
        exact DV.dr (dx_fld (o1 := 4) rfl ty_fld_26_4_4 rfl rfl) ⟨rel_o (by decide) (by decide) (by decide) (Below.refl _ _), hG, rfl⟩
      refine ⟨fun L_ Wd hl hn hG => ?_, ?_⟩
      ·
        replace hG : H2 true W55 V D (.slice (some ⟨B0, 0, none⟩) (ts.map encT).length (ts.map encT).length) (ts.map encT) [.int .i64 0, .int .i64 0, .string ⟨#[]⟩, .slice none 0 0, .slice none 0 0] (L_ 4) (L_ 5) (L_ 7) (L_ 9) Wd := hG
        exact DV.dr (dx_load rfl ty_one_24 rfl ((hG.2.1 (hn 9 (by decide))).cell (k := 4) rfl)) ⟨rel_o (by decide) (by decide) (by decide) (Below.refl _ _), hG, rfl⟩
      refine ⟨fun L_ Wd hl hn hG => ?_, ?_⟩
      ·
        replace hG : H2 true W55 V D (.slice (some ⟨B0, 0, none⟩) (ts.map encT).length (ts.map encT).length) (ts.map encT) [.int .i64 0, .int .i64 0, .string ⟨#[]⟩, .slice none 0 0, .slice none 0 0] (L_ 4) (L_ 5) (L_ 7) (L_ 9) Wd := hG
        exact DV.dr (dx_loadN (cs := zV) rfl ty_agg_26_5 rfl (k57.chgV hG.1 k57.lt n52.symm (by have := k57.lt; omega)).range rfl) ⟨rel_o (by decide) (by decide) (by decide) (Below.refl _ _), hG, rfl⟩
      refine ⟨fun L_ Wd hl hn hG => ?_, ?_⟩
      ·
        replace hG : H2 true W55 V D (.slice (some ⟨B0, 0, none⟩) (ts.map encT).length (ts.map encT).length) (ts.map encT) [.int .i64 0, .int .i64 0, .string ⟨#[]⟩, .slice none 0 0, .slice none 0 0] (L_ 4) (L_ 5) (L_ 7) (L_ 9) Wd := hG
        exact DV.dr (dx_len rfl Try.underlying24 rfl) ⟨rel_o (by decide) (by decide) (by decide) (Below.refl _ _), hG, rfl⟩
      refine ⟨fun L_ Wd hl hn hG => ?_, ?_⟩
      ·
        replace hG : H2 true W55 V D (.slice (some ⟨B0, 0, none⟩) (ts.map encT).length (ts.map encT).length) (ts.map encT) [.int .i64 0, .int .i64 0, .string ⟨#[]⟩, .slice none 0 0, .slice none 0 0] (L_ 4) (L_ 5) (L_ 7) (L_ 9) Wd := hG
        have h5_ := hn 5 (by decide)
        rw [hl, h5_] at hG
        refine (dx_lit1X (r := zR) rfl ty_ap_24 (by decide) (by decide) rfl rfl rfl).mono ?_
        rintro u W_ ⟨⟨k1_, k2_, k3_⟩, k4_⟩
        have hs0_ := hG.1.size
        refine ⟨rel_o (by decide) (by decide) (by decide) k2_, ?_, ⟨Wd.heap.size, ?_, ?_, hs0_, k1_⟩⟩
        · show H2 _ _ _ _ _ _ _ true (L_ 5) (L_ 7) (L_ 9) _
          rw [h5_]
          exact lit2 hG k2_ k4_
        · have := hG.2.2.1 rfl; rw [if_pos rfl, if_neg (by decide)] at this; omega
        · have := hV.lt; omega
      refine ⟨fun L_ Wd hl hn hG => ?_, ?_⟩
      ·
        intro u4 q4 u4 q4
        replace hG : H2 true W55 V D (.slice (some ⟨B0, 0, none⟩) (ts.map encT).length (ts.map encT).length) (ts.map encT) [.int .i64 0, .int .i64 0, .string ⟨#[]⟩, .slice none 0 0, .slice none 0 0] (L_ 4) (L_ 5) (L_ 7) (L_ 9) Wd := hG
        have h7_ := hn 7 (by decide)
        have h9_ := hn 9 (by decide)
        rw [hl, h7_, h9_] at hG
        obtain ⟨B4, e1_, e2_, e3_, e4_⟩ := q4
        have e5_ := e4_.lt
        have hz_ := hG.2.2.1 rfl
        rw [if_pos rfl] at hz_
        have hz2_ : Wd.heap.size = D := by rw [hz_] at e5_ ⊢; split at e5_ <;> split <;> omega
        refine (dx_apF (rs := (ts.map encT)) (L := []) rfl ty_ap_24 rfl rfl (((hO.chgV hG.1 hO.lt hB0V (by have := hO.lt; omega)).rd (L := []) (by simp))) (e4_.rd (L := []) (by simp)) (by simp) (by simp [maxLen] <;> omega) (by simp <;> omega)).mono ?_
        rintro u W_ ⟨k1_, k2_, k3_⟩
        rw [hz2_] at k1_
        refine ⟨(by unfold rel2; rw [if_pos rfl]; exact k2_), ?_, ⟨zR, k1_⟩⟩
        show H2 _ _ _ _ _ _ _ (L_ 4) true (L_ 7) (L_ 9) _
        rw [h7_, h9_]
        exact app2 hDV hG k2_
      refine ⟨fun L_ Wd hl hn hG => ?_, ?_⟩
      ·
        intro u5 q5 u4 q4 u5 q5
        replace hG : H2 true W55 V D (.slice (some ⟨B0, 0, none⟩) (ts.map encT).length (ts.map encT).length) (ts.map encT) [.int .i64 0, .int .i64 0, .string ⟨#[]⟩, .slice none 0 0, .slice none 0 0] (L_ 4) (L_ 5) (L_ 7) (L_ 9) Wd := hG
        obtain ⟨r_, h5_⟩ := q5
        exact DV.dr (dx_idxO (ts.map encT).length rfl ty_slice_24 rfl rfl h5_ rfl (by simp) rfl) ⟨rel_o (by decide) (by decide) (by decide) (Below.refl _ _), hG, rfl⟩
      refine ⟨fun L_ Wd hl hn hG => ?_, ?_⟩
      ·
        intro u5 q5 u4 q4 u5 q5
        replace hG : H2 true W55 V D (.slice (some ⟨B0, 0, none⟩) (ts.map encT).length (ts.map encT).length) (ts.map encT) [.int .i64 0, .int .i64 0, .string ⟨#[]⟩, .slice none 0 0, .slice none 0 0] (L_ 4) (L_ 5) (L_ 7) (L_ 9) Wd := hG
        have hq_ := q5
        obtain ⟨r_, h5_⟩ := q5
        refine (dx_storeO (k := (ts.map encT).length) (r := [.int .i64 0, .int .i64 0, .string ⟨#[]⟩, .slice none 0 0, .slice none 0 0]) rfl ty_size_26_5 rfl rfl rfl (oc_cons rfl (oc_cons rfl (oc_cons rfl (oc_cons rfl (oc_cons rfl oc_nil))))) h5_ rfl (by simp) rfl).mono ?_
        rintro _ W_ ⟨k1_, k2_⟩
        rw [show ((ts.map encT) ++ [r_]).set (ts.map encT).length [.int .i64 0, .int .i64 0, .string ⟨#[]⟩, .slice none 0 0, .slice none 0 0] = (ts.map encT) ++ [[.int .i64 0, .int .i64 0, .string ⟨#[]⟩, .slice none 0 0, .slice none 0 0]] from set_last] at k1_
        have hs_ : ∀ u r, OwS 5 Wd u ((ts.map encT) ++ [r]) D → OwS 5 W_ u ((ts.map encT) ++ [[.int .i64 0, .int .i64 0, .string ⟨#[]⟩, .slice none 0 0, .slice none 0 0]]) D := fun u r h => by have e_ := h5_.uniq h (by simp); rw [← e_]; exact k1_
        rw [hl] at hG
        refine ⟨(by unfold rel2; rw [if_neg (by decide), if_pos rfl]; exact ⟨k2_, hs_⟩), ?_, trivial⟩
        show H2 _ _ _ _ _ _ _ (L_ 4) (L_ 5) true (L_ 9) _
        exact row3 (c := 0) hDV (fun h => (by cases h)) hG k2_ hs_ ⟨_, r_, h5_⟩
      refine ⟨fun L_ Wd hl hn hG => ?_, ?_⟩
      ·
        intro u4 q4 u5 q5
        replace hG : H2 true W55 V D (.slice (some ⟨B0, 0, none⟩) (ts.map encT).length (ts.map encT).length) (ts.map encT) [.int .i64 0, .int .i64 0, .string ⟨#[]⟩, .slice none 0 0, .slice none 0 0] (L_ 4) (L_ 5) (L_ 7) (L_ 9) Wd := hG
        exact DV.dr (dx_fld (o1 := 4) rfl ty_fld_26_4_4 rfl rfl) ⟨rel_o (by decide) (by decide) (by decide) (Below.refl _ _), hG, rfl⟩
      refine ⟨fun L_ Wd hl hn hG => ?_, ?_⟩
      ·
        intro u5 q5 u5 q5 u4 q4 u5 q5
        replace hG : H2 true W55 V D (.slice (some ⟨B0, 0, none⟩) (ts.map encT).length (ts.map encT).length) (ts.map encT) [.int .i64 0, .int .i64 0, .string ⟨#[]⟩, .slice none 0 0, .slice none 0 0] (L_ 4) (L_ 5) (L_ 7) (L_ 9) Wd := hG
        obtain ⟨r_, h5_⟩ := q5
        rw [hl] at hG
        refine (dx_store (cs' := vC u5) (vs := [u5]) rfl ty_size_24_1 rfl rfl (oc_one h5_.one) (oc_cons h5_.one oc_nil) (hG.2.1 rfl) rfl (Nat.le_of_ble_eq_true rfl) rfl).mono ?_
        rintro _ W_ ⟨k1_, k2_⟩
        refine ⟨(by unfold rel2; rw [if_neg (by decide), if_neg (by decide), if_pos rfl]; exact k2_), ?_, trivial⟩
        show H2 _ _ _ _ _ _ _ (L_ 4) (L_ 5) (L_ 7) true _
        exact put3 hDV hG k2_ k1_ h5_
      exact trivial
    ·
      intro We hGe
      obtain ⟨hc, uN, hVe, hOe⟩ := end2 (show H2 true W55 V D (.slice (some ⟨B0, 0, none⟩) (ts.map encT).length (ts.map encT).length) (ts.map encT) [.int .i64 0, .int .i64 0, .string ⟨#[]⟩, .slice none 0 0, .slice none 0 0] true true true true We from hGe)
      intro u4 q4 u5 q5 _ _ _ _
      have hts_ : ∀ c ∈ ts, RdT (n + 1) (D :: L) We c := fun c hc_ => (((hts c hc_).less (fun x hx => .tail _ (.tail _ hx))).more (Below.refl _ _) (show W55.heap.size ≤ D by omega)).inner hc hVL
      replace hp31 := hp31.chgV hc hp31.lt hVP.symm (by have := hp31.lt; omega)
      replace hB := hB.inner hc (Nat.le_trans hbw hB.size) hbD
      refine Ni (hK58 (Sq fun K59 hK59 => (Rg (Pu rfl (Pu rfl (Ni (hK59 ?_)))))))
      exact WC.ret fun a_ ha_ => hQ (cx_ret1 rfl (.tmp rfl) (.inr ⟨k17, e19, rfl, hw24, (by unfold oneL; rw [hw25]), by omega, ⟨vC uN, rfl, (oc_cons rfl (oc_cons rfl (oc_cons rfl (oc_cons rfl (oc_cons hOe.one oc_nil))))), hVe⟩, hp31⟩) hB ha_)

def noT : Tr := .mk 0 0 ⟨#[]⟩ (.slice none 0 0) [] (.slice none 0 0) []
theorem noT_rd (n : Nat) (L : List Nat) (w : World) : RdT (n + 1) L w noT := ⟨RdF.nil (by decide), RdF.nil (by decide), fun c hc => by cases hc⟩
def getT (t : Tr) (name : ByteArray) : Tr × Bool := if t.kind = 6 ∧ 0 ≤ idxX (fun x => decide (name = x)) t.names 0 ∧ (idxX (fun x => decide (name = x)) t.names 0).toNat < t.items.length then ((t.items[(idxX (fun x => decide (name = x)) t.names 0).toNat]?).getD noT, true) else (noT, false)
theorem getT_mem (t : Tr) (name : ByteArray) : (getT t name).1 = noT ∨ (getT t name).1 ∈ t.items := by
  unfold getT
  split
  · rename_i h
    right
    show (t.items[_]?).getD noT ∈ t.items
    rw [List.getElem?_eq_getElem h.2.2]
    exact List.getElem_mem _
  · exact .inl rfl
theorem getT_rd {n : Nat} {L : List Nat} {w : World} {t : Tr} (h : RdT (n + 1) L w t) (name : ByteArray) : RdT (n + 1) L w (getT t name).1 := by
 rcases getT_mem t name with e | e
 · rw [e]; exact noT_rd _ _ _
 · exact (h.2.2 _ e).up
noncomputable def eqJ (a b : Js) : Bool := (Classical.propDecidable (a = b)).decide
theorem eqJ_t {a b : Js} (h : a = b) : eqJ a b = true := by
 unfold eqJ
 exact @decide_eq_true _ (Classical.propDecidable _) h
theorem eqJ_f {a b : Js} (h : a ≠ b) : eqJ a b = false := by
 unfold eqJ
 exact @decide_eq_false _ (Classical.propDecidable _) h
theorem er_eq {a b : Tr} (h1 : a.kind = b.kind) (h2 : a.num = b.num) (h3 : a.text = b.text) (h4 : a.names = b.names) (h5 : a.items.length = b.items.length) (h6 : ∀ (k : Nat) (c d : Tr), a.items[k]? = some c → b.items[k]? = some d → c.er = d.er) : a.er = b.er := by
 refine Js.ext (by rw [er_kind, er_kind, h1]) (by rw [er_num, er_num, h2]) (by rw [er_text, er_text, h3]) (by rw [er_names, er_names, h4]) ?_
 rw [er_items, er_items]
 refine List.ext_getElem? fun k => ?_
 rw [List.getElem?_map, List.getElem?_map]
 cases ha : a.items[k]? with
 | none =>
  have := List.getElem?_eq_none_iff.1 ha
  rw [List.getElem?_eq_none (by omega)]
 | some c =>
  have hk := (List.getElem?_eq_some_iff.1 ha).1
  rw [List.getElem?_eq_getElem (by omega : k < b.items.length)]
  show some c.er = some _
  rw [h6 k c _ ha (List.getElem?_eq_getElem (by omega : k < b.items.length))]
theorem er_parts {a b : Tr} (h : a.er = b.er) : a.kind = b.kind ∧ a.num = b.num ∧ a.text = b.text ∧ a.names = b.names ∧ a.items.map Tr.er = b.items.map Tr.er := by
 refine ⟨by rw [← er_kind, h, er_kind], by rw [← er_num, h, er_num], by rw [← er_text, h, er_text], by rw [← er_names, h, er_names], by rw [← er_items, h, er_items]⟩
theorem er_len {a b : Tr} (h : a.er = b.er) : a.items.length = b.items.length := by
 have := congrArg List.length (er_parts h).2.2.2.2
 rwa [List.length_map, List.length_map] at this
theorem er_item {a b : Tr} (h : a.er = b.er) {k : Nat} {c d : Tr} (hc : a.items[k]? = some c) (hd : b.items[k]? = some d) : c.er = d.er := by
 have := congrArg (fun l : List Js => l[k]?) (er_parts h).2.2.2.2
 simp only [List.getElem?_map, hc, hd, Option.map_some, Option.some.injEq] at this
 exact this
theorem maxJ_step {f : Js → Nat} {l : List Tr} {i : Nat} {r : Tr} (h : l[i]? = some r) : maxJ f ((l.take (i + 1)).map Tr.er) = max (maxJ f ((l.take i).map Tr.er)) (f r.er) := by
 rw [List.take_add_one, h, List.map_append, maxJ_app]
 simp [maxJ]
theorem maxJ_take {f : Js → Nat} (l : List Tr) (i : Nat) : maxJ f ((l.take i).map Tr.er) ≤ maxJ f (l.map Tr.er) := by
 have := maxJ_app f ((l.take i).map Tr.er) ((l.drop i).map Tr.er)
 rw [← List.map_append, List.take_append_drop] at this
 omega
theorem deep_leaf {n : Nat} {t : Tr} (h5 : t.kind ≠ 5) (h6 : t.kind ≠ 6) : deepJ n t.er = 0 := by
 cases n with
 | zero => rfl
 | succ n => rw [deepJ, er_kind, if_neg (by omega)]
theorem deep_node {n : Nat} {t : Tr} (h : t.kind = 5 ∨ t.kind = 6) : deepJ (n + 1) t.er = 1 + maxJ (deepJ n) (t.items.map Tr.er) := by
 rw [deepJ, er_kind, if_pos h, er_items]
abbrev DeepAt (n : Nat) : Prop := ∀ (t : Tr) (most : Nat) (u : Value) (w : World) (L : List Nat), LL L w → RdT n L w t → PtR L w u (encT t) → most ≤ 100 → CV Try.prog 43 [u, .int .i64 (most : Int)] w fun v W => v = .int .i64 (deepJ most t.er : Nat)
set_option maxHeartbeats 1000000 in
theorem deep_step (n : Nat) (ih : DeepAt n) (t : Tr) (most : Nat) (u : Value) (w : World) (L : List Nat) (hL : LL L w) (ht : RdT (n + 1) L w t) (hu : PtR L w u (encT t))  (hrm : most ≤ 100) : CV Try.prog 43 [u, .int .i64 (most : Int)] w fun v W => v = .int .i64 (deepJ most t.er : Nat) := by
 refine cv_enter (N := 49) (f := [(0, u), (1, .int .i64 (most : Int))]) Try.func43 rfl rfl rfl rfl fun Q hQ hE => ?_
 have hB := Below.refl w.heap.size w
 refine Sq fun K1 hK1 => ?_
 obtain ⟨hnt, hit, hct⟩ := ht
 replace hct : RdTs n (L) w t.items := hct
 have hil0 := hit.len
 rw [List.length_map] at hil0
 unfold maxLen at hil0
 rcases (show t.kind = 5 ∨ t.kind = 6 ∨ (t.kind ≠ 5 ∧ t.kind ≠ 6) by omega) with hkt | hkt | hkt
 ·
  refine Rg (Pu rfl (Ni (hK1 (Sq fun K2 hK2 => (Sq fun K3 hK3 => ?_)))))
  cases most with
  | zero =>
   refine Rg (Pu rfl (Va (dv_T (dx_eql rfl rfl rfl) (by omega)) rfl rfl (Pu rfl (Of rfl (Of rfl (Of rfl (Of rfl ?_)))))))
   refine Of rfl (Of rfl (Of rfl (Of rfl (Of rfl (Of rfl (Of rfl (Of rfl ?_)))))))
   refine Pu rfl (Ni (hK3 (WC.condT rfl (Sq fun K4 hK4 => (Rg (Pu rfl (Ni ?_)))))))
   refine hK4 ?_
   exact WC.ret fun a_ ha_ => hQ (cv_ret1 rfl (.tmp rfl) rfl hB ha_)
  | succ m =>
   refine Rg (Pu rfl (Va (dv_N (dx_eql rfl rfl rfl) (by omega)) rfl rfl (Pu rfl (Pu rfl (Va (dx_nilP rfl rfl hu) rfl rfl ?_)))))
   refine Ge (dx_fldP 1 rfl ty_fld_26_0_0 rfl hu (cs' := [.int .i64 t.kind]) rfl (Nat.succ_pos _)) rfl rfl ?_
   rintro u5 _ ⟨rfl, p6⟩
   refine Va ((hkt ▸ dx_loadP rfl ty_one_3 rfl p6)) rfl rfl (Va (dx_neq rfl rfl rfl) rfl rfl (Pu rfl (Of rfl (Of rfl (Of rfl (Of rfl (Of rfl ?_)))))))
   refine Pu rfl (Pu rfl (Ni (hK3 (WC.condF rfl (WC.skip (hK2 (Sq fun K7 hK7 => ?_)))))))
   refine Rg (Pu rfl (Ni (hK7 (Sq fun K8 hK8 => (Sq fun K9 hK9 => (Rg (Pu rfl ?_)))))))
   refine Va (dx_nilP rfl rfl hu) rfl rfl ?_
   refine Ge (dx_fldP 1 rfl ty_fld_26_4_4 rfl hu (cs' := [t.iv]) rfl (Nat.succ_pos _)) rfl rfl ?_
   rintro u10 _ ⟨rfl, p11⟩
   refine Va (dx_loadP rfl ty_one_24 rfl p11) rfl rfl (Va (dx_lenFM rfl ty_slice_24 rfl hit) rfl rfl (Pu rfl (Ni (hK9 (WC.block ?_)))))
   refine WC.loop2 (fun (i : Nat) (b : Nat) => [(0, u), (1, .int .i64 ((m + 1 : Nat) : Int)), (27, .int .i64 (t.items.length : Int)), (28, .int .i64 (i : Int)), (5, .int .i64 (b : Int))]) (fun (i : Nat) (b : Nat) W => i ≤ t.items.length ∧ b = maxJ (deepJ m) ((t.items.take i).map Tr.er) ∧ b ≤ m ∧ Below w.heap.size w W ∧ LL (L) W ∧ PtR (L) W u (encT t) ∧ RdF 1 (L) W t.nv (t.names.map eS) ∧ RdF 5 (L) W t.iv (t.items.map encT) ∧ RdTs n (L) W t.items) (fun (i : Nat) (b : Nat) => t.items.length - i) 0 0 (by repeat first | exact trivial | exact And.intro rfl trivial | refine And.intro rfl ?_ | refine And.intro (congrArg (fun z : Int => some (Value.int .i64 z)) (by omega)) ?_) ⟨Nat.zero_le _, rfl, Nat.zero_le _, hB, hL, hu, hnt, hit, hct⟩ ?_
   clear hu hnt hit hct hB hL
   rintro K12 i b W13 ⟨hi, hb, hbm, hB, hL, hu, hnt, hit, hct⟩ hK12
   refine Sq fun K14 hK14 => (Rg (Va (dx_lss rfl rfl rfl) rfl rfl (Ni (hK14 (Sq fun K15 hK15 => ?_)))))
   refine WC.cond rfl (fun c16 => ?_) (fun c16 => ?_)
   ·
    replace c16 := dT c16
    refine WC.skip (hK15 (Sq fun K17 hK17 => (WC.block (Sq fun K18 hK18 => (Rg (Pu rfl (Pu rfl ?_)))))))
    refine Ni (hK18 (Sq fun K19 hK19 => (Rg (Pu rfl (Pu rfl (Va (dx_nilP rfl rfl hu) rfl rfl ?_))))))
    refine Ge (dx_fldP 1 rfl ty_fld_26_4_4 rfl hu (cs' := [t.iv]) rfl (Nat.succ_pos _)) rfl rfl ?_
    rintro u20 _ ⟨rfl, p21⟩
    refine Va (dx_loadP rfl ty_one_24 rfl p21) rfl rfl (Pu rfl ?_)
    obtain ⟨r22, e23⟩ : ∃ x, t.items[i]? = some x := ⟨_, List.getElem?_eq_getElem (by omega)⟩
    refine Ge (dx_idxF i rfl ty_slice_24 rfl rfl hit (by omega) (at_mapX e23)) rfl rfl ?_
    rintro u24 _ ⟨rfl, p25⟩
    refine Pu rfl (Va (dx_sub (r := (m : Int)) rfl rfl rfl (by rw [wrap64_id (by omega)]; omega)) rfl rfl ?_)
    have hdl := deepJ_le m r22.er
    have hdl := deepJ_le m r22.er
    have hdl := deepJ_le m r22.er
    have hdl := deepJ_le m r22.er
    refine Ge (dx_cv rfl Try.func43 rfl rfl rfl (ih r22 m _ W13 _ hL (hct r22 (List.mem_of_getElem? e23)) p25 (by omega))) rfl rfl ?_
    rintro _ W27 ⟨rfl, b26⟩
    replace hu := hu.below b26
    replace hnt := hnt.below b26
    replace hit := hit.below b26
    replace hct := hct.below b26
    replace hB := below_then hB b26
    replace hL := LL.below hL b26
    refine Va (dx_max rfl rfl rfl) rfl rfl (Pu rfl (Ni (hK19 (Sq fun K28 hK28 => (Rg (Pu rfl (Pu rfl ?_)))))))
    refine Va (dx_sub (r := (m : Int)) rfl rfl rfl (by rw [wrap64_id (by omega)]; omega)) rfl rfl (Va (dx_eql rfl rfl rfl) rfl rfl (Ni (hK28 ?_)))
    refine WC.cond rfl (fun c29 => ?_) (fun c29 => ?_)
    ·
     replace c29 := dT c29
     refine WC.exit ?_
     refine hK8 (Sq fun K30 hK30 => (Rg (Pu rfl (Va (dx_add (r := 1 + (if (b : Int) < ((deepJ m r22.er : Nat) : Int) then ((deepJ m r22.er : Nat) : Int) else (b : Int))) rfl rfl rfl (wrap64_id (by omega))) rfl rfl (Pu rfl (Ni (hK30 ?_)))))))
     exact WC.ret fun a_ ha_ => hQ (cv_ret1 rfl (.tmp rfl) (by rw [deep_node (by first | exact .inl hkt | exact .inr hkt)]; first | (have e0 := maxJ_take (f := deepJ m) t.items i; have e4 : t.items.take i = t.items := List.take_of_length_le (by omega); rw [e4] at hb; exact congrArg (Value.int .i64) (by omega)) | (have e1 := maxJ_step (f := deepJ m) e23; have e2 := maxJ_take (f := deepJ m) t.items (i + 1); have e3 := maxJ_le (f := deepJ m) (k := m) (l := t.items.map Tr.er) (fun j _ => deepJ_le m j); exact congrArg (Value.int .i64) (by omega))) hB ha_)
    ·
     replace c29 := dF c29
     refine WC.skip (hK17 (Rg (Va (dx_add (r := (i : Int) + 1) rfl rfl rfl (wrap64_id (by omega))) rfl rfl (Pu rfl (Ni ?_)))))
     exact hK12 (i + 1) (max b (deepJ m r22.er)) ⟨(by omega), (by rw [maxJ_step e23, ← hb]), (by omega), hB, hL, hu, hnt, hit, hct⟩ (by omega) (by repeat first | exact trivial | exact And.intro rfl trivial | refine And.intro rfl ?_ | refine And.intro (congrArg (fun z : Int => some (Value.int .i64 z)) (by omega)) ?_)
   ·
    replace c16 := dF c16
    refine WC.exit ?_
    refine hK8 (Sq fun K31 hK31 => (Rg (Pu rfl (Va (dx_add (r := 1 + (b : Int)) rfl rfl rfl (wrap64_id (by omega))) rfl rfl (Pu rfl (Ni (hK31 ?_)))))))
    exact WC.ret fun a_ ha_ => hQ (cv_ret1 rfl (.tmp rfl) (by rw [deep_node (by first | exact .inl hkt | exact .inr hkt)]; first | (have e0 := maxJ_take (f := deepJ m) t.items i; have e4 : t.items.take i = t.items := List.take_of_length_le (by omega); rw [e4] at hb; exact congrArg (Value.int .i64) (by omega)) | fail) hB ha_)
 ·
  refine Rg (Pu rfl (Ni (hK1 (Sq fun K32 hK32 => (Sq fun K33 hK33 => ?_)))))
  cases most with
  | zero =>
   refine Rg (Pu rfl (Va (dv_T (dx_eql rfl rfl rfl) (by omega)) rfl rfl (Pu rfl (Of rfl (Of rfl (Of rfl (Of rfl ?_)))))))
   refine Of rfl (Of rfl (Of rfl (Of rfl (Of rfl (Of rfl (Of rfl (Of rfl ?_)))))))
   refine Pu rfl (Ni (hK33 (WC.condT rfl (Sq fun K34 hK34 => (Rg (Pu rfl (Ni ?_)))))))
   refine hK34 ?_
   exact WC.ret fun a_ ha_ => hQ (cv_ret1 rfl (.tmp rfl) rfl hB ha_)
  | succ m =>
   refine Rg (Pu rfl (Va (dv_N (dx_eql rfl rfl rfl) (by omega)) rfl rfl (Pu rfl (Pu rfl (Va (dx_nilP rfl rfl hu) rfl rfl ?_)))))
   refine Ge (dx_fldP 1 rfl ty_fld_26_0_0 rfl hu (cs' := [.int .i64 t.kind]) rfl (Nat.succ_pos _)) rfl rfl ?_
   rintro u35 _ ⟨rfl, p36⟩
   refine Va ((hkt ▸ dx_loadP rfl ty_one_3 rfl p36)) rfl rfl (Va (dx_neq rfl rfl rfl) rfl rfl (Pu rfl (Pu rfl (Va (dx_nilP rfl rfl hu) rfl rfl ?_))))
   refine Ge (dx_fldP 1 rfl ty_fld_26_0_0 rfl hu (cs' := [.int .i64 t.kind]) rfl (Nat.succ_pos _)) rfl rfl ?_
   rintro u37 _ ⟨rfl, p38⟩
   refine Va ((hkt ▸ dx_loadP rfl ty_one_3 rfl p38)) rfl rfl (Va (dx_neq rfl rfl rfl) rfl rfl (Pu rfl (Pu rfl (Ni (hK33 (WC.condF rfl (WC.skip ?_)))))))
   refine hK32 (Sq fun K39 hK39 => (Rg (Pu rfl (Ni (hK39 (Sq fun K40 hK40 => (Sq fun K41 hK41 => ?_)))))))
   refine Rg (Pu rfl (Va (dx_nilP rfl rfl hu) rfl rfl ?_))
   refine Ge (dx_fldP 1 rfl ty_fld_26_4_4 rfl hu (cs' := [t.iv]) rfl (Nat.succ_pos _)) rfl rfl ?_
   rintro u42 _ ⟨rfl, p43⟩
   refine Va (dx_loadP rfl ty_one_24 rfl p43) rfl rfl (Va (dx_lenFM rfl ty_slice_24 rfl hit) rfl rfl (Pu rfl (Ni (hK41 (WC.block ?_)))))
   refine WC.loop2 (fun (i : Nat) (b : Nat) => [(0, u), (1, .int .i64 ((m + 1 : Nat) : Int)), (27, .int .i64 (t.items.length : Int)), (28, .int .i64 (i : Int)), (5, .int .i64 (b : Int))]) (fun (i : Nat) (b : Nat) W => i ≤ t.items.length ∧ b = maxJ (deepJ m) ((t.items.take i).map Tr.er) ∧ b ≤ m ∧ Below w.heap.size w W ∧ LL (L) W ∧ PtR (L) W u (encT t) ∧ RdF 1 (L) W t.nv (t.names.map eS) ∧ RdF 5 (L) W t.iv (t.items.map encT) ∧ RdTs n (L) W t.items) (fun (i : Nat) (b : Nat) => t.items.length - i) 0 0 (by repeat first | exact trivial | exact And.intro rfl trivial | refine And.intro rfl ?_ | refine And.intro (congrArg (fun z : Int => some (Value.int .i64 z)) (by omega)) ?_) ⟨Nat.zero_le _, rfl, Nat.zero_le _, hB, hL, hu, hnt, hit, hct⟩ ?_
   clear hu hnt hit hct hB hL
   rintro K44 i b W45 ⟨hi, hb, hbm, hB, hL, hu, hnt, hit, hct⟩ hK44
   refine Sq fun K46 hK46 => (Rg (Va (dx_lss rfl rfl rfl) rfl rfl (Ni (hK46 (Sq fun K47 hK47 => ?_)))))
   refine WC.cond rfl (fun c48 => ?_) (fun c48 => ?_)
   ·
    replace c48 := dT c48
    refine WC.skip (hK47 (Sq fun K49 hK49 => (WC.block (Sq fun K50 hK50 => (Rg (Pu rfl (Pu rfl ?_)))))))
    refine Ni (hK50 (Sq fun K51 hK51 => (Rg (Pu rfl (Pu rfl (Va (dx_nilP rfl rfl hu) rfl rfl ?_))))))
    refine Ge (dx_fldP 1 rfl ty_fld_26_4_4 rfl hu (cs' := [t.iv]) rfl (Nat.succ_pos _)) rfl rfl ?_
    rintro u52 _ ⟨rfl, p53⟩
    refine Va (dx_loadP rfl ty_one_24 rfl p53) rfl rfl (Pu rfl ?_)
    obtain ⟨r54, e55⟩ : ∃ x, t.items[i]? = some x := ⟨_, List.getElem?_eq_getElem (by omega)⟩
    refine Ge (dx_idxF i rfl ty_slice_24 rfl rfl hit (by omega) (at_mapX e55)) rfl rfl ?_
    rintro u56 _ ⟨rfl, p57⟩
    refine Pu rfl (Va (dx_sub (r := (m : Int)) rfl rfl rfl (by rw [wrap64_id (by omega)]; omega)) rfl rfl ?_)
    have hdl := deepJ_le m r54.er
    have hdl := deepJ_le m r54.er
    have hdl := deepJ_le m r54.er
    have hdl := deepJ_le m r54.er
    refine Ge (dx_cv rfl Try.func43 rfl rfl rfl (ih r54 m _ W45 _ hL (hct r54 (List.mem_of_getElem? e55)) p57 (by omega))) rfl rfl ?_
    rintro _ W59 ⟨rfl, b58⟩
    replace hu := hu.below b58
    replace hnt := hnt.below b58
    replace hit := hit.below b58
    replace hct := hct.below b58
    replace hB := below_then hB b58
    replace hL := LL.below hL b58
    refine Va (dx_max rfl rfl rfl) rfl rfl (Pu rfl (Ni (hK51 (Sq fun K60 hK60 => (Rg (Pu rfl (Pu rfl ?_)))))))
    refine Va (dx_sub (r := (m : Int)) rfl rfl rfl (by rw [wrap64_id (by omega)]; omega)) rfl rfl (Va (dx_eql rfl rfl rfl) rfl rfl (Ni (hK60 ?_)))
    refine WC.cond rfl (fun c61 => ?_) (fun c61 => ?_)
    ·
     replace c61 := dT c61
     refine WC.exit ?_
     refine hK40 (Sq fun K62 hK62 => (Rg (Pu rfl (Va (dx_add (r := 1 + (if (b : Int) < ((deepJ m r54.er : Nat) : Int) then ((deepJ m r54.er : Nat) : Int) else (b : Int))) rfl rfl rfl (wrap64_id (by omega))) rfl rfl (Pu rfl (Ni (hK62 ?_)))))))
     exact WC.ret fun a_ ha_ => hQ (cv_ret1 rfl (.tmp rfl) (by rw [deep_node (by first | exact .inl hkt | exact .inr hkt)]; first | (have e0 := maxJ_take (f := deepJ m) t.items i; have e4 : t.items.take i = t.items := List.take_of_length_le (by omega); rw [e4] at hb; exact congrArg (Value.int .i64) (by omega)) | (have e1 := maxJ_step (f := deepJ m) e55; have e2 := maxJ_take (f := deepJ m) t.items (i + 1); have e3 := maxJ_le (f := deepJ m) (k := m) (l := t.items.map Tr.er) (fun j _ => deepJ_le m j); exact congrArg (Value.int .i64) (by omega))) hB ha_)
    ·
     replace c61 := dF c61
     refine WC.skip (hK49 (Rg (Va (dx_add (r := (i : Int) + 1) rfl rfl rfl (wrap64_id (by omega))) rfl rfl (Pu rfl (Ni ?_)))))
     exact hK44 (i + 1) (max b (deepJ m r54.er)) ⟨(by omega), (by rw [maxJ_step e55, ← hb]), (by omega), hB, hL, hu, hnt, hit, hct⟩ (by omega) (by repeat first | exact trivial | exact And.intro rfl trivial | refine And.intro rfl ?_ | refine And.intro (congrArg (fun z : Int => some (Value.int .i64 z)) (by omega)) ?_)
   ·
    replace c48 := dF c48
    refine WC.exit ?_
    refine hK40 (Sq fun K63 hK63 => (Rg (Pu rfl (Va (dx_add (r := 1 + (b : Int)) rfl rfl rfl (wrap64_id (by omega))) rfl rfl (Pu rfl (Ni (hK63 ?_)))))))
    exact WC.ret fun a_ ha_ => hQ (cv_ret1 rfl (.tmp rfl) (by rw [deep_node (by first | exact .inl hkt | exact .inr hkt)]; first | (have e0 := maxJ_take (f := deepJ m) t.items i; have e4 : t.items.take i = t.items := List.take_of_length_le (by omega); rw [e4] at hb; exact congrArg (Value.int .i64) (by omega)) | fail) hB ha_)
 ·
  refine Rg (Pu rfl (Ni (hK1 (Sq fun K64 hK64 => (Sq fun K65 hK65 => ?_)))))
  cases most with
  | zero =>
   refine Rg (Pu rfl (Va (dv_T (dx_eql rfl rfl rfl) (by omega)) rfl rfl (Pu rfl (Of rfl (Of rfl (Of rfl (Of rfl ?_)))))))
   refine Of rfl (Of rfl (Of rfl (Of rfl (Of rfl (Of rfl (Of rfl (Of rfl ?_)))))))
   refine Pu rfl (Ni (hK65 (WC.condT rfl (Sq fun K66 hK66 => (Rg (Pu rfl (Ni ?_)))))))
   refine hK66 ?_
   exact WC.ret fun a_ ha_ => hQ (cv_ret1 rfl (.tmp rfl) (by rw [deep_leaf (by omega) (by omega)]; rfl) hB ha_)
  | succ m =>
   refine Rg (Pu rfl (Va (dv_N (dx_eql rfl rfl rfl) (by omega)) rfl rfl (Pu rfl (Pu rfl (Va (dx_nilP rfl rfl hu) rfl rfl ?_)))))
   refine Ge (dx_fldP 1 rfl ty_fld_26_0_0 rfl hu (cs' := [.int .i64 t.kind]) rfl (Nat.succ_pos _)) rfl rfl ?_
   rintro u67 _ ⟨rfl, p68⟩
   refine Va (dx_loadP rfl ty_one_3 rfl p68) rfl rfl (Va (dv_NT (dx_neq rfl rfl rfl) (by omega)) rfl rfl (Pu rfl (Pu rfl (Va (dx_nilP rfl rfl hu) rfl rfl ?_))))
   refine Ge (dx_fldP 1 rfl ty_fld_26_0_0 rfl hu (cs' := [.int .i64 t.kind]) rfl (Nat.succ_pos _)) rfl rfl ?_
   rintro u69 _ ⟨rfl, p70⟩
   refine Va (dx_loadP rfl ty_one_3 rfl p70) rfl rfl (Va (dv_NT (dx_neq rfl rfl rfl) (by omega)) rfl rfl (Pu rfl (Pu rfl (Ni (hK65 (WC.condT rfl (Sq fun K71 hK71 => ?_)))))))
   refine Rg (Pu rfl (Ni (hK71 ?_)))
   exact WC.ret fun a_ ha_ => hQ (cv_ret1 rfl (.tmp rfl) (by rw [deep_leaf (by omega) (by omega)]; rfl) hB ha_)

theorem deep_all : ∀ n, DeepAt n
 | 0 => fun t _ _ _ _ _ h => h.elim
 | n + 1 => fun t most u w L hL ht hu hr => deep_step n (deep_all n) t most u w L hL ht hu hr
set_option maxHeartbeats 1000000 in
theorem jDeep_v (n : Nat) (t : Tr) (w : World) (L : List Nat) (hL : LL L w) (ht : RdT (n + 1) L w t) : CV Try.prog 20 [.agg #[.int .i64 t.kind, .int .i64 t.num, .string t.text, t.nv, t.iv]] w fun v W => v = .int .i64 (deepJ 13 t.er : Nat) := by
 refine cv_enter (N := 4) (f := [(0, .agg #[.int .i64 t.kind, .int .i64 t.num, .string t.text, t.nv, t.iv])]) Try.func20 rfl rfl rfl rfl fun Q hQ hE => ?_
 have hB := Below.refl w.heap.size w
 refine Sq fun K1 hK1 => ?_
 obtain ⟨hnt, hit, hct⟩ := ht
 replace hct : RdTs n (L) w t.items := hct
 refine Rg ?_
 refine Ge (dx_box rfl rfl rfl) rfl rfl ?_
 rintro _ W2 ⟨rfl, k3, b4, z5⟩
 have l6 := hB.size
 replace hnt := hnt.more b4 (Nat.le_refl _)
 replace hit := hit.more b4 (Nat.le_refl _)
 replace hct := hct.more b4 (Nat.le_refl _)
 replace hB := below_then hB b4
 refine Pu rfl (Ni (hK1 (Sq fun K7 hK7 => (Rg ?_))))
 refine Ge (dx_cv rfl Try.func43 rfl rfl rfl (deep_all (n + 1) t 13 _ W2 [] (LL.nil _) ((show RdT (n + 1) (w.heap.size :: L) W2 t from ⟨hnt, hit, hct⟩).less (fun x hx => by cases hx)) ⟨Nat.succ_pos _, w.heap.size, 0, rfl, by simp, k3.range⟩ (by decide))) rfl rfl ?_
 rintro _ W9 ⟨rfl, b8⟩
 replace hB := below_then hB b8
 refine Pu rfl (Ni (hK7 ?_))
 exact WC.ret fun a_ ha_ => hQ (cv_ret1 rfl (.tmp rfl) rfl hB ha_)

set_option maxHeartbeats 1000000 in
theorem indexT_v (ts : List ByteArray) (t : ByteArray) (tv : Value) (w : World) (L : List Nat) (hL : LL L w) (h3 : RdF 1 L w tv (ts.map eS)) : CV Try.prog 41 [tv, .string t] w fun v W => v = .int .i64 (idxX (fun x => decide (t = x)) ts 0) := by
 refine cv_enter (N := 19) (f := [(0, tv), (1, .string t)]) Try.func41 rfl rfl rfl rfl fun Q hQ hE => ?_
 have hB := Below.refl w.heap.size w
 have h3m : ts.length ≤ maxLen := by have := h3.len; rwa [List.length_map] at this
 unfold maxLen at h3m
 refine Sq fun K1 hK1 => (Rg (Pu rfl (Ni (hK1 (Sq fun K2 hK2 => (Sq fun K3 hK3 => (Rg ?_)))))))
 refine Pu rfl (Va (dx_lenFM rfl ty_slice_23 rfl h3) rfl rfl (Pu rfl (Ni (hK3 (WC.block ?_)))))
 refine WC.loop (fun (i : Nat) => [(0, tv), (1, .string t), (7, .int .i64 (ts.length : Int)), (8, .int .i64 (i : Int))]) (fun (i : Nat) W => i ≤ ts.length ∧ idxX (fun x => decide (t = x)) ts 0 = idxX (fun x => decide (t = x)) (ts.drop i) i ∧ Below w.heap.size w W ∧ LL (L) W ∧ RdF 1 (L) W tv (ts.map eS)) (fun (i : Nat) => ts.length - i) 0 (by repeat first | exact trivial | exact And.intro rfl trivial | refine And.intro rfl ?_ | refine And.intro (congrArg (fun z : Int => some (Value.int .i64 z)) (by omega)) ?_) ⟨Nat.zero_le _, rfl, hB, hL, h3⟩ ?_
 clear h3 hB hL
 rintro K4 i W5 ⟨hi, hv, hB, hL, h3⟩ hK4
 refine Sq fun K6 hK6 => (Rg (Va (dx_lss rfl rfl rfl) rfl rfl (Ni (hK6 (Sq fun K7 hK7 => ?_)))))
 refine WC.cond rfl (fun c8 => ?_) (fun c8 => ?_)
 ·
  replace c8 := dT c8
  refine WC.skip (hK7 (Sq fun K9 hK9 => (WC.block (Sq fun K10 hK10 => (Rg (Pu rfl (Pu rfl ?_)))))))
  refine Ni (hK10 (Sq fun K11 hK11 => (Rg (Pu rfl (Pu rfl (Pu rfl ?_))))))
  obtain ⟨r12, e13⟩ : ∃ x, ts[i]? = some x := ⟨_, List.getElem?_eq_getElem (by omega)⟩
  refine Ge (dx_idxF i rfl ty_slice_23 rfl rfl h3 (by omega) (at_mapX e13)) rfl rfl ?_
  rintro u14 _ ⟨rfl, p15⟩
  refine Va (dx_loadP rfl ty_one_9 rfl p15) rfl rfl (Va (dx_eqlT rfl rfl rfl) rfl rfl (Ni (hK11 ?_)))
  refine WC.cond rfl (fun c16 => ?_) (fun c16 => ?_)
  ·
   replace c16 := dT c16
   refine Sq fun K17 hK17 => (Rg (Pu rfl (Pu rfl (Ni (hK17 ?_)))))
   exact WC.ret fun a_ ha_ => hQ (cv_ret1 rfl (.tmp rfl) (by rw [hv, idxX_here e13 (decide_eq_true (by assumption))]) hB ha_)
  ·
   replace c16 := dF c16
   refine WC.skip (hK9 (Rg (Va (dx_add (r := (i : Int) + 1) rfl rfl rfl (wrap64_id (by omega))) rfl rfl (Pu rfl (Ni ?_)))))
   exact hK4 (i + 1) ⟨(by omega), (by rw [hv]; exact idxX_step e13 (decide_eq_false (by assumption))), hB, hL, h3⟩ (by omega) (by repeat first | exact trivial | exact And.intro rfl trivial | refine And.intro rfl ?_ | refine And.intro (congrArg (fun z : Int => some (Value.int .i64 z)) (by omega)) ?_)
 ·
  replace c8 := dF c8
  refine WC.exit ?_
  refine hK2 (Sq fun K18 hK18 => (Rg (Pu rfl (Ni (hK18 ?_)))))
  exact WC.ret fun a_ ha_ => hQ (cv_ret1 rfl (.tmp rfl) (by rw [hv, idxX_end (by omega)]) hB ha_)

set_option maxHeartbeats 1000000 in
theorem jGet_v (n : Nat) (t : Tr) (name : ByteArray) (w : World) (L : List Nat) (hL : LL L w) (ht : RdT (n + 1) L w t) : CV Try.prog 17 [.agg #[.int .i64 t.kind, .int .i64 t.num, .string t.text, t.nv, t.iv], .string name] w fun v W => v = .tuple #[.agg (encT (getT t name).1).toArray, .bool (getT t name).2] := by
 refine cv_enter (N := 30) (f := [(0, .agg #[.int .i64 t.kind, .int .i64 t.num, .string t.text, t.nv, t.iv]), (1, .string name)]) Try.func17 rfl rfl rfl rfl fun Q hQ hE => ?_
 have hB := Below.refl w.heap.size w
 refine Sq fun K1 hK1 => ?_
 obtain ⟨hnt, hit, hct⟩ := ht
 replace hct : RdTs n (L) w t.items := hct
 refine Rg ?_
 refine Ge (dx_box rfl rfl rfl) rfl rfl ?_
 rintro _ W2 ⟨rfl, k3, b4, z5⟩
 have l6 := hB.size
 replace hnt := hnt.more b4 (Nat.le_refl _)
 replace hit := hit.more b4 (Nat.le_refl _)
 replace hct := hct.more b4 (Nat.le_refl _)
 replace hB := below_then hB b4
 replace hL := LL.more hL z5
 refine Ge (dx_alloc rfl ty_zero_26 rfl) rfl rfl ?_
 rintro _ W7 ⟨rfl, k8, b9, z10⟩
 have l12 := hB.size
 replace hnt := hnt.more b9 (Nat.le_refl _)
 replace hit := hit.more b9 (Nat.le_refl _)
 replace hct := hct.more b9 (Nat.le_refl _)
 replace k3 := k3.below b9
 replace hB := below_then hB b9
 replace hL := LL.more hL z10
 refine Pu rfl (Ni (hK1 (Sq fun K13 hK13 => (Sq fun K14 hK14 => (Rg (Va (dx_fld (o1 := 0) rfl ty_fld_26_0_0 rfl rfl) rfl rfl (Va (dx_load rfl ty_one_3 rfl (k3.cell (k := 0) rfl)) rfl rfl ?_)))))))
 refine Va (dx_neq rfl rfl rfl) rfl rfl (Ni (hK14 ?_))
 refine WC.cond rfl (fun c15 => ?_) (fun c15 => ?_)
 ·
  replace c15 := bnot_t c15
  replace c15 := dF c15
  refine Sq fun K16 hK16 => (Rg (Va (dx_build rfl rfl (built_of_O (cs := zV) (by kernel_rfl) oc_nil)) rfl rfl ?_))
  refine WL.do (dx_store (cs' := zV) (vs := zV) rfl ty_size_26_5 rfl rfl rfl (oc_cons rfl (oc_cons rfl (oc_cons rfl (oc_cons rfl (oc_cons rfl oc_nil))))) k8 rfl (Nat.le_of_ble_eq_true rfl) rfl) rfl ?_
  rintro _ W17 ⟨k19, o18⟩
  clear k8
  replace hB := o18.below hB l12
  refine Pu rfl (Ni (hK16 ?_))
  exact WC.ret fun a_ ha_ => hQ (cv_ret2 rfl (.agg rfl ty_agg_26_5 k19.range rfl) (.tmp rfl) (by have e : getT t name = (noT, false) := (by unfold getT; rw [if_neg (by rintro ⟨q1, q2, q3⟩; first | (simp_all; done) | omega)]); rw [e] <;> rfl) hB ha_)
 ·
  replace c15 := bnot_f c15
  replace c15 := dT c15
  refine WC.skip (hK13 (Sq fun K20 hK20 => (Rg (Va (dx_fld (o1 := 3) rfl ty_fld_26_3_3 rfl rfl) rfl rfl (Va (dx_load rfl ty_one_23 rfl (k3.cell (k := 3) rfl)) rfl rfl (Pu rfl ?_))))))
  refine Ge (dx_cv rfl Try.func41 rfl rfl rfl (indexT_v t.names name _ W7 _ hL hnt)) rfl rfl ?_
  rintro _ W22 ⟨rfl, b21⟩
  replace hit := hit.below b21
  replace hct := hct.below b21
  replace k3 := k3.below b21
  replace k8 := k8.below b21
  replace hB := below_then hB b21
  refine Pu rfl (Ni (hK20 (Sq fun K23 hK23 => (Sq fun K24 hK24 => (Rg (Pu rfl (Va (dx_lss rfl rfl rfl) rfl rfl ?_)))))))
  refine Pu rfl ?_
  refine WL.split 17 rfl (fun g25 => ?_) (fun g25 => ?_)
  ·
   replace g25 := dT g25
   refine Of rfl (Of rfl (Of rfl (Of rfl (Of rfl (Pu rfl (Ni (hK24 ?_)))))))
   refine WC.condT rfl (Sq fun K26 hK26 => (Rg (Va (dx_build rfl rfl (built_of_O (cs := zV) (by kernel_rfl) oc_nil)) rfl rfl ?_)))
   refine WL.do (dx_store (cs' := zV) (vs := zV) rfl ty_size_26_5 rfl rfl rfl (oc_cons rfl (oc_cons rfl (oc_cons rfl (oc_cons rfl (oc_cons rfl oc_nil))))) k8 rfl (Nat.le_of_ble_eq_true rfl) rfl) rfl ?_
   rintro _ W27 ⟨k29, o28⟩
   clear k8
   replace hB := o28.below hB l12
   refine Pu rfl (Ni (hK26 ?_))
   exact WC.ret fun a_ ha_ => hQ (cv_ret2 rfl (.agg rfl ty_agg_26_5 k29.range rfl) (.tmp rfl) (by have e : getT t name = (noT, false) := (by unfold getT; rw [if_neg (by rintro ⟨q1, q2, q3⟩; first | (simp_all; done) | omega)]); rw [e] <;> rfl) hB ha_)
  ·
   replace g25 := dF g25
   refine Pu rfl (Va (dx_fld (o1 := 4) rfl ty_fld_26_4_4 rfl rfl) rfl rfl (Va (dx_load rfl ty_one_24 rfl (k3.cell (k := 4) rfl)) rfl rfl (Va (dx_lenFM rfl ty_slice_24 rfl hit) rfl rfl (Va (dx_geq rfl rfl rfl) rfl rfl (Pu rfl (Ni (hK24 ?_)))))))
   refine WC.cond rfl (fun c30 => ?_) (fun c30 => ?_)
   ·
    replace c30 := dT c30
    refine Sq fun K31 hK31 => (Rg (Va (dx_build rfl rfl (built_of_O (cs := zV) (by kernel_rfl) oc_nil)) rfl rfl ?_))
    refine WL.do (dx_store (cs' := zV) (vs := zV) rfl ty_size_26_5 rfl rfl rfl (oc_cons rfl (oc_cons rfl (oc_cons rfl (oc_cons rfl (oc_cons rfl oc_nil))))) k8 rfl (Nat.le_of_ble_eq_true rfl) rfl) rfl ?_
    rintro _ W32 ⟨k34, o33⟩
    clear k8
    replace hB := o33.below hB l12
    refine Pu rfl (Ni (hK31 ?_))
    exact WC.ret fun a_ ha_ => hQ (cv_ret2 rfl (.agg rfl ty_agg_26_5 k34.range rfl) (.tmp rfl) (by have e : getT t name = (noT, false) := (by unfold getT; rw [if_neg (by rintro ⟨q1, q2, q3⟩; first | (simp_all; done) | omega)]); rw [e] <;> rfl) hB ha_)
   ·
    replace c30 := dF c30
    refine WC.skip (hK23 (Sq fun K35 hK35 => ?_))
    obtain ⟨k0, hk0⟩ : ∃ k : Nat, idxX (fun x => decide (name = x)) t.names 0 = (k : Int) := ⟨(idxX (fun x => decide (name = x)) t.names 0).toNat, (Int.toNat_of_nonneg (by omega)).symm⟩
    have hkl : k0 < t.items.length := by omega
    obtain ⟨r0, hr0⟩ : ∃ x, t.items[k0]? = some x := ⟨_, List.getElem?_eq_getElem hkl⟩
    have hrr := hct r0 (List.mem_of_getElem? hr0)
    have hon0 := hrr.oc
    refine Rg (Va (dx_fld (o1 := 4) rfl ty_fld_26_4_4 rfl rfl) rfl rfl (Va (dx_load rfl ty_one_24 rfl (k3.cell (k := 4) rfl)) rfl rfl (Pu rfl ?_)))
    refine Ge (dx_idxF k0 rfl ty_slice_24 rfl rfl hit (by omega) (at_mapX hr0)) rfl rfl ?_
    rintro u36 _ ⟨rfl, p37⟩
    refine Va (dx_loadPN rfl ty_agg_26_5 rfl p37 rfl) rfl rfl ?_
    refine WL.do (dx_storeW (vs := encT r0) rfl ty_size_26_5 rfl rfl rfl hrr.oc k8 rfl rfl) rfl ?_
    rintro _ W38 ⟨k40, o39⟩
    clear k8
    replace hB := o39.below hB l12
    refine Pu rfl (Ni (hK35 ?_))
    exact WC.ret fun a_ ha_ => hQ (cv_ret2 rfl (.agg rfl ty_agg_26_5 k40.range rfl) (.tmp rfl) (by have e : getT t name = (r0, true) := (by unfold getT; rw [if_pos ⟨by assumption, by omega, by omega⟩, hk0, Int.toNat_natCast, hr0]; rfl); rw [e] <;> rfl) hB ha_)

def lbT (x : ByteArray) : List ByteArray → Nat
 | [] => 0
 | a :: l => if sless a x = true then lbT x l + 1 else 0
abbrev Rises (l : List ByteArray) : Prop := l.Pairwise (fun a b => sless a b = true)
theorem lbT_le (x : ByteArray) : ∀ l : List ByteArray, lbT x l ≤ l.length
 | [] => Nat.le_refl _
 | a :: l => by
  unfold lbT
  have := lbT_le x l
  split
  · simpa using this
  · exact Nat.zero_le _
theorem lbT_eq {x : ByteArray} : ∀ {l : List ByteArray} {i : Nat}, i ≤ l.length → (∀ q a, q < i → l[q]? = some a → sless a x = true) → (∀ a, l[i]? = some a → sless a x = false) → lbT x l = i
 | [], i, hi, _, _ => by simp at hi; rw [hi]; rfl
 | a :: l, 0, _, _, h2 => by
  have := h2 a rfl
  unfold lbT
  rw [this]; rfl
 | a :: l, i + 1, hi, h1, h2 => by
  unfold lbT
  rw [if_pos (h1 0 a (Nat.succ_pos _) rfl)]
  rw [lbT_eq (i := i) (by simpa using hi) (fun q b hq hb => h1 (q + 1) b (by omega) (by simpa using hb)) (fun b hb => h2 b (by simpa using hb))]
def insA {α : Type} (i : Nat) (x : α) (l : List α) : List α := l.take i ++ ([x] ++ l.drop i)
theorem insA_len {α : Type} {i : Nat} {x : α} {l : List α} (h : i ≤ l.length) : (insA i x l).length = l.length + 1 := by
 unfold insA
 rw [List.length_append, List.length_append, List.length_take, List.length_drop, List.length_singleton]
 omega
theorem insA_map {α β : Type} (f : α → β) (i : Nat) (x : α) (l : List α) : (insA i x l).map f = insA i (f x) (l.map f) := by
 unfold insA
 rw [List.map_append, List.map_append, List.map_take, List.map_drop]; rfl
theorem mem_insA {α : Type} {i : Nat} {x y : α} {l : List α} : y ∈ insA i x l ↔ y = x ∨ y ∈ l := by
  unfold insA
  rw [List.mem_append, List.mem_append, List.mem_singleton]
  constructor
  · rintro (h | h | h)
    · exact .inr (List.mem_of_mem_take h)
    · exact .inl h
    · exact .inr (List.mem_of_mem_drop h)
  · rintro (h | h)
    · exact .inr (.inl h)
    · rw [← List.take_append_drop i l, List.mem_append] at h
      rcases h with h | h
      · exact .inl h
      · exact .inr (.inr h)
theorem rises_less {l : List ByteArray} (h : Rises l) {i j : Nat} {a b : ByteArray} (hij : i < j) (ha : l[i]? = some a) (hb : l[j]? = some b) : sless a b = true := by
 obtain ⟨hi, rfl⟩ := List.getElem?_eq_some_iff.1 ha
 obtain ⟨hj, rfl⟩ := List.getElem?_eq_some_iff.1 hb
 exact List.pairwise_iff_getElem.1 h i j hi hj hij
theorem rises_ahead {l : List ByteArray} (h : Rises l) {x a b : ByteArray} {i q : Nat} (hq : q ≤ i) (ha : l[i]? = some a) (hx : sless a x = true) (hb : l[q]? = some b) : sless b x = true := by
 rcases Nat.lt_or_eq_of_le hq with h1 | rfl
 · exact sless_trans _ _ _ (rises_less h h1 hb ha) hx
 · rw [ha] at hb; cases hb; exact hx
theorem rises_behind {l : List ByteArray} (h : Rises l) {x a b : ByteArray} {i q : Nat} (hq : i ≤ q) (ha : l[i]? = some a) (hx : sless a x = false) (hb : l[q]? = some b) : sless b x = false := by
  rcases Nat.lt_or_eq_of_le hq with h1 | rfl
  · have := rises_less h h1 ha hb
    cases hbx : sless b x with
    | false => rfl
    | true => rw [sless_trans _ _ _ this hbx] at hx; cases hx
  · rw [ha] at hb; cases hb; exact hx
theorem lb_ahead {x : ByteArray} : ∀ {l : List ByteArray} {q : Nat} {a : ByteArray}, q < lbT x l → l[q]? = some a → sless a x = true
  | [], q, a, h, _ => by simp [lbT] at h
  | b :: l, q, a, h, ha => by
    unfold lbT at h
    split at h
    · rename_i hb
      cases q with
      | zero => simp at ha; rw [← ha]; exact hb
      | succ q => exact lb_ahead (l := l) (q := q) (by omega) (by simpa using ha)
    · omega
theorem lb_at {x : ByteArray} : ∀ {l : List ByteArray} {a : ByteArray}, l[lbT x l]? = some a → sless a x = false
  | [], a, h => by simp at h
  | b :: l, a, h => by
    unfold lbT at h
    split at h
    · exact lb_at (l := l) (by simpa using h)
    · rename_i hb
      simp at h
      rw [← h]
      exact Bool.not_eq_true _ ▸ hb
theorem rises_ins {x : ByteArray} {l : List ByteArray} (h : Rises l) (hn : l[lbT x l]? ≠ some x) : Rises (insA (lbT x l) x l) := by
  have e : l = l.take (lbT x l) ++ l.drop (lbT x l) := (List.take_append_drop _ _).symm
  have h' := h
  unfold Rises at h'
  rw [e, List.pairwise_append] at h'
  obtain ⟨h1, h2, h3⟩ := h'
  have hb : ∀ b ∈ l.drop (lbT x l), sless x b = true := fun b hb => by
    obtain ⟨q, hq, he⟩ := List.mem_iff_getElem.1 hb
    have hbq : l[lbT x l + q]? = some b := by rw [← List.getElem?_drop, List.getElem?_eq_getElem hq, he]
    have hlt : lbT x l < l.length := by rw [List.length_drop] at hq; omega
    have ha := List.getElem?_eq_getElem hlt
    have hf := rises_behind h (Nat.le_add_right _ q) ha (lb_at ha) hbq
    rcases sless_tri b x with ⟨p, _, _⟩ | ⟨_, p, _⟩ | rfl
    · rw [p] at hf; cases hf
    · exact p
    · have h0 : q = 0 := by
        rcases Nat.eq_zero_or_pos q with h0 | h0
        · exact h0
        · have := rises_less h (show lbT b l < lbT b l + q by omega) ha hbq
          rw [lb_at ha] at this; cases this
      rw [h0] at hbq
      exact absurd hbq hn
  unfold Rises insA
  rw [List.pairwise_append]
  refine ⟨h1, ?_, ?_⟩
  · rw [List.singleton_append, List.pairwise_cons]
    exact ⟨hb, h2⟩
  · intro a ha b hb'
    obtain ⟨q, hq, he⟩ := List.mem_iff_getElem.1 ha
    rw [List.length_take] at hq
    rw [List.getElem_take] at he
    have hax : sless a x = true := lb_ahead (l := l) (q := q) (by omega) (by rw [List.getElem?_eq_getElem (by omega), he])
    rw [List.singleton_append, List.mem_cons] at hb'
    rcases hb' with rfl | hb'
    · exact hax
    · exact sless_trans _ _ _ hax (hb b hb')
theorem del_tail {α : Type} {rs sp : List α} {i : Nat} (hi : i ≤ rs.length) : ((rs ++ sp).drop i).take (rs.length - i) = rs.drop i := by
 rw [List.drop_append_of_le_length hi, List.take_append_of_le_length (by rw [List.length_drop]; omega), List.take_of_length_le (by rw [List.length_drop]; omega)]
theorem ins_own_eq {s : Nat} {w : World} {rs vs tl : List (List Value)} {B i n c : Nat} (h : OwS s w (.slice (some ⟨B, 0, none⟩) (rs.take i ++ (vs ++ rs.drop i)).length ((rs.take i ++ (vs ++ rs.drop i)) ++ tl).length) (rs.take i ++ (vs ++ rs.drop i)) B) (hi : i ≤ rs.length) (hn : rs.length + vs.length = n) (hc : ((rs.take i ++ (vs ++ rs.drop i)) ++ tl).length = c) : OwS s w (.slice (some ⟨B, 0, none⟩) n c) (rs.take i ++ (vs ++ rs.drop i)) B := by
 have e : (rs.take i ++ (vs ++ rs.drop i)).length = n := by simp; omega
 rw [e, hc] at h
 exact h
theorem GrowB.new_or {B B' : Nat} {w w' : World} (h : GrowB B B' w w') : B' = B ∨ w.heap.size ≤ B' := h.new
set_option maxHeartbeats 1000000 in
theorem insertT_v (rs sp vs vp : List (List Value)) (i : Nat) (B C : Nat) (w : World) (L : List Nat) (hL : LL (B :: L) w) (hO : RwB 1 w B (rs ++ sp)) (hV : RwB 1 w C (vs ++ vp)) (hCB : C ≠ B) (hi : i ≤ rs.length) (hvs : vs ≠ []) (hsm : (rs.length + vs.length) * 16 ≤ 140737488355328) (hone : ∀ r ∈ rs, ∀ u ∈ r, u.oneCell' = true) (hvone : ∀ r ∈ vs, ∀ u ∈ r, u.oneCell' = true) : CW Try.prog 50 [.slice (some ⟨B, 0, none⟩) rs.length ((rs ++ sp).length), .int .i64 (i : Int), .slice (some ⟨C, 0, none⟩) vs.length ((vs ++ vp).length)] w B fun v W => ∃ B', OwS 1 W v (rs.take i ++ (vs ++ rs.drop i)) B' ∧ (B' = B ∨ w.heap.size ≤ B') := by
 refine cw_enter (N := 95) (f := [(0, .slice (some ⟨B, 0, none⟩) rs.length ((rs ++ sp).length)), (1, .int .i64 (i : Int)), (2, .slice (some ⟨C, 0, none⟩) vs.length ((vs ++ vp).length))]) Try.func50 rfl rfl rfl rfl fun Q hQ hE => ?_
 have hB := Chg.refl B w
 have hlen : (rs ++ sp).length = rs.length + sp.length := List.length_append
 have hm0 := List.length_pos_iff.2 hvs
 refine Sq fun K1 hK1 => (Rg (Pu rfl (Ni (hK1 (Sq fun K2 hK2 => (Rg (Pu rfl ?_)))))))
 refine Pu rfl (Va (dx_slL i rfl ty_slice_23 rfl rfl rfl (by omega) (by omega)) rfl rfl (Ni (hK2 (Sq fun K3 hK3 => (Rg (Pu rfl (Va (dx_len rfl Try.underlying23 rfl) rfl rfl ?_)))))))
 refine Pu rfl (Ni (hK3 (Sq fun K4 hK4 => (Sq fun K5 hK5 => (Rg (Pu rfl (Va (dx_eql rfl rfl rfl) rfl rfl ?_)))))))
 refine Ni (hK5 ?_)
 refine WC.cond rfl (fun c6 => ?_) (fun c6 => ?_)
 ·
  replace c6 := dT c6
  exfalso; omega
 ·
  replace c6 := dF c6
  refine WC.skip (hK4 (Sq fun K7 hK7 => (Rg (Pu rfl (Va (dx_len rfl Try.underlying23 rfl) rfl rfl (Pu rfl (Ni ?_)))))))
  refine hK7 (Sq fun K8 hK8 => (Sq fun K9 hK9 => (Rg (Pu rfl (Pu rfl (Va (dx_eql rfl rfl rfl) rfl rfl (Ni ?_)))))))
  refine hK9 ?_
  refine WC.cond rfl (fun c10 => ?_) (fun c10 => ?_)
  ·
   replace c10 := dT c10
   refine Sq fun K11 hK11 => (Rg (Pu rfl (Pu rfl ?_)))
   refine Ge (dx_apO' (rs := rs) (news := vs) rfl ty_ap_23 rfl rfl hO.own (hV.rd (L := []) (by simp)) hvone (by unfold maxLen; omega) (by omega)) rfl rfl ?_
   rintro u16 W12 ⟨B13, k14, g15⟩
   replace hB := hB.grow g15 (.inl rfl)
   refine Pu rfl (Ni (hK11 ?_))
   exact WC.ret fun a_ ha_ => hQ (cw_ret1 rfl (.tmp rfl) ⟨B13, (by have e : i = rs.length := (by omega); rw [e, List.take_length, List.drop_length, List.append_nil]; exact k14), g15.new_or⟩ hB ha_)
  ·
   replace c10 := dF c10
   refine WC.skip (hK8 (Sq fun K17 hK17 => (Sq fun K18 hK18 => (Rg (Pu rfl (Pu rfl (Va (dx_add (r := ((rs.length + vs.length : Nat) : Int)) rfl rfl rfl (by rw [wrap64_id (by omega)]; omega)) rfl rfl ?_)))))))
   refine Pu rfl (Va (dx_cap rfl Try.underlying23 rfl) rfl rfl (Va (dx_gtr rfl rfl rfl) rfl rfl (Ni (hK18 ?_))))
   refine WC.cond rfl (fun c19 => ?_) (fun c19 => ?_)
   ·
    replace c19 := dT c19
    refine Sq fun K20 hK20 => (Rg (Pu rfl (Pu rfl (Va (dx_slH i rfl ty_slice_23 rfl rfl rfl (by omega)) rfl rfl (Pu rfl (Pu rfl (Va (dx_add (r := ((rs.length + vs.length : Nat) : Int)) rfl rfl rfl (by rw [wrap64_id (by omega)]; omega)) rfl rfl ?_)))))))
    refine Pu rfl (Va (dx_sub (r := ((rs.length + vs.length - i : Nat) : Int)) rfl rfl rfl (by rw [wrap64_id (by omega)]; omega)) rfl rfl ?_)
    refine Ge (dx_apZ (rs.length + vs.length - i) (R := (rs ++ sp)) rfl ty_ap_23 Try.underlying3 rfl rfl rfl hO (by omega) (by omega) (by unfold maxLen; omega) (by omega)) rfl rfl ?_
    rintro _ W1 ⟨Z, rfl, hz1, hz2, kZ, bZ, zZ⟩
    have nB : B ≠ w.heap.size := Nat.ne_of_lt hO.lt
    have nC : C ≠ w.heap.size := Nat.ne_of_lt hV.lt
    replace hO := hO.below bZ
    replace hV := hV.below bZ
    replace hB := hB.thenB bZ
    have hz3 : Z.take i = rs.take i := (by rw [hz2]; exact List.take_append_of_le_length hi)
    have ez : i + (rs.length + vs.length - i) = rs.length + vs.length := (by omega)
    rw [ez] at hz1
    refine Pu rfl (Ni (hK20 (Sq fun K21 hK21 => (Rg (Pu rfl (Pu rfl (Va (dx_slL i rfl ty_slice_23 rfl rfl rfl (by omega) (by omega)) rfl rfl ?_)))))))
    refine Pu rfl ?_
    refine Ge (dx_cpV (B := w.heap.size) (R := Z) (news := vs) (lo := i) (n := (i + (rs.length + vs.length - i) - i)) rfl ty_slice_23 rfl (fun hn => by rw [offV_in (n := (i + (rs.length + vs.length - i) - i)) hn (by omega)]; simp) rfl kZ (hV.rd (L := []) (by simp)) (fun r hr => hvone r (List.mem_of_mem_take hr)) (by omega)) rfl rfl ?_
    rintro _ W22 ⟨rfl, k23, o24⟩
    replace hB := hB.only o24 (.inr (Nat.le_refl _))
    replace hO := hO.other o24 nB
    rw [List.take_of_length_le (l := vs) (by omega), show min vs.length (i + (rs.length + vs.length - i) - i) = vs.length by omega] at k23
    have l3 : (Z.take i ++ (vs ++ Z.drop (i + vs.length))).length = Z.length := (by simp; omega)
    have hg := ins_grow (vs := vs) hi hz1 hz3
    simp only at hg
    refine Ni (hK21 (Sq fun K25 hK25 => ?_))
    refine WC.drawM 8 [(some 46, .is (.slice (some ⟨w.heap.size, 0, none⟩) (i + (rs.length + vs.length - i)) Z.length)), (some 47, .is (.int .i64 (i : Int))), (some 48, .is (.int .i64 (vs.length : Int))), (some 49, .is (.int .i64 ((i + vs.length : Nat) : Int))), (some 50, .is (.slice (some ⟨w.heap.size, (offV Z.length (i + vs.length) 0 1), none⟩) ((i + (rs.length + vs.length - i)) - (i + vs.length)) (Z.length - (i + vs.length)))), (some 51, .is (.slice (some ⟨B, 0, none⟩) rs.length ((rs ++ sp).length))), (some 52, .is (.int .i64 (i : Int))), (some 53, .is (.slice (some ⟨B, (offV ((rs ++ sp).length) i 0 1), none⟩) (rs.length - i) ((rs ++ sp).length - i)))] [[], [], [], [1, 2], [0, 3], [], [], [5, 6]] (by kernel_rfl) (by kernel_rfl) (by kernel_rfl) (by kernel_rfl) (by kernel_rfl) (by kernel_rfl) (by kernel_rfl) (by exact trivial) ?_ ?_
    ·
     refine Dc (fun Wd hd => ?_) ?_
     ·
      exact Dd (dx_move rfl rfl) rfl
     refine Dc (fun Wd hd => ?_) ?_
     ·
      exact Dd (dx_move rfl rfl) rfl
     refine Dc (fun Wd hd => ?_) ?_
     ·
      exact Dd (dx_move rfl rfl) rfl
     refine Dc (fun Wd hd => ?_) ?_
     ·
      exact Dd (dx_add (r := ((i + vs.length : Nat) : Int)) rfl rfl rfl (by rw [wrap64_id (by omega)]; omega)) rfl
     refine Dc (fun Wd hd => ?_) ?_
     ·
      exact Dd (dx_slL (i + vs.length) rfl ty_slice_23 rfl rfl rfl (by omega) (by omega)) rfl
     refine Dc (fun Wd hd => ?_) ?_
     ·
      exact Dd (dx_move rfl rfl) rfl
     refine Dc (fun Wd hd => ?_) ?_
     ·
      exact Dd (dx_move rfl rfl) rfl
     refine Dc (fun Wd hd => ?_) ?_
     ·
      exact Dd (dx_slL i rfl ty_slice_23 rfl rfl rfl (by omega) (by omega)) rfl
     exact trivial
    ·
     intro W26 b27
     replace hO := hO.below b27
     replace k23 := k23.below b27
     replace hB := hB.thenB b27
     refine Ge (dx_cpV (B := w.heap.size) (R := (Z.take i ++ (vs ++ Z.drop (i + vs.length)))) (news := (((rs ++ sp).drop i).take (rs.length - i))) (lo := (i + vs.length)) (n := (i + (rs.length + vs.length - i) - (i + vs.length))) rfl ty_slice_23 rfl (fun hn => by rw [offV_in (n := (i + (rs.length + vs.length - i) - (i + vs.length))) hn (by omega)]; simp) rfl k23 (hO.part (L := []) (lo := i) (n := rs.length - i) (by simp) (fun hn => by rw [offV_in (n := rs.length - i) hn (by rw [hlen]; omega)]; simp) (by rw [hlen]; omega) (by rw [hlen]; omega)) (fun r hr => hone r (mem_tail hi (List.mem_of_mem_take hr))) (by omega)) rfl rfl ?_
     rintro _ W28 ⟨rfl, k29, o30⟩
     replace hB := hB.only o30 (.inr (Nat.le_refl _))
     rw [show ((rs ++ sp).drop i).take (rs.length - i) = rs.drop i from del_tail hi] at k29
     rw [List.take_of_length_le (l := rs.drop i) (by rw [List.length_drop]; omega), List.length_drop, show min (rs.length - i) (i + (rs.length + vs.length - i) - (i + vs.length)) = rs.length - i by omega, hg] at k29
     have hown := k29.own
     refine Ni (hK25 (Sq fun K31 hK31 => (Rg (Pu rfl (Pu rfl (Ni (hK31 ?_)))))))
     exact WC.ret fun a_ ha_ => hQ (cw_ret1 rfl (.tmp rfl) ⟨w.heap.size, ins_own_eq hown hi ez.symm (by simp; omega), .inr (Nat.le_refl _)⟩ hB ha_)
   ·
    replace c19 := dF c19
    refine WC.skip (hK17 (Sq fun K32 hK32 => (Rg (Pu rfl (Pu rfl (Pu rfl (Va (dx_add (r := ((rs.length + vs.length : Nat) : Int)) rfl rfl rfl (by rw [wrap64_id (by omega)]; omega)) rfl rfl ?_)))))))
    refine Va (dx_slH (rs.length + vs.length) rfl ty_slice_23 rfl rfl rfl (by omega)) rfl rfl (Pu rfl (Ni (hK32 (Sq fun K33 hK33 => (Sq fun K34 hK34 => (Rg (Pu rfl ?_)))))))
    refine Pu rfl (Pu rfl (Pu rfl (Va (dx_add (r := ((i + vs.length : Nat) : Int)) rfl rfl rfl (by rw [wrap64_id (by omega)]; omega)) rfl rfl (Va (dx_slL (i + vs.length) rfl ty_slice_23 rfl rfl rfl (by omega) (by omega)) rfl rfl (Va (dx_ovl (U := (rs ++ sp)) (V := (vs ++ vp)) (s := 1) (tR := 4) rfl Try.func76 (by kernel_rfl) (by kernel_rfl) (by kernel_rfl) (by kernel_rfl) ty_slice_23 rfl rfl hV hO hCB (by intro e; rw [e] at hlen; simp only [List.length_nil] at hlen; omega)) rfl rfl (Va (dx_not rfl rfl) rfl rfl (Ni ?_)))))))
    refine hK34 (WC.condT rfl (Sq fun K35 hK35 => ?_))
    refine WC.drawM 8 [(some 69, .is (.slice (some ⟨B, 0, none⟩) (rs.length + vs.length) ((rs ++ sp).length))), (some 70, .is (.int .i64 (i : Int))), (some 71, .is (.int .i64 (vs.length : Int))), (some 72, .is (.int .i64 ((i + vs.length : Nat) : Int))), (some 73, .is (.slice (some ⟨B, (offV ((rs ++ sp).length) (i + vs.length) 0 1), none⟩) ((rs.length + vs.length) - (i + vs.length)) ((rs ++ sp).length - (i + vs.length)))), (some 74, .is (.slice (some ⟨B, 0, none⟩) (rs.length + vs.length) ((rs ++ sp).length))), (some 75, .is (.int .i64 (i : Int))), (some 76, .is (.slice (some ⟨B, (offV ((rs ++ sp).length) i 0 1), none⟩) ((rs.length + vs.length) - i) ((rs ++ sp).length - i)))] [[], [], [], [1, 2], [0, 3], [], [], [5, 6]] (by kernel_rfl) (by kernel_rfl) (by kernel_rfl) (by kernel_rfl) (by kernel_rfl) (by kernel_rfl) (by kernel_rfl) (by exact trivial) ?_ ?_
    ·
     refine Dc (fun Wd hd => ?_) ?_
     ·
      exact Dd (dx_move rfl rfl) rfl
     refine Dc (fun Wd hd => ?_) ?_
     ·
      exact Dd (dx_move rfl rfl) rfl
     refine Dc (fun Wd hd => ?_) ?_
     ·
      exact Dd (dx_move rfl rfl) rfl
     refine Dc (fun Wd hd => ?_) ?_
     ·
      exact Dd (dx_add (r := ((i + vs.length : Nat) : Int)) rfl rfl rfl (by rw [wrap64_id (by omega)]; omega)) rfl
     refine Dc (fun Wd hd => ?_) ?_
     ·
      exact Dd (dx_slL (i + vs.length) rfl ty_slice_23 rfl rfl rfl (by omega) (by omega)) rfl
     refine Dc (fun Wd hd => ?_) ?_
     ·
      exact Dd (dx_move rfl rfl) rfl
     refine Dc (fun Wd hd => ?_) ?_
     ·
      exact Dd (dx_move rfl rfl) rfl
     refine Dc (fun Wd hd => ?_) ?_
     ·
      exact Dd (dx_slL i rfl ty_slice_23 rfl rfl rfl (by omega) (by omega)) rfl
     exact trivial
    ·
     intro W36 b37
     replace hO := hO.below b37
     replace hV := hV.below b37
     replace hB := hB.thenB b37
     refine Ge (dx_cpV (B := B) (R := (rs ++ sp)) (news := (((rs ++ sp).drop i).take (rs.length + vs.length - i))) (lo := (i + vs.length)) (n := (rs.length + vs.length - (i + vs.length))) rfl ty_slice_23 rfl (fun hn => by rw [offV_in (n := (rs.length + vs.length - (i + vs.length))) hn (by omega)]; simp) rfl hO (hO.part (L := []) (lo := i) (n := rs.length + vs.length - i) (by simp) (fun hn => by rw [offV_in (n := rs.length + vs.length - i) hn (by omega)]; simp) (by omega) (by omega)) (fun r hr => hone r (mem_tail2 hi (by omega) (by omega) hr)) (by omega)) rfl rfl ?_
     rintro _ W38 ⟨rfl, k39, o40⟩
     replace hB := hB.only o40 (.inl rfl)
     replace hV := hV.other o40 hCB
     have ll : (((rs ++ sp).drop i).take (rs.length + vs.length - i)).length = rs.length + vs.length - i := (by rw [List.length_take, List.length_drop]; omega)
     rw [ll, show min (rs.length + vs.length - i) (rs.length + vs.length - (i + vs.length)) = rs.length - i by omega, show rs.length + vs.length - (i + vs.length) = rs.length - i by omega] at k39
     have l3 : ((rs ++ sp).take (i + vs.length) ++ ((((rs ++ sp).drop i).take (rs.length + vs.length - i)).take (rs.length - i) ++ (rs ++ sp).drop (i + vs.length + (rs.length - i)))).length = (rs ++ sp).length := (by simp; omega)
     have hg := ins_room (vs := vs) (sp := sp) hi (by omega)
     simp only at hg
     refine Ni (hK35 (Sq fun K41 hK41 => (Rg (Pu rfl (Pu rfl (Va (dx_slL i rfl ty_slice_23 rfl rfl rfl (by omega) (by omega)) rfl rfl (Pu rfl ?_)))))))
     refine Ge (dx_cpV (B := B) (R := ((rs ++ sp).take (i + vs.length) ++ ((((rs ++ sp).drop i).take (rs.length + vs.length - i)).take (rs.length - i) ++ (rs ++ sp).drop (i + vs.length + (rs.length - i))))) (news := vs) (lo := i) (n := (rs.length + vs.length - i)) rfl ty_slice_23 rfl (fun hn => by rw [offV_in (n := (rs.length + vs.length - i)) hn (by omega)]; simp) rfl k39 (hV.rd (L := []) (by simp)) (fun r hr => hvone r (List.mem_of_mem_take hr)) (by omega)) rfl rfl ?_
     rintro _ W42 ⟨rfl, k43, o44⟩
     replace hB := hB.only o44 (.inl rfl)
     rw [List.take_of_length_le (l := vs) (by omega), show min vs.length (rs.length + vs.length - i) = vs.length by omega, hg] at k43
     have hown := k43.own
     refine Ni (hK41 (Sq fun K45 hK45 => (Rg (Pu rfl (Pu rfl (Ni (hK45 ?_)))))))
     exact WC.ret fun a_ ha_ => hQ (cw_ret1 rfl (.tmp rfl) ⟨B, ins_own_eq hown hi rfl (by simp; omega), .inl rfl⟩ hB ha_)

set_option maxHeartbeats 1000000 in
theorem insertNT_v (vs vp : List (List Value)) (C : Nat) (w : World) (L : List Nat) (hL : LL L w)   (hV : RwB 1 w C (vs ++ vp)) (hvs : vs ≠ []) (hsm : vs.length * 16 ≤ 140737488355328) : CV Try.prog 50 [.slice none 0 0, .int .i64 0, .slice (some ⟨C, 0, none⟩) vs.length ((vs ++ vp).length)] w fun v W => ∃ B, w.heap.size ≤ B ∧ OwS 1 W v vs B := by
 refine cv_enter (N := 95) (f := [(0, .slice none 0 0), (1, .int .i64 0), (2, .slice (some ⟨C, 0, none⟩) vs.length ((vs ++ vp).length))]) Try.func50 rfl rfl rfl rfl fun Q hQ hE => ?_
 have hB := Below.refl w.heap.size w
 have hm0 := List.length_pos_iff.2 hvs
 refine Sq fun K1 hK1 => (Rg (Pu rfl (Ni (hK1 (Sq fun K2 hK2 => (Rg (Pu rfl ?_)))))))
 refine Pu rfl (Va (dx_slN rfl ty_slice_23 rfl rfl) rfl rfl (Ni (hK2 (Sq fun K3 hK3 => (Rg (Pu rfl (Va (dx_len rfl Try.underlying23 rfl) rfl rfl ?_)))))))
 refine Pu rfl (Ni (hK3 (Sq fun K4 hK4 => (Sq fun K5 hK5 => (Rg (Pu rfl (Va (dx_eql rfl rfl rfl) rfl rfl ?_)))))))
 refine Ni (hK5 ?_)
 refine WC.cond rfl (fun c6 => ?_) (fun c6 => ?_)
 ·
  replace c6 := dT c6
  exfalso; omega
 ·
  replace c6 := dF c6
  refine WC.skip (hK4 (Sq fun K7 hK7 => (Rg (Pu rfl (Va (dx_len rfl Try.underlying23 rfl) rfl rfl (Pu rfl (Ni ?_)))))))
  refine hK7 (Sq fun K8 hK8 => (Sq fun K9 hK9 => (Rg (Pu rfl (Pu rfl (Va (dx_eql rfl rfl rfl) rfl rfl (Ni ?_)))))))
  refine hK9 ?_
  refine WC.cond rfl (fun c10 => ?_) (fun c10 => ?_)
  ·
   replace c10 := dT c10
   refine Sq fun K11 hK11 => (Rg (Pu rfl (Pu rfl ?_)))
   refine Ge (dx_apF (rs := []) (news := vs) rfl ty_ap_23 rfl rfl (RdF.nil (L := []) (by decide)) (hV.rd (L := []) (by simp)) hvs (by simp; unfold maxLen; omega) (by simp; omega)) rfl rfl ?_
   rintro u16 W12 ⟨k13, b14, z15⟩
   replace hB := below_then hB b14
   refine Pu rfl (Ni (hK11 ?_))
   exact WC.ret fun a_ ha_ => hQ (cv_ret1 rfl (.tmp rfl) ⟨w.heap.size, Nat.le_refl _, k13⟩ hB ha_)
  ·
   replace c10 := dF c10
   exact absurd rfl c10

set_option maxHeartbeats 1000000 in
theorem insertV_v (rs sp vs vp : List (List Value)) (i : Nat) (B C : Nat) (w : World) (L : List Nat) (hL : LL (B :: L) w) (hO : RwB 5 w B (rs ++ sp)) (hV : RwB 5 w C (vs ++ vp)) (hCB : C ≠ B) (hi : i ≤ rs.length) (hvs : vs ≠ []) (hsm : (rs.length + vs.length) * 80 ≤ 140737488355328) (hone : ∀ r ∈ rs, ∀ u ∈ r, u.oneCell' = true) (hvone : ∀ r ∈ vs, ∀ u ∈ r, u.oneCell' = true) : CW Try.prog 51 [.slice (some ⟨B, 0, none⟩) rs.length ((rs ++ sp).length), .int .i64 (i : Int), .slice (some ⟨C, 0, none⟩) vs.length ((vs ++ vp).length)] w B fun v W => ∃ B', OwS 5 W v (rs.take i ++ (vs ++ rs.drop i)) B' ∧ (B' = B ∨ w.heap.size ≤ B') := by
 refine cw_enter (N := 95) (f := [(0, .slice (some ⟨B, 0, none⟩) rs.length ((rs ++ sp).length)), (1, .int .i64 (i : Int)), (2, .slice (some ⟨C, 0, none⟩) vs.length ((vs ++ vp).length))]) Try.func51 rfl rfl rfl rfl fun Q hQ hE => ?_
 have hB := Chg.refl B w
 have hlen : (rs ++ sp).length = rs.length + sp.length := List.length_append
 have hm0 := List.length_pos_iff.2 hvs
 refine Sq fun K1 hK1 => (Rg (Pu rfl (Ni (hK1 (Sq fun K2 hK2 => (Rg (Pu rfl ?_)))))))
 refine Pu rfl (Va (dx_slL i rfl ty_slice_24 rfl rfl rfl (by omega) (by omega)) rfl rfl (Ni (hK2 (Sq fun K3 hK3 => (Rg (Pu rfl (Va (dx_len rfl Try.underlying24 rfl) rfl rfl ?_)))))))
 refine Pu rfl (Ni (hK3 (Sq fun K4 hK4 => (Sq fun K5 hK5 => (Rg (Pu rfl (Va (dx_eql rfl rfl rfl) rfl rfl ?_)))))))
 refine Ni (hK5 ?_)
 refine WC.cond rfl (fun c6 => ?_) (fun c6 => ?_)
 ·
  replace c6 := dT c6
  exfalso; omega
 ·
  replace c6 := dF c6
  refine WC.skip (hK4 (Sq fun K7 hK7 => (Rg (Pu rfl (Va (dx_len rfl Try.underlying24 rfl) rfl rfl (Pu rfl (Ni ?_)))))))
  refine hK7 (Sq fun K8 hK8 => (Sq fun K9 hK9 => (Rg (Pu rfl (Pu rfl (Va (dx_eql rfl rfl rfl) rfl rfl (Ni ?_)))))))
  refine hK9 ?_
  refine WC.cond rfl (fun c10 => ?_) (fun c10 => ?_)
  ·
   replace c10 := dT c10
   refine Sq fun K11 hK11 => (Rg (Pu rfl (Pu rfl ?_)))
   refine Ge (dx_apO' (rs := rs) (news := vs) rfl ty_ap_24 rfl rfl hO.own (hV.rd (L := []) (by simp)) hvone (by unfold maxLen; omega) (by omega)) rfl rfl ?_
   rintro u16 W12 ⟨B13, k14, g15⟩
   replace hB := hB.grow g15 (.inl rfl)
   refine Pu rfl (Ni (hK11 ?_))
   exact WC.ret fun a_ ha_ => hQ (cw_ret1 rfl (.tmp rfl) ⟨B13, (by have e : i = rs.length := (by omega); rw [e, List.take_length, List.drop_length, List.append_nil]; exact k14), g15.new_or⟩ hB ha_)
  ·
   replace c10 := dF c10
   refine WC.skip (hK8 (Sq fun K17 hK17 => (Sq fun K18 hK18 => (Rg (Pu rfl (Pu rfl (Va (dx_add (r := ((rs.length + vs.length : Nat) : Int)) rfl rfl rfl (by rw [wrap64_id (by omega)]; omega)) rfl rfl ?_)))))))
   refine Pu rfl (Va (dx_cap rfl Try.underlying24 rfl) rfl rfl (Va (dx_gtr rfl rfl rfl) rfl rfl (Ni (hK18 ?_))))
   refine WC.cond rfl (fun c19 => ?_) (fun c19 => ?_)
   ·
    replace c19 := dT c19
    refine Sq fun K20 hK20 => (Rg (Pu rfl (Pu rfl (Va (dx_slH i rfl ty_slice_24 rfl rfl rfl (by omega)) rfl rfl (Pu rfl (Pu rfl (Va (dx_add (r := ((rs.length + vs.length : Nat) : Int)) rfl rfl rfl (by rw [wrap64_id (by omega)]; omega)) rfl rfl ?_)))))))
    refine Pu rfl (Va (dx_sub (r := ((rs.length + vs.length - i : Nat) : Int)) rfl rfl rfl (by rw [wrap64_id (by omega)]; omega)) rfl rfl ?_)
    refine Ge (dx_apZ (rs.length + vs.length - i) (R := (rs ++ sp)) rfl ty_ap_24 Try.underlying3 rfl rfl rfl hO (by omega) (by omega) (by unfold maxLen; omega) (by omega)) rfl rfl ?_
    rintro _ W1 ⟨Z, rfl, hz1, hz2, kZ, bZ, zZ⟩
    have nB : B ≠ w.heap.size := Nat.ne_of_lt hO.lt
    have nC : C ≠ w.heap.size := Nat.ne_of_lt hV.lt
    replace hO := hO.below bZ
    replace hV := hV.below bZ
    replace hB := hB.thenB bZ
    have hz3 : Z.take i = rs.take i := (by rw [hz2]; exact List.take_append_of_le_length hi)
    have ez : i + (rs.length + vs.length - i) = rs.length + vs.length := (by omega)
    rw [ez] at hz1
    refine Pu rfl (Ni (hK20 (Sq fun K21 hK21 => (Rg (Pu rfl (Pu rfl (Va (dx_slL i rfl ty_slice_24 rfl rfl rfl (by omega) (by omega)) rfl rfl ?_)))))))
    refine Pu rfl ?_
    refine Ge (dx_cpV (B := w.heap.size) (R := Z) (news := vs) (lo := i) (n := (i + (rs.length + vs.length - i) - i)) rfl ty_slice_24 rfl (fun hn => by rw [offV_in (n := (i + (rs.length + vs.length - i) - i)) hn (by omega)]; simp) rfl kZ (hV.rd (L := []) (by simp)) (fun r hr => hvone r (List.mem_of_mem_take hr)) (by omega)) rfl rfl ?_
    rintro _ W22 ⟨rfl, k23, o24⟩
    replace hB := hB.only o24 (.inr (Nat.le_refl _))
    replace hO := hO.other o24 nB
    rw [List.take_of_length_le (l := vs) (by omega), show min vs.length (i + (rs.length + vs.length - i) - i) = vs.length by omega] at k23
    have l3 : (Z.take i ++ (vs ++ Z.drop (i + vs.length))).length = Z.length := (by simp; omega)
    have hg := ins_grow (vs := vs) hi hz1 hz3
    simp only at hg
    refine Ni (hK21 (Sq fun K25 hK25 => ?_))
    refine WC.drawM 8 [(some 46, .is (.slice (some ⟨w.heap.size, 0, none⟩) (i + (rs.length + vs.length - i)) Z.length)), (some 47, .is (.int .i64 (i : Int))), (some 48, .is (.int .i64 (vs.length : Int))), (some 49, .is (.int .i64 ((i + vs.length : Nat) : Int))), (some 50, .is (.slice (some ⟨w.heap.size, (offV Z.length (i + vs.length) 0 5), none⟩) ((i + (rs.length + vs.length - i)) - (i + vs.length)) (Z.length - (i + vs.length)))), (some 51, .is (.slice (some ⟨B, 0, none⟩) rs.length ((rs ++ sp).length))), (some 52, .is (.int .i64 (i : Int))), (some 53, .is (.slice (some ⟨B, (offV ((rs ++ sp).length) i 0 5), none⟩) (rs.length - i) ((rs ++ sp).length - i)))] [[], [], [], [1, 2], [0, 3], [], [], [5, 6]] (by kernel_rfl) (by kernel_rfl) (by kernel_rfl) (by kernel_rfl) (by kernel_rfl) (by kernel_rfl) (by kernel_rfl) (by exact trivial) ?_ ?_
    ·
     refine Dc (fun Wd hd => ?_) ?_
     ·
      exact Dd (dx_move rfl rfl) rfl
     refine Dc (fun Wd hd => ?_) ?_
     ·
      exact Dd (dx_move rfl rfl) rfl
     refine Dc (fun Wd hd => ?_) ?_
     ·
      exact Dd (dx_move rfl rfl) rfl
     refine Dc (fun Wd hd => ?_) ?_
     ·
      exact Dd (dx_add (r := ((i + vs.length : Nat) : Int)) rfl rfl rfl (by rw [wrap64_id (by omega)]; omega)) rfl
     refine Dc (fun Wd hd => ?_) ?_
     ·
      exact Dd (dx_slL (i + vs.length) rfl ty_slice_24 rfl rfl rfl (by omega) (by omega)) rfl
     refine Dc (fun Wd hd => ?_) ?_
     ·
      exact Dd (dx_move rfl rfl) rfl
     refine Dc (fun Wd hd => ?_) ?_
     ·
      exact Dd (dx_move rfl rfl) rfl
     refine Dc (fun Wd hd => ?_) ?_
     ·
      exact Dd (dx_slL i rfl ty_slice_24 rfl rfl rfl (by omega) (by omega)) rfl
     exact trivial
    ·
     intro W26 b27
     replace hO := hO.below b27
     replace k23 := k23.below b27
     replace hB := hB.thenB b27
     refine Ge (dx_cpV (B := w.heap.size) (R := (Z.take i ++ (vs ++ Z.drop (i + vs.length)))) (news := (((rs ++ sp).drop i).take (rs.length - i))) (lo := (i + vs.length)) (n := (i + (rs.length + vs.length - i) - (i + vs.length))) rfl ty_slice_24 rfl (fun hn => by rw [offV_in (n := (i + (rs.length + vs.length - i) - (i + vs.length))) hn (by omega)]; simp) rfl k23 (hO.part (L := []) (lo := i) (n := rs.length - i) (by simp) (fun hn => by rw [offV_in (n := rs.length - i) hn (by rw [hlen]; omega)]; simp) (by rw [hlen]; omega) (by rw [hlen]; omega)) (fun r hr => hone r (mem_tail hi (List.mem_of_mem_take hr))) (by omega)) rfl rfl ?_
     rintro _ W28 ⟨rfl, k29, o30⟩
     replace hB := hB.only o30 (.inr (Nat.le_refl _))
     rw [show ((rs ++ sp).drop i).take (rs.length - i) = rs.drop i from del_tail hi] at k29
     rw [List.take_of_length_le (l := rs.drop i) (by rw [List.length_drop]; omega), List.length_drop, show min (rs.length - i) (i + (rs.length + vs.length - i) - (i + vs.length)) = rs.length - i by omega, hg] at k29
     have hown := k29.own
     refine Ni (hK25 (Sq fun K31 hK31 => (Rg (Pu rfl (Pu rfl (Ni (hK31 ?_)))))))
     exact WC.ret fun a_ ha_ => hQ (cw_ret1 rfl (.tmp rfl) ⟨w.heap.size, ins_own_eq hown hi ez.symm (by simp; omega), .inr (Nat.le_refl _)⟩ hB ha_)
   ·
    replace c19 := dF c19
    refine WC.skip (hK17 (Sq fun K32 hK32 => (Rg (Pu rfl (Pu rfl (Pu rfl (Va (dx_add (r := ((rs.length + vs.length : Nat) : Int)) rfl rfl rfl (by rw [wrap64_id (by omega)]; omega)) rfl rfl ?_)))))))
    refine Va (dx_slH (rs.length + vs.length) rfl ty_slice_24 rfl rfl rfl (by omega)) rfl rfl (Pu rfl (Ni (hK32 (Sq fun K33 hK33 => (Sq fun K34 hK34 => (Rg (Pu rfl ?_)))))))
    refine Pu rfl (Pu rfl (Pu rfl (Va (dx_add (r := ((i + vs.length : Nat) : Int)) rfl rfl rfl (by rw [wrap64_id (by omega)]; omega)) rfl rfl (Va (dx_slL (i + vs.length) rfl ty_slice_24 rfl rfl rfl (by omega) (by omega)) rfl rfl (Va (dx_ovl (U := (rs ++ sp)) (V := (vs ++ vp)) (s := 5) (tR := 4) rfl Try.func78 (by kernel_rfl) (by kernel_rfl) (by kernel_rfl) (by kernel_rfl) ty_slice_24 rfl rfl hV hO hCB (by intro e; rw [e] at hlen; simp only [List.length_nil] at hlen; omega)) rfl rfl (Va (dx_not rfl rfl) rfl rfl (Ni ?_)))))))
    refine hK34 (WC.condT rfl (Sq fun K35 hK35 => ?_))
    refine WC.drawM 8 [(some 69, .is (.slice (some ⟨B, 0, none⟩) (rs.length + vs.length) ((rs ++ sp).length))), (some 70, .is (.int .i64 (i : Int))), (some 71, .is (.int .i64 (vs.length : Int))), (some 72, .is (.int .i64 ((i + vs.length : Nat) : Int))), (some 73, .is (.slice (some ⟨B, (offV ((rs ++ sp).length) (i + vs.length) 0 5), none⟩) ((rs.length + vs.length) - (i + vs.length)) ((rs ++ sp).length - (i + vs.length)))), (some 74, .is (.slice (some ⟨B, 0, none⟩) (rs.length + vs.length) ((rs ++ sp).length))), (some 75, .is (.int .i64 (i : Int))), (some 76, .is (.slice (some ⟨B, (offV ((rs ++ sp).length) i 0 5), none⟩) ((rs.length + vs.length) - i) ((rs ++ sp).length - i)))] [[], [], [], [1, 2], [0, 3], [], [], [5, 6]] (by kernel_rfl) (by kernel_rfl) (by kernel_rfl) (by kernel_rfl) (by kernel_rfl) (by kernel_rfl) (by kernel_rfl) (by exact trivial) ?_ ?_
    ·
     refine Dc (fun Wd hd => ?_) ?_
     ·
      exact Dd (dx_move rfl rfl) rfl
     refine Dc (fun Wd hd => ?_) ?_
     ·
      exact Dd (dx_move rfl rfl) rfl
     refine Dc (fun Wd hd => ?_) ?_
     ·
      exact Dd (dx_move rfl rfl) rfl
     refine Dc (fun Wd hd => ?_) ?_
     ·
      exact Dd (dx_add (r := ((i + vs.length : Nat) : Int)) rfl rfl rfl (by rw [wrap64_id (by omega)]; omega)) rfl
     refine Dc (fun Wd hd => ?_) ?_
     ·
      exact Dd (dx_slL (i + vs.length) rfl ty_slice_24 rfl rfl rfl (by omega) (by omega)) rfl
     refine Dc (fun Wd hd => ?_) ?_
     ·
      exact Dd (dx_move rfl rfl) rfl
     refine Dc (fun Wd hd => ?_) ?_
     ·
      exact Dd (dx_move rfl rfl) rfl
     refine Dc (fun Wd hd => ?_) ?_
     ·
      exact Dd (dx_slL i rfl ty_slice_24 rfl rfl rfl (by omega) (by omega)) rfl
     exact trivial
    ·
     intro W36 b37
     replace hO := hO.below b37
     replace hV := hV.below b37
     replace hB := hB.thenB b37
     refine Ge (dx_cpV (B := B) (R := (rs ++ sp)) (news := (((rs ++ sp).drop i).take (rs.length + vs.length - i))) (lo := (i + vs.length)) (n := (rs.length + vs.length - (i + vs.length))) rfl ty_slice_24 rfl (fun hn => by rw [offV_in (n := (rs.length + vs.length - (i + vs.length))) hn (by omega)]; simp) rfl hO (hO.part (L := []) (lo := i) (n := rs.length + vs.length - i) (by simp) (fun hn => by rw [offV_in (n := rs.length + vs.length - i) hn (by omega)]; simp) (by omega) (by omega)) (fun r hr => hone r (mem_tail2 hi (by omega) (by omega) hr)) (by omega)) rfl rfl ?_
     rintro _ W38 ⟨rfl, k39, o40⟩
     replace hB := hB.only o40 (.inl rfl)
     replace hV := hV.other o40 hCB
     have ll : (((rs ++ sp).drop i).take (rs.length + vs.length - i)).length = rs.length + vs.length - i := (by rw [List.length_take, List.length_drop]; omega)
     rw [ll, show min (rs.length + vs.length - i) (rs.length + vs.length - (i + vs.length)) = rs.length - i by omega, show rs.length + vs.length - (i + vs.length) = rs.length - i by omega] at k39
     have l3 : ((rs ++ sp).take (i + vs.length) ++ ((((rs ++ sp).drop i).take (rs.length + vs.length - i)).take (rs.length - i) ++ (rs ++ sp).drop (i + vs.length + (rs.length - i)))).length = (rs ++ sp).length := (by simp; omega)
     have hg := ins_room (vs := vs) (sp := sp) hi (by omega)
     simp only at hg
     refine Ni (hK35 (Sq fun K41 hK41 => (Rg (Pu rfl (Pu rfl (Va (dx_slL i rfl ty_slice_24 rfl rfl rfl (by omega) (by omega)) rfl rfl (Pu rfl ?_)))))))
     refine Ge (dx_cpV (B := B) (R := ((rs ++ sp).take (i + vs.length) ++ ((((rs ++ sp).drop i).take (rs.length + vs.length - i)).take (rs.length - i) ++ (rs ++ sp).drop (i + vs.length + (rs.length - i))))) (news := vs) (lo := i) (n := (rs.length + vs.length - i)) rfl ty_slice_24 rfl (fun hn => by rw [offV_in (n := (rs.length + vs.length - i)) hn (by omega)]; simp) rfl k39 (hV.rd (L := []) (by simp)) (fun r hr => hvone r (List.mem_of_mem_take hr)) (by omega)) rfl rfl ?_
     rintro _ W42 ⟨rfl, k43, o44⟩
     replace hB := hB.only o44 (.inl rfl)
     rw [List.take_of_length_le (l := vs) (by omega), show min vs.length (rs.length + vs.length - i) = vs.length by omega, hg] at k43
     have hown := k43.own
     refine Ni (hK41 (Sq fun K45 hK45 => (Rg (Pu rfl (Pu rfl (Ni (hK45 ?_)))))))
     exact WC.ret fun a_ ha_ => hQ (cw_ret1 rfl (.tmp rfl) ⟨B, ins_own_eq hown hi rfl (by simp; omega), .inl rfl⟩ hB ha_)

set_option maxHeartbeats 1000000 in
theorem insertNV_v (vs vp : List (List Value)) (C : Nat) (w : World) (L : List Nat) (hL : LL L w)   (hV : RwB 5 w C (vs ++ vp)) (hvs : vs ≠ []) (hsm : vs.length * 80 ≤ 140737488355328) : CV Try.prog 51 [.slice none 0 0, .int .i64 0, .slice (some ⟨C, 0, none⟩) vs.length ((vs ++ vp).length)] w fun v W => ∃ B, w.heap.size ≤ B ∧ OwS 5 W v vs B := by
 refine cv_enter (N := 95) (f := [(0, .slice none 0 0), (1, .int .i64 0), (2, .slice (some ⟨C, 0, none⟩) vs.length ((vs ++ vp).length))]) Try.func51 rfl rfl rfl rfl fun Q hQ hE => ?_
 have hB := Below.refl w.heap.size w
 have hm0 := List.length_pos_iff.2 hvs
 refine Sq fun K1 hK1 => (Rg (Pu rfl (Ni (hK1 (Sq fun K2 hK2 => (Rg (Pu rfl ?_)))))))
 refine Pu rfl (Va (dx_slN rfl ty_slice_24 rfl rfl) rfl rfl (Ni (hK2 (Sq fun K3 hK3 => (Rg (Pu rfl (Va (dx_len rfl Try.underlying24 rfl) rfl rfl ?_)))))))
 refine Pu rfl (Ni (hK3 (Sq fun K4 hK4 => (Sq fun K5 hK5 => (Rg (Pu rfl (Va (dx_eql rfl rfl rfl) rfl rfl ?_)))))))
 refine Ni (hK5 ?_)
 refine WC.cond rfl (fun c6 => ?_) (fun c6 => ?_)
 ·
  replace c6 := dT c6
  exfalso; omega
 ·
  replace c6 := dF c6
  refine WC.skip (hK4 (Sq fun K7 hK7 => (Rg (Pu rfl (Va (dx_len rfl Try.underlying24 rfl) rfl rfl (Pu rfl (Ni ?_)))))))
  refine hK7 (Sq fun K8 hK8 => (Sq fun K9 hK9 => (Rg (Pu rfl (Pu rfl (Va (dx_eql rfl rfl rfl) rfl rfl (Ni ?_)))))))
  refine hK9 ?_
  refine WC.cond rfl (fun c10 => ?_) (fun c10 => ?_)
  ·
   replace c10 := dT c10
   refine Sq fun K11 hK11 => (Rg (Pu rfl (Pu rfl ?_)))
   refine Ge (dx_apF (rs := []) (news := vs) rfl ty_ap_24 rfl rfl (RdF.nil (L := []) (by decide)) (hV.rd (L := []) (by simp)) hvs (by simp; unfold maxLen; omega) (by simp; omega)) rfl rfl ?_
   rintro u16 W12 ⟨k13, b14, z15⟩
   replace hB := below_then hB b14
   refine Pu rfl (Ni (hK11 ?_))
   exact WC.ret fun a_ ha_ => hQ (cv_ret1 rfl (.tmp rfl) ⟨w.heap.size, Nat.le_refl _, k13⟩ hB ha_)
  ·
   replace c10 := dF c10
   exact absurd rfl c10

section
variable {P : Program} {ops : Array Oper} {o : Oper} {N : Nat} {f : Fl} {w : World}
theorem dx_shr {t t' : TypeId} {x y : Operand} {K K2 : IntKind} {m n r : Int} (ho : o.op = .binOp .shr t x y t') (hx : ev f x = some (.int K m)) (hy : ev f y = some (.int K2 n)) (hn : 0 ≤ n) (hn2 : n ≤ K.bits) (hr : m / 2 ^ n.toNat = r) (hw : wantF ops o f = some true := by rfl) : DV P ops o N f w (.int K r) := fun a ha =>
 Does.shr (wantF_of ha hw) ho (ha.ev hx) (ha.ev hy) hn hn2 hr ⟨rfl, rfl⟩
end
theorem GrowB.of_chg {B B' : Nat} {w w' : World} (h : Chg B w w') (hn : B' = B ∨ w.heap.size ≤ B') : GrowB B B' w w' := ⟨h.os, h.tape, h.output, h.size, fun k hk hB => h.block k hk hB, hn⟩
theorem ChgV.grow {b B C D D' : Nat} {w W W' : World} (h : ChgV b B C w W) (g : GrowB D D' W W') (hD : b ≤ D) (hb : b ≤ W.heap.size) : ChgV b B C w W' := h.both ⟨g.os, g.tape, g.output, g.size, fun k hk _ _ => g.block k (by omega) (by omega)⟩
set_option maxHeartbeats 1000000 in
theorem nanC_v (x : ByteArray) (w : World) (L : List Nat) (hL : LL L w)  : CV Try.prog 94 [.string x] w fun v W => v = .bool false := by
 refine cv_enter (N := 6) (f := [(0, .string x)]) Try.func94 rfl rfl rfl rfl fun Q hQ hE => ?_
 have hB := Below.refl w.heap.size w
 refine WC.seq fun K1 hK1 => ?_
 refine WC.region ?_
 refine WL.val (dx_assign rfl rfl) rfl rfl ?_
 refine WL.nil ?_
 refine hK1 ?_
 refine WC.seq fun K2 hK2 => ?_
 refine WC.region ?_
 refine WL.val (dx_move rfl rfl) rfl rfl ?_
 refine WL.val (dx_move rfl rfl) rfl rfl ?_
 refine WL.val (dv_Fz (dx_neqT rfl rfl rfl) rfl) rfl rfl ?_
 refine WL.val (dx_assign rfl rfl) rfl rfl ?_
 refine WL.nil ?_
 refine hK2 ?_
 refine WC.ret fun a_ ha_ => ?_
 exact hQ (cv_ret1 rfl (.tmp rfl) rfl hB ha_)

set_option maxHeartbeats 1000000 in
theorem nanS_v (x : ByteArray) (w : World) (L : List Nat) (hL : LL L w)  : CV Try.prog 75 [.string x] w fun v W => v = .bool false := by
 refine cv_enter (N := 6) (f := [(0, .string x)]) Try.func75 rfl rfl rfl rfl fun Q hQ hE => ?_
 have hB := Below.refl w.heap.size w
 refine WC.seq fun K1 hK1 => ?_
 refine WC.region ?_
 refine WL.val (dx_assign rfl rfl) rfl rfl ?_
 refine WL.nil ?_
 refine hK1 ?_
 refine WC.seq fun K2 hK2 => ?_
 refine WC.region ?_
 refine WL.val (dx_move rfl rfl) rfl rfl ?_
 refine WL.val (dx_move rfl rfl) rfl rfl ?_
 refine WL.val (dv_Fz (dx_neqT rfl rfl rfl) rfl) rfl rfl ?_
 refine WL.val (dx_assign rfl rfl) rfl rfl ?_
 refine WL.nil ?_
 refine hK2 ?_
 refine WC.ret fun a_ ha_ => ?_
 exact hQ (cv_ret1 rfl (.tmp rfl) rfl hB ha_)

set_option maxHeartbeats 1000000 in
theorem lessC_v (x y : ByteArray) (w : World) (L : List Nat) (hL : LL L w)  : CV Try.prog 74 [.string x, .string y] w fun v W => v = .bool (sless x y) := by
 refine cv_enter (N := 17) (f := [(0, .string x), (1, .string y)]) Try.func74 rfl rfl rfl rfl fun Q hQ hE => ?_
 have hB := Below.refl w.heap.size w
 refine WC.seq fun K1 hK1 => (WC.region (Pu rfl (WL.nil (hK1 (WC.seq fun K2 hK2 => (WC.region (Pu rfl ?_)))))))
 refine WL.get (dx_cv rfl Try.func94 rfl rfl rfl (nanC_v x w _ hL)) rfl rfl ?_
 rintro _ W4 ⟨rfl, b3⟩
 replace hB := below_then hB b3
 refine Pu rfl (Of rfl (Of rfl (Of rfl (Pu rfl (Pu rfl (Pu rfl (Pu rfl ?_)))))))
 refine WL.val (dx_lssT rfl rfl rfl) rfl rfl (Pu rfl (Pu rfl (WL.nil (hK2 ?_))))
 exact WC.ret fun a_ ha_ => hQ (cv_ret1 rfl (.tmp rfl) rfl hB ha_)

set_option maxHeartbeats 1000000 in
theorem bsearch_v (ts : List ByteArray) (x : ByteArray) (tv : Value) (w : World) (L : List Nat) (hL : LL L w) (h3 : RdF 1 L w tv (ts.map eS))  (hr : Rises ts) (hsm : ts.length ≤ 1000000000000) : CV Try.prog 49 [tv, .string x] w fun v W => v = .tuple #[.int .i64 ((lbT x ts : Nat) : Int), .bool (decide (ts[lbT x ts]? = some x))] := by
 refine cv_enter (N := 54) (f := [(0, tv), (1, .string x)]) Try.func49 rfl rfl rfl rfl fun Q hQ hE => ?_
 have hB := Below.refl w.heap.size w
 have h3m : ts.length ≤ maxLen := by have := h3.len; rwa [List.length_map] at this
 unfold maxLen at h3m
 refine Sq fun K1 hK1 => (Rg (Pu rfl (Pu rfl (Ni (hK1 (Sq fun K2 hK2 => (Rg ?_)))))))
 refine Pu rfl (Va (dx_lenFM rfl ty_slice_23 rfl h3) rfl rfl (Pu rfl (Ni (hK2 (Sq fun K3 hK3 => (Rg (Pu rfl ?_)))))))
 refine Pu rfl (Pu rfl (Ni (hK3 (Sq fun K4 hK4 => (WC.block ?_)))))
 refine WC.loop2 (fun (i : Nat) (j : Nat) => [(0, tv), (1, .string x), (6, .int .i64 (ts.length : Int)), (7, .int .i64 (i : Int)), (8, .int .i64 (j : Int))]) (fun (i : Nat) (j : Nat) W => i ≤ j ∧ j ≤ ts.length ∧ (∀ q a, q < i → ts[q]? = some a → sless a x = true) ∧ (∀ q a, j ≤ q → ts[q]? = some a → sless a x = false) ∧ Below w.heap.size w W ∧ LL (L) W ∧ RdF 1 (L) W tv (ts.map eS)) (fun (i : Nat) (j : Nat) => j - i) 0 ts.length (by repeat first | exact trivial | exact And.intro rfl trivial | refine And.intro rfl ?_ | refine And.intro (congrArg (fun z : Int => some (Value.int .i64 z)) (by omega)) ?_) ⟨Nat.zero_le _, Nat.le_refl _, (fun q a hq => by omega), (fun q a hq ha => by rw [List.getElem?_eq_none hq] at ha; cases ha), hB, hL, h3⟩ ?_
 clear h3 hB hL
 rintro K5 i j W6 ⟨hi, hj, h1_, h2_, hB, hL, h3⟩ hK5
 refine Sq fun K7 hK7 => (Sq fun K8 hK8 => (Rg (Pu rfl (Pu rfl (Va (dx_lss rfl rfl rfl) rfl rfl (Ni (hK8 ?_)))))))
 refine WC.cond rfl (fun c9 => ?_) (fun c9 => ?_)
 ·
  replace c9 := dT c9
  refine WC.skip (hK7 (WC.block (Sq fun K10 hK10 => ?_)))
  obtain ⟨m, hm⟩ : ∃ k : Nat, k = (i + j) / 2 := ⟨_, rfl⟩
  have hm1 : i ≤ m ∧ m < j := by omega
  refine Rg (Pu rfl (Pu rfl (Va (dx_add (r := ((i + j : Nat) : Int)) rfl rfl rfl (by rw [wrap64_id (by omega)]; omega)) rfl rfl (Va (dx_conv (r := ((i + j : Nat) : Int)) rfl Try.underlying3 Try.underlying97 rfl (wrapu64_id (by omega))) rfl rfl (Va (dx_shr (r := (m : Int)) rfl rfl rfl (by decide) (by decide) (by show ((i + j : Nat) : Int) / 2 ^ 1 = _; omega)) rfl rfl (Va (dx_conv (r := (m : Int)) rfl Try.underlying97 Try.underlying3 rfl (wrap64_id (by omega))) rfl rfl (Pu rfl ?_)))))))
  refine Ni (hK10 (Sq fun K11 hK11 => (Rg (Pu rfl (Pu rfl ?_)))))
  obtain ⟨r12, e13⟩ : ∃ x, ts[m]? = some x := ⟨_, List.getElem?_eq_getElem (by omega)⟩
  refine Ge (dx_idxF m rfl ty_slice_23 rfl rfl h3 (by omega) (at_mapX e13)) rfl rfl ?_
  rintro u14 _ ⟨rfl, p15⟩
  refine Va (dx_loadP rfl ty_one_9 rfl p15) rfl rfl (Pu rfl ?_)
  refine Ge (dx_cv rfl Try.func74 rfl rfl rfl (lessC_v r12 x W6 _ hL)) rfl rfl ?_
  rintro _ W17 ⟨rfl, b16⟩
  replace h3 := h3.below b16
  replace hB := below_then hB b16
  replace hL := LL.below hL b16
  refine Ni (hK11 ?_)
  refine WC.cond rfl (fun c18 => ?_) (fun c18 => ?_)
  ·
   refine Rg (Pu rfl (Va (dx_add (r := ((m + 1 : Nat) : Int)) rfl rfl rfl (by rw [wrap64_id (by omega)]; omega)) rfl rfl (Pu rfl (Ni ?_))))
   exact hK5 (m + 1) j ⟨(by omega), (by omega), (fun q a hq ha => rises_ahead hr (i := m) (by omega) e13 c18 ha), h2_, hB, hL, h3⟩ (by omega) (by repeat first | exact trivial | exact And.intro rfl trivial | refine And.intro rfl ?_ | refine And.intro (congrArg (fun z : Int => some (Value.int .i64 z)) (by omega)) ?_)
  ·
   refine Rg (Pu rfl (Pu rfl (Ni ?_)))
   exact hK5 i m ⟨(by omega), (by omega), h1_, (fun q a hq ha => rises_behind hr (i := m) hq e13 (by first | exact c18 | exact Bool.not_eq_true _ ▸ c18) ha), hB, hL, h3⟩ (by omega) (by repeat first | exact trivial | exact And.intro rfl trivial | refine And.intro rfl ?_ | refine And.intro (congrArg (fun z : Int => some (Value.int .i64 z)) (by omega)) ?_)
 ·
  replace c9 := dF c9
  refine WC.exit ?_
  refine hK4 (Sq fun K19 hK19 => ?_)
  have hlb : lbT x ts = i := lbT_eq (by omega) h1_ (fun a ha => h2_ i a (by omega) ha)
  refine Rg (Pu rfl (Pu rfl (Pu rfl (Va (dx_lss rfl rfl rfl) rfl rfl (Pu rfl ?_)))))
  refine WL.split 35 rfl (fun g20 => ?_) (fun g20 => ?_)
  ·
   replace g20 := dT g20
   refine Pu rfl (Pu rfl ?_)
   obtain ⟨r21, e22⟩ : ∃ x, ts[i]? = some x := ⟨_, List.getElem?_eq_getElem (by omega)⟩
   refine Ge (dx_idxF i rfl ty_slice_23 rfl rfl h3 (by omega) (at_mapX e22)) rfl rfl ?_
   rintro u23 _ ⟨rfl, p24⟩
   refine Va (dx_loadP rfl ty_one_9 rfl p24) rfl rfl (Pu rfl (Va (dx_eqlT rfl rfl rfl) rfl rfl (Pu rfl ?_)))
   refine WL.split 42 rfl (fun g25 => ?_) (fun g25 => ?_)
   ·
    replace g25 := dT g25
    refine Of rfl (Of rfl (Of rfl (Of rfl (Of rfl (Of rfl (Of rfl (Of rfl ?_)))))))
    refine Of rfl (Pu rfl (Pu rfl (Pu rfl (Pu rfl (Ni (hK19 ?_))))))
    exact WC.ret fun a_ ha_ => hQ (cv_ret2 rfl (.tmp rfl) (.tmp rfl) (by rw [hlb]; exact congrArg (fun b => Value.tuple #[.int .i64 (i : Int), .bool b]) (decide_eq_true (by rw [e22]; congr 1 <;> assumption)).symm) hB ha_)
   ·
    replace g25 := dF g25
    refine Pu rfl (Pu rfl ?_)
    refine Ge (dx_idxF i rfl ty_slice_23 rfl rfl h3 (by omega) (at_mapX e22)) rfl rfl ?_
    rintro u26 _ ⟨rfl, p27⟩
    refine Va (dx_loadP rfl ty_one_9 rfl p27) rfl rfl ?_
    refine Ge (dx_cv rfl Try.func75 rfl rfl rfl (nanS_v r21 W6 _ hL)) rfl rfl ?_
    rintro _ W29 ⟨rfl, b28⟩
    replace hB := below_then hB b28
    refine Pu rfl (Of rfl (Of rfl (Pu rfl (Pu rfl (Pu rfl (Pu rfl (Pu rfl ?_)))))))
    refine Ni (hK19 ?_)
    exact WC.ret fun a_ ha_ => hQ (cv_ret2 rfl (.tmp rfl) (.tmp rfl) (by rw [hlb]; exact congrArg (fun b => Value.tuple #[.int .i64 (i : Int), .bool b]) (decide_eq_false (by rw [e22]; intro e_; cases e_; exact absurd rfl (by assumption))).symm) hB ha_)
  ·
   replace g20 := dF g20
   refine Of rfl (Of rfl (Of rfl (Of rfl (Of rfl (Of rfl (Of rfl (Of rfl ?_)))))))
   refine Of rfl (Of rfl (Of rfl (Of rfl (Of rfl (Of rfl (Of rfl (Of rfl ?_)))))))
   refine Of rfl (Pu rfl (Pu rfl (Pu rfl (Ni (hK19 ?_)))))
   exact WC.ret fun a_ ha_ => hQ (cv_ret2 rfl (.tmp rfl) (.tmp rfl) (by rw [hlb]; exact congrArg (fun b => Value.tuple #[.int .i64 (i : Int), .bool b]) (decide_eq_false (by rw [List.getElem?_eq_none (by omega)]; intro e_; cases e_)).symm) hB ha_)

theorem insOT_v (rs vs : List (List Value)) (i : Nat) (B C : Nat) (u y : Value) (w : World) (hO : OwS 1 w u rs B) (hV : OwS 1 w y vs C) (hCB : C ≠ B) (hi : i ≤ rs.length) (hvs : vs ≠ []) (hsm : (rs.length + vs.length) * 16 ≤ 140737488355328) (hone : ∀ r ∈ rs, ∀ u ∈ r, u.oneCell' = true) (hvone : ∀ r ∈ vs, ∀ u ∈ r, u.oneCell' = true) :
  CW Try.prog 50 [u, .int .i64 (i : Int), y] w B fun v W => ∃ B', OwS 1 W v (rs.take i ++ (vs ++ rs.drop i)) B' ∧ (B' = B ∨ w.heap.size ≤ B') := by
 have hlt := hO.lt
 obtain ⟨sp, rfl, h1⟩ := hO.open
 obtain ⟨vp, rfl, h2⟩ := hV.open
 exact insertT_v rs sp vs vp i B C w [] (fun x hx => by rw [List.mem_singleton.1 hx]; exact hlt) h1 h2 hCB hi hvs hsm hone hvone
theorem insNT_v (vs : List (List Value)) (C : Nat) (y : Value) (w : World) (i : Int) (hi : i = 0) (hV : OwS 1 w y vs C) (hvs : vs ≠ []) (hsm : vs.length * 16 ≤ 140737488355328) : CV Try.prog 50 [.slice none 0 0, .int .i64 i, y] w fun v W => ∃ B, w.heap.size ≤ B ∧ OwS 1 W v vs B := by
 subst hi
 obtain ⟨vp, rfl, h2⟩ := hV.open
 exact insertNT_v vs vp C w [] (LL.nil _) h2 hvs hsm
theorem insOV_v (rs vs : List (List Value)) (i : Nat) (B C : Nat) (u y : Value) (w : World) (hO : OwS 5 w u rs B) (hV : OwS 5 w y vs C) (hCB : C ≠ B) (hi : i ≤ rs.length) (hvs : vs ≠ []) (hsm : (rs.length + vs.length) * 80 ≤ 140737488355328) (hone : ∀ r ∈ rs, ∀ u ∈ r, u.oneCell' = true) (hvone : ∀ r ∈ vs, ∀ u ∈ r, u.oneCell' = true) :
  CW Try.prog 51 [u, .int .i64 (i : Int), y] w B fun v W => ∃ B', OwS 5 W v (rs.take i ++ (vs ++ rs.drop i)) B' ∧ (B' = B ∨ w.heap.size ≤ B') := by
 have hlt := hO.lt
 obtain ⟨sp, rfl, h1⟩ := hO.open
 obtain ⟨vp, rfl, h2⟩ := hV.open
 exact insertV_v rs sp vs vp i B C w [] (fun x hx => by rw [List.mem_singleton.1 hx]; exact hlt) h1 h2 hCB hi hvs hsm hone hvone
theorem insNV_v (vs : List (List Value)) (C : Nat) (y : Value) (w : World) (i : Int) (hi : i = 0) (hV : OwS 5 w y vs C) (hvs : vs ≠ []) (hsm : vs.length * 80 ≤ 140737488355328) : CV Try.prog 51 [.slice none 0 0, .int .i64 i, y] w fun v W => ∃ B, w.heap.size ≤ B ∧ OwS 5 W v vs B := by
 subst hi
 obtain ⟨vp, rfl, h2⟩ := hV.open
 exact insertNV_v vs vp C w [] (LL.nil _) h2 hvs hsm
end Go.Proofs.Ytpinidlfcifeeaa
