/- Calls that change a printer alone. The printer: full, escape, text. DERIVED: THE SHELF's CONTRACTS AT THIS DUMP, IN PLAIN WORDS (tools/lay-plain.mjs o -/
import Derived.Shelf.Strings.Builder1
import Derived.Shelf.Strconv.Itoa0
import Derived.Shelf.Strconv.Itoa1
import Derived.Shelf.LaysM
import Derived.Shelf.Strconv.Itoa2
import Derived.Shelf.Strconv.Itoa3
import Derived.Ground.Names2Prog
import Derived.Shelf.Slices.ReverseS
import Derived.Shelf.Slices.Cells
import Derived.Test.YtghpdnfdbhjmpaaDoorProg
import Derived.Lib.AppendIntMem
import Derived.Test.YtghpdnfdbhjmpaaDoorRows
import Derived.Lib.LaidTab
import Derived.ChangeSame
import Derived.Stop.LaidErr
import Derived.MakeChecks
import Derived.Test.YtghpdnfdbhjmpaaDoorWD
namespace Go.Proofs.YtghpdnfdbhjmpaaDoor
open Go.RowKit
set_option linter.unusedVariables false
set_option linter.unusedSimpArgs false
set_option maxRecDepth 8000
set_option maxHeartbeats 2000000

def CB (P : Program) (F : FuncId) (args : List Value) (w w1 : World) (R : Value → World → Prop) : Prop := Calls P F args.toArray w1 fun e w' => ∃ v, e = .returned v ∧ R v w' ∧ Below w.heap.size w w'
theorem cb_enter {P : Program} {F : FuncId} {fn : Func} {body : Code} {w w1 : World} {R : Value → World → Prop} {N : Nat} {vs : List Value} (hf : P.funcs[F]? = some fn) (hb : fn.body = some body) (hn : fn.ntmps = N) (hN : decide (vs.length ≤ N) = true) {f : Fl}
  (hfr : (vs.zipIdx.map fun p => (p.2, p.1)) = f) (h : ∀ Q : Exit → Act → World → Prop, (∀ {a W}, finV P fn R w a W → Q .ret a W) → (∀ {a W}, finV P fn R w a W → Q .normal a W) → WC P N body Q f w1) : CB P F vs w w1 R :=
 calls_sx vs f hf hb hn hN hfr.symm (h _ (fun {a W} ⟨h1, v, h2, h3, h4⟩ => ⟨h1, v, h2, v, rfl, h3, h4⟩) (fun {a W} ⟨h1, v, h2, h3, h4⟩ => ⟨h1, v, h2, v, rfl, h3, h4⟩))
theorem CB.mono {P : Program} {F : FuncId} {args : List Value} {w w1 : World} {R R' : Value → World → Prop} (h : CB P F args w w1 R) (hr : ∀ v w', Below w.heap.size w w' → R v w' → R' v w') : CB P F args w w1 R' :=
 Calls.mono h fun e w' ⟨v, he, hR, hb⟩ => ⟨v, he, hr v w' hb hR, hb⟩
section
variable {P : Program} {ops : Array Oper} {o : Oper} {N : Nat} {f : Fl} {w w0 : World} {R : Value → World → Prop} {fn : Func}
theorem cv_ret0 (h : fn.results = #[]) (hR : R (.tuple #[]) w) (hb : Below w0.heap.size w0 w) {a : Act} (ha : Fr N a f) : finV P fn R w0 a w := by
 obtain ⟨x, v, hv, v', he, h1, h2⟩ := fn0 (P := P) (Rr := fun e w' => ∃ v, e = .returned v ∧ R v w' ∧ Below w0.heap.size w0 w') h ⟨_, rfl, hR, hb⟩ ha
 cases he
 exact ⟨x, _, hv, h1, h2⟩
theorem dx_cb {F : FuncId} {fn : Func} {xs : List Operand} {ts : Array TypeId} {vs : List Value} (ho : o.op = .call { callee := .value (.func F), args := xs.toArray, argTypes := ts }) (hf : P.funcs[F]? = some fn) (hn : (fn.name == "runtime.NumGoroutine") = false) (hb : fn.body.isNone = false)
  (hx : evl f xs = some vs) (hc : CB P F vs w0 w R) (hw : wantF ops o f = some true := by rfl) : DR P ops o N f w fun v W => R v W ∧ Below w0.heap.size w0 W :=
 dx_call (cap := #[]) ho rfl hf hn hb hx (by rw [Array.append_empty]; exact Calls.mono hc fun e w' ⟨v, he, h⟩ => ⟨v, he, h⟩) hw
end
theorem EmbAt.below {b P : Nat} {p : Value} {bs : List Value} {m : Int} {w w' : World} (h : EmbAt b P p bs m w) (k : Below w.heap.size w w') : EmbAt b P p bs m w' := by
 obtain ⟨hB, v, hb, hown, hne⟩ := h
 refine ⟨hB, v, (k.block P (emb_lt hb)).trans hb, ?_, hne⟩
 exact hown.kept (row := none) ⟨k.os, k.tape, k.output, k.size, fun i hi _ => k.block i hi⟩ (by
  rcases hv : v.ownBlock with _ | q
  · exact .inl rfl
  · exact .inr (by simp))
theorem PrS.below {b P : Nat} {l : List Int} {m : Int} {w w' : World} (h : PrS b P l m w) (k : Below w.heap.size w w') : PrS b P l m w' := ⟨h.1, h.2.imp (·.below k) (·.below k)⟩
theorem PrS.blk {b P : Nat} {l : List Int} {m : Int} {w : World} (h : PrS b P l m w) : ∃ p v, Blk w P [p, v, .int .i64 m] ∧ p.oneCell' = true ∧ v.oneCell' = true := by
 rcases h.2 with ⟨_, v, hb, hown, _⟩ | ⟨_, v, hb, hown, _⟩
 all_goals
  have hv : v.oneCell' = true := by
   rcases hown.2 with ⟨rfl, _⟩ | ⟨g, cap, cur, rfl, _⟩ <;> rfl
  exact ⟨_, v, ⟨46, hb⟩, rfl, hv⟩
theorem wbyte_v (P : Nat) (l : List Int) (m c : Int) (w w1 : World) (hB : Below w.heap.size w w1) (h : PrS w.heap.size P l m w1) (hl : l.length ≤ 1000000000000) (h0 : 0 ≤ c) (h1 : c ≤ 255) : CB Tryd.prog 44 [selfP P, .int .u8 c] w w1 fun v W => v = .nilIface ∧ PrS w.heap.size P (l ++ [c]) m W :=
 (wbyte_e c h.2 (by rw [List.length_map]; omega) hB.size).mono fun e w' ⟨he, h2, h3⟩ => ⟨_, he, ⟨rfl, h.1.append (fun x hx => by rw [List.mem_singleton.1 hx]; exact ⟨h0, h1⟩), .inr (by rw [List.map_append]; exact h2)⟩, hB.trans h3⟩
theorem strCells_sb (s : ByteArray) : Lib.strCells s = (sb s).map fun n => Value.int .u8 n := by
 unfold Lib.strCells sb
 rw [List.map_map]; rfl
theorem wstr_v (P : Nat) (l : List Int) (m : Int) (s : ByteArray) (w w1 : World) (hB : Below w.heap.size w w1) (h : PrS w.heap.size P l m w1) (hl : l.length ≤ 1000000000000) (hs : s.size ≤ 1000000000000) : CB Tryd.prog 38 [selfP P, .string s] w w1 fun v W => v = .tuple #[.int .i64 (s.size : Int), .nilIface] ∧ PrS w.heap.size P (l ++ sb s) m W :=
 (wstr_e s h.2 (by rw [List.length_map]; omega) hB.size).mono fun e w' ⟨he, h2, h3⟩ => ⟨_, he, ⟨rfl, h.1.append (sb_bytes s), .inr (by rw [List.map_append, ← strCells_sb]; exact h2)⟩, hB.trans h3⟩
theorem blen_v (b P : Nat) (l : List Int) (m : Int) (w : World) (h : PrS b P l m w) : CV Tryd.prog 31 [selfP P] w fun v W => v = .int .i64 (l.length : Int) := by
 have e : ∀ p, EmbAt b P p (l.map fun n => Value.int .u8 n) m w → CV Tryd.prog 31 [selfP P] w fun v W => v = .int .i64 (l.length : Int) := fun p k =>
  (blen_e k).mono fun e w' ⟨he, hw⟩ => ⟨_, he, by rw [List.length_map], by rw [hw]; exact Below.refl _ _⟩
 exact h.2.elim (e _) (e _)
theorem bstr_v (P : Nat) (l : List Int) (m : Int) (w w1 : World) (hB : Below w.heap.size w w1) (h : PrS w.heap.size P l m w1) (h0 : l ≠ []) : CB Tryd.prog 24 [selfP P] w w1 fun v W => v = .string (strOfNums l) := by
 have hl : (l.map fun n => Value.int .u8 n) = Lib.byteCells (sb (strOfNums l) |>.map fun n => UInt8.ofNat n.toNat) := by
  rw [sb_strOf h.1]
  unfold Lib.byteCells
  rw [List.map_map]
  refine List.map_congr_left fun n hn => ?_
  have := h.1 n hn
  simp only [Function.comp]
  rw [show (UInt8.ofNat n.toNat).toNat = n.toNat from by rw [UInt8.toNat_ofNat']; omega]
  congr 1; omega
 have hs : (⟨((sb (strOfNums l)).map fun n => UInt8.ofNat n.toNat).toArray⟩ : ByteArray) = strOfNums l := by
  apply sb_inj
  rw [show sb ⟨((sb (strOfNums l)).map fun n => UInt8.ofNat n.toNat).toArray⟩ = ((sb (strOfNums l)).map fun n => UInt8.ofNat n.toNat).map (fun c => (c.toNat : Int)) from by simp [sb], List.map_map]
  conv => rhs; rw [← List.map_id (sb (strOfNums l))]
  refine List.map_congr_left fun n hn => ?_
  have := sb_bytes _ n hn
  simp only [Function.comp, id]
  rw [UInt8.toNat_ofNat']; omega
 have hne : ((sb (strOfNums l)).map fun n => UInt8.ofNat n.toNat) ≠ [] := by
  rw [sb_strOf h.1]
  cases l with
  | nil => exact absurd rfl h0
  | cons a b => simp
 have e : ∀ p, EmbAt w.heap.size P p (l.map fun n => Value.int .u8 n) m w1 → CB Tryd.prog 24 [selfP P] w w1 fun v W => v = .string (strOfNums l) := fun p k => by
  rw [hl] at k
  exact (bstr_e _ k hne).mono fun e w' ⟨he, hw⟩ => ⟨_, he, by rw [hs], hB.trans hw⟩
 exact h.2.elim (e _) (e _)
def PrK (most K : Int) (b x b' : List Int) : Prop := ((((b.length : Int) + x.length ≤ most) ∧ b' = b ++ x) ∨ (most < (b.length : Int) + x.length ∧ most < (b'.length : Int))) ∧ (b'.length : Int) ≤ max (b.length : Int) most + K
section
variable {most K K2 : Int} {b x y b1 b2 : List Int}
theorem prK_exact (h : b1 = b ++ x) (hk : (x.length : Int) ≤ K) : PrK most K b x b1 := by
 subst h
 refine ⟨?_, by rw [List.length_append]; omega⟩
 by_cases h : (b.length : Int) + x.length ≤ most
 · exact .inl ⟨h, rfl⟩
 · exact .inr ⟨by omega, by rw [List.length_append]; omega⟩
theorem prK_then (h : PrK most K b x b1) (k : PrK most K2 b1 y b2) (h0 : 0 ≤ K) (h2 : 0 ≤ K2) : PrK most (K + K2) b (x ++ y) b2 := by
  obtain ⟨h1, hb⟩ := h
  obtain ⟨k1, kb⟩ := k
  refine ⟨?_, by omega⟩
  rw [List.length_append]
  rcases h1 with ⟨a, rfl⟩ | ⟨a, a2⟩
  · rw [List.length_append] at k1
    rcases k1 with ⟨c, rfl⟩ | ⟨c, c2⟩
    · exact .inl ⟨by omega, by rw [List.append_assoc]⟩
    · exact .inr ⟨by omega, c2⟩
  · rcases k1 with ⟨c, rfl⟩ | ⟨c, c2⟩
    · exact .inr ⟨by omega, by rw [List.length_append]; omega⟩
    · exact .inr ⟨by omega, c2⟩
theorem prK_stop (h : PrK most K b x b1) (hf : most < (b1.length : Int)) : PrK most K b (x ++ y) b1 := by
 obtain ⟨h1, hb⟩ := h
 refine ⟨.inr ⟨?_, hf⟩, hb⟩
 rw [List.length_append]
 rcases h1 with ⟨a, rfl⟩ | ⟨a, a2⟩
 · rw [List.length_append] at hf; omega
 · omega
theorem prK_go (h : PrK most K b x b1) (hf : ¬ most < (b1.length : Int)) : b1 = b ++ x ∧ (b.length : Int) + x.length ≤ most := by
 rcases h.1 with ⟨a, rfl⟩ | ⟨a, a2⟩
 · exact ⟨rfl, a⟩
 · exact absurd a2 hf
theorem prK_pre (e : b1 = b ++ x) (hm : (b1.length : Int) ≤ most) (k : PrK most K b1 y b2) : PrK most K b (x ++ y) b2 := by
 subst e
 obtain ⟨k1, kb⟩ := k
 rw [List.length_append] at *
 refine ⟨?_, by omega⟩
 rw [List.length_append]
 rcases k1 with ⟨c, rfl⟩ | ⟨c, c2⟩
 · exact .inl ⟨by omega, by rw [List.append_assoc]⟩
 · exact .inr ⟨by omega, c2⟩
theorem prK_le (h : PrK most K b x b1) (hk : K ≤ K2) : PrK most K2 b x b1 := ⟨h.1, by have := h.2; omega⟩
end
theorem ty_fld_46_0_0 : fldB Tryd.prog 46 0 0 = true := by kernel_rfl
theorem ty_fld_46_1_2 : fldB Tryd.prog 46 1 2 = true := by kernel_rfl
set_option maxHeartbeats 1000000 in
theorem full_v (P : Nat) (l : List Int) (m : Int) (w w1 : World) (hB : Below w.heap.size w w1) (hst : PrS w.heap.size P l m w1)  : CB Tryd.prog 23 [.pointer (some ⟨P, 0, none⟩)] w w1 fun v W => v = .bool (decide (m < (l.length : Int))) ∧ PrS w.heap.size P l m W := by
 refine cb_enter (N := 12) (f := [(0, .pointer (some ⟨P, 0, none⟩))]) Tryd.func23 rfl rfl rfl rfl fun Q hQ hE => ?_
 have hL := LL.nil w1
 refine Sq fun K1 hK1 => (Rg (Pu rfl (Ni (hK1 (Sq fun K2 hK2 => ?_)))))
 obtain ⟨p_, v_, hbk, hp_, hv_⟩ := hst.blk
 refine WC.drawM 8 [(some 3, .is (.pointer (some ⟨P, 0, none⟩))), (some 4, .is (.pointer (some ⟨P, 0, none⟩))), (some 5, .is (.pointer (some ⟨P, 0, none⟩))), (some 6, .is (.int .i64 (l.length : Int))), (some 7, .is (.pointer (some ⟨P, 0, none⟩))), (some 8, .is (.pointer (some ⟨P, 0, none⟩))), (some 9, .is (.pointer (some ⟨P, 2, none⟩))), (some 10, .is (.int .i64 m))] [[], [0], [1], [2], [], [4], [5], [6]] (by kernel_rfl) (by kernel_rfl) (by kernel_rfl) (by kernel_rfl) (by kernel_rfl) (by kernel_rfl) (by kernel_rfl) (by exact trivial) ?_ ?_
 ·
  refine Dc (fun Wd hd => ?_) ?_
  ·
   exact Dd (dx_move rfl rfl) rfl
  refine Dc (fun Wd hd => ?_) ?_
  ·
   exact Dd (dx_nilCheck rfl rfl) rfl
  refine Dc (fun Wd hd => ?_) ?_
  ·
   exact Dd (dx_fld (o1 := 0) rfl ty_fld_46_0_0 rfl rfl) rfl
  refine Dc (fun Wd hd => ?_) ?_
  ·
   have hst := hst.below hd
   exact DR.mono (dx_cv rfl Tryd.func31 rfl rfl rfl (blen_v w.heap.size P l m Wd hst)) (fun v W' ⟨h, hb⟩ => ⟨hb, (by rw [h]; exact rfl)⟩)
  refine Dc (fun Wd hd => ?_) ?_
  ·
   exact Dd (dx_move rfl rfl) rfl
  refine Dc (fun Wd hd => ?_) ?_
  ·
   exact Dd (dx_nilCheck rfl rfl) rfl
  refine Dc (fun Wd hd => ?_) ?_
  ·
   exact Dd (dx_fld (o1 := 2) rfl ty_fld_46_1_2 rfl rfl) rfl
  refine Dc (fun Wd hd => ?_) ?_
  ·
   have hbk := hbk.below hd
   exact Dd (dx_load rfl ty_one_3 rfl (hbk.cell (k := 2) rfl)) rfl
  exact trivial
 ·
  intro W3 b4
  replace hst := hst.below b4
  replace hB := below_then hB b4
  refine Va (dx_gtr rfl rfl rfl) rfl rfl (Pu rfl (Ni (hK2 ?_)))
  exact WC.ret fun a_ ha_ => hQ (cv_ret1 rfl (.tmp rfl) ⟨rfl, hst⟩ hB ha_)

theorem hex_at {c : Int} (h0 : 0 ≤ c) (h : c < 16) : atS ⟨#[48, 49, 50, 51, 52, 53, 54, 55, 56, 57, 97, 98, 99, 100, 101, 102]⟩ c.toNat = hexL c := by
 obtain ⟨n, rfl⟩ : ∃ n : Nat, c = (n : Int) := ⟨c.toNat, by omega⟩
 have hn : n < 16 := by omega
 rw [Int.toNat_natCast]
 match n, hn with
 | 0, _ => rfl | 1, _ => rfl | 2, _ => rfl | 3, _ => rfl | 4, _ => rfl | 5, _ => rfl | 6, _ => rfl | 7, _ => rfl | 8, _ => rfl | 9, _ => rfl | 10, _ => rfl | 11, _ => rfl | 12, _ => rfl | 13, _ => rfl | 14, _ => rfl | 15, _ => rfl
theorem hexL_le {c : Int} (h0 : 0 ≤ c) (h : c < 16) : 0 ≤ hexL c ∧ hexL c ≤ 255 := by unfold hexL; split <;> omega
section
variable {c : Int}
theorem esc_q (h : c = 34 ∨ c = 92) : escJ c = [92, c] := by unfold escJ; rw [if_pos h]
theorem esc_8 (h : c = 8) : escJ c = [92, 98] := by subst h; rfl
theorem esc_9 (h : c = 9) : escJ c = [92, 116] := by subst h; rfl
theorem esc_10 (h : c = 10) : escJ c = [92, 110] := by subst h; rfl
theorem esc_12 (h : c = 12) : escJ c = [92, 102] := by subst h; rfl
theorem esc_13 (h : c = 13) : escJ c = [92, 114] := by subst h; rfl
theorem esc_u (h1 : ¬ c = 34) (h2 : ¬ c = 92) (h3 : ¬ c = 8) (h4 : ¬ c = 9) (h5 : ¬ c = 10) (h6 : ¬ c = 12) (h7 : ¬ c = 13) (h : c < 32) : escJ c = [92, 117, 48, 48, hexL (c / 16), hexL (c % 16)] := by
 unfold escJ; rw [if_neg (by omega), if_neg h3, if_neg h4, if_neg h5, if_neg h6, if_neg h7, if_pos h]
theorem esc_p (h1 : 32 ≤ c) (h2 : ¬ c = 34) (h3 : ¬ c = 92) : escJ c = [c] := by
 unfold escJ; rw [if_neg (by omega), if_neg (by omega), if_neg (by omega), if_neg (by omega), if_neg (by omega), if_neg (by omega), if_neg (by omega)]
theorem esc_len : (escJ c).length ≤ 6 := by unfold escJ; (repeat' split) <;> simp
end
theorem u8_and_15 {c : Int} (h0 : 0 ≤ c) (h : c ≤ 255) : bits BinOp.and .u8 c 15 = c % 16 := by
 have q : ∀ n : Fin 256, bits BinOp.and .u8 (n.val : Int) 15 = (n.val : Int) % 16 := by decide +kernel
 have := q ⟨c.toNat, by omega⟩
 simp only at this
 rwa [Int.toNat_of_nonneg h0] at this
theorem dv_e {P : Program} {ops : Array Oper} {o : Oper} {N : Nat} {f : Fl} {w : World} {u v : Value} (h : DV P ops o N f w u) (e : u = v) : DV P ops o N f w v := e ▸ h
set_option maxHeartbeats 1000000 in
theorem pesc_v (P : Nat) (l : List Int) (m c : Int) (w w1 : World) (hB : Below w.heap.size w w1) (hst : PrS w.heap.size P l m w1) (hlen : l.length ≤ 10000000000) (hc0 : 0 ≤ c) (hc : c < 32 ∨ c = 34 ∨ c = 92) : CB Tryd.prog 45 [.pointer (some ⟨P, 0, none⟩), .int .u8 c] w w1 fun v W => v = .tuple #[] ∧ PrS w.heap.size P (l ++ escJ c) m W := by
 refine cb_enter (N := 65) (f := [(0, .pointer (some ⟨P, 0, none⟩)), (1, .int .u8 c)]) Tryd.func45 rfl rfl rfl rfl fun Q hQ hE => ?_
 have hL := LL.nil w1
 refine Sq fun K1 hK1 => (Rg (Pu rfl (Va (dx_nilCheck rfl rfl) rfl rfl (Va (dx_fld (o1 := 0) rfl ty_fld_46_0_0 rfl rfl) rfl rfl ?_))))
 refine Ge (dx_cb rfl Tryd.func44 rfl rfl rfl (wbyte_v P l m 92 w w1 hB hst (by (try simp only [List.length_append, List.length_cons, List.length_nil]); omega) (by omega) (by omega))) rfl rfl ?_
 rintro _ W2 ⟨⟨rfl, hst⟩, hB⟩
 have hL := LL.nil W2
 refine Ni (hK1 (Sq fun K3 hK3 => (Rg (Pu rfl (Ni (hK3 (WC.block ?_)))))))
 refine Sq fun K4 hK4 => (Sq fun K5 hK5 => (Rg (Va (dx_eql rfl rfl rfl) rfl rfl (Pu rfl (Ni (hK5 ?_))))))
 refine WC.cond rfl (fun c6 => ?_) (fun c6 => ?_)
 ·
  replace c6 := dT c6
  refine WC.skip (hK4 ?_)
  refine WC.cond rfl (fun c7 => ?_) (fun c7 => ?_)
  ·
   replace c7 := dT c7
   refine Rg (Pu rfl (Va (dx_nilCheck rfl rfl) rfl rfl (Va (dx_fld (o1 := 0) rfl ty_fld_46_0_0 rfl rfl) rfl rfl (Pu rfl ?_))))
   refine Ge (dx_cb rfl Tryd.func44 rfl rfl rfl (wbyte_v P (l ++ [92]) m c w W2 hB hst (by (try simp only [List.length_append, List.length_cons, List.length_nil]); omega) (by omega) (by omega))) rfl rfl ?_
   rintro _ W8 ⟨⟨rfl, hst⟩, hB⟩
   have hL := LL.nil W8
   refine Ni ?_
   intro a_ ha_
   exact hE (cv_ret0 rfl  ⟨rfl, (show l ++ escJ c = (l ++ [92]) ++ [c] from by first | (rw [esc_q (by first | assumption | omega)]; simp; done) | (rw [esc_8 (by first | assumption | omega)]; simp; done) | (rw [esc_9 (by first | assumption | omega)]; simp; done) | (rw [esc_10 (by first | assumption | omega)]; simp; done) | (rw [esc_12 (by first | assumption | omega)]; simp; done) | (rw [esc_13 (by first | assumption | omega)]; simp; done) | (rw [esc_u (by first | assumption | omega) (by first | assumption | omega) (by first | assumption | omega) (by first | assumption | omega) (by first | assumption | omega) (by first | assumption | omega) (by first | assumption | omega) (by first | assumption | omega)]; simp [sb]; done)) ▸ hst⟩ hB ha_)
  ·
   replace c7 := dF c7
   refine Sq fun K9 hK9 => (Rg (Va (dx_eql rfl rfl rfl) rfl rfl (Pu rfl (Ni (hK9 ?_)))))
   refine WC.cond rfl (fun c10 => ?_) (fun c10 => ?_)
   ·
    replace c10 := dT c10
    refine Rg (Pu rfl (Va (dx_nilCheck rfl rfl) rfl rfl (Va (dx_fld (o1 := 0) rfl ty_fld_46_0_0 rfl rfl) rfl rfl ?_)))
    refine Ge (dx_cb rfl Tryd.func44 rfl rfl rfl (wbyte_v P (l ++ [92]) m 98 w W2 hB hst (by (try simp only [List.length_append, List.length_cons, List.length_nil]); omega) (by omega) (by omega))) rfl rfl ?_
    rintro _ W11 ⟨⟨rfl, hst⟩, hB⟩
    have hL := LL.nil W11
    refine Ni ?_
    intro a_ ha_
    exact hE (cv_ret0 rfl  ⟨rfl, (show l ++ escJ c = (l ++ [92]) ++ [98] from by first | (rw [esc_q (by first | assumption | omega)]; simp; done) | (rw [esc_8 (by first | assumption | omega)]; simp; done) | (rw [esc_9 (by first | assumption | omega)]; simp; done) | (rw [esc_10 (by first | assumption | omega)]; simp; done) | (rw [esc_12 (by first | assumption | omega)]; simp; done) | (rw [esc_13 (by first | assumption | omega)]; simp; done) | (rw [esc_u (by first | assumption | omega) (by first | assumption | omega) (by first | assumption | omega) (by first | assumption | omega) (by first | assumption | omega) (by first | assumption | omega) (by first | assumption | omega) (by first | assumption | omega)]; simp [sb]; done)) ▸ hst⟩ hB ha_)
   ·
    replace c10 := dF c10
    refine Sq fun K12 hK12 => (Rg (Va (dx_eql rfl rfl rfl) rfl rfl (Pu rfl (Ni (hK12 ?_)))))
    refine WC.cond rfl (fun c13 => ?_) (fun c13 => ?_)
    ·
     replace c13 := dT c13
     refine Rg (Pu rfl (Va (dx_nilCheck rfl rfl) rfl rfl (Va (dx_fld (o1 := 0) rfl ty_fld_46_0_0 rfl rfl) rfl rfl ?_)))
     refine Ge (dx_cb rfl Tryd.func44 rfl rfl rfl (wbyte_v P (l ++ [92]) m 116 w W2 hB hst (by (try simp only [List.length_append, List.length_cons, List.length_nil]); omega) (by omega) (by omega))) rfl rfl ?_
     rintro _ W14 ⟨⟨rfl, hst⟩, hB⟩
     have hL := LL.nil W14
     refine Ni ?_
     intro a_ ha_
     exact hE (cv_ret0 rfl  ⟨rfl, (show l ++ escJ c = (l ++ [92]) ++ [116] from by first | (rw [esc_q (by first | assumption | omega)]; simp; done) | (rw [esc_8 (by first | assumption | omega)]; simp; done) | (rw [esc_9 (by first | assumption | omega)]; simp; done) | (rw [esc_10 (by first | assumption | omega)]; simp; done) | (rw [esc_12 (by first | assumption | omega)]; simp; done) | (rw [esc_13 (by first | assumption | omega)]; simp; done) | (rw [esc_u (by first | assumption | omega) (by first | assumption | omega) (by first | assumption | omega) (by first | assumption | omega) (by first | assumption | omega) (by first | assumption | omega) (by first | assumption | omega) (by first | assumption | omega)]; simp [sb]; done)) ▸ hst⟩ hB ha_)
    ·
     replace c13 := dF c13
     refine Sq fun K15 hK15 => (Rg (Va (dx_eql rfl rfl rfl) rfl rfl (Pu rfl (Ni (hK15 ?_)))))
     refine WC.cond rfl (fun c16 => ?_) (fun c16 => ?_)
     ·
      replace c16 := dT c16
      refine Rg (Pu rfl (Va (dx_nilCheck rfl rfl) rfl rfl (Va (dx_fld (o1 := 0) rfl ty_fld_46_0_0 rfl rfl) rfl rfl ?_)))
      refine Ge (dx_cb rfl Tryd.func44 rfl rfl rfl (wbyte_v P (l ++ [92]) m 110 w W2 hB hst (by (try simp only [List.length_append, List.length_cons, List.length_nil]); omega) (by omega) (by omega))) rfl rfl ?_
      rintro _ W17 ⟨⟨rfl, hst⟩, hB⟩
      have hL := LL.nil W17
      refine Ni ?_
      intro a_ ha_
      exact hE (cv_ret0 rfl  ⟨rfl, (show l ++ escJ c = (l ++ [92]) ++ [110] from by first | (rw [esc_q (by first | assumption | omega)]; simp; done) | (rw [esc_8 (by first | assumption | omega)]; simp; done) | (rw [esc_9 (by first | assumption | omega)]; simp; done) | (rw [esc_10 (by first | assumption | omega)]; simp; done) | (rw [esc_12 (by first | assumption | omega)]; simp; done) | (rw [esc_13 (by first | assumption | omega)]; simp; done) | (rw [esc_u (by first | assumption | omega) (by first | assumption | omega) (by first | assumption | omega) (by first | assumption | omega) (by first | assumption | omega) (by first | assumption | omega) (by first | assumption | omega) (by first | assumption | omega)]; simp [sb]; done)) ▸ hst⟩ hB ha_)
     ·
      replace c16 := dF c16
      refine Sq fun K18 hK18 => (Rg (Va (dx_eql rfl rfl rfl) rfl rfl (Pu rfl (Ni (hK18 ?_)))))
      refine WC.cond rfl (fun c19 => ?_) (fun c19 => ?_)
      ·
       replace c19 := dT c19
       refine Rg (Pu rfl (Va (dx_nilCheck rfl rfl) rfl rfl (Va (dx_fld (o1 := 0) rfl ty_fld_46_0_0 rfl rfl) rfl rfl ?_)))
       refine Ge (dx_cb rfl Tryd.func44 rfl rfl rfl (wbyte_v P (l ++ [92]) m 102 w W2 hB hst (by (try simp only [List.length_append, List.length_cons, List.length_nil]); omega) (by omega) (by omega))) rfl rfl ?_
       rintro _ W20 ⟨⟨rfl, hst⟩, hB⟩
       have hL := LL.nil W20
       refine Ni ?_
       intro a_ ha_
       exact hE (cv_ret0 rfl  ⟨rfl, (show l ++ escJ c = (l ++ [92]) ++ [102] from by first | (rw [esc_q (by first | assumption | omega)]; simp; done) | (rw [esc_8 (by first | assumption | omega)]; simp; done) | (rw [esc_9 (by first | assumption | omega)]; simp; done) | (rw [esc_10 (by first | assumption | omega)]; simp; done) | (rw [esc_12 (by first | assumption | omega)]; simp; done) | (rw [esc_13 (by first | assumption | omega)]; simp; done) | (rw [esc_u (by first | assumption | omega) (by first | assumption | omega) (by first | assumption | omega) (by first | assumption | omega) (by first | assumption | omega) (by first | assumption | omega) (by first | assumption | omega) (by first | assumption | omega)]; simp [sb]; done)) ▸ hst⟩ hB ha_)
      ·
       replace c19 := dF c19
       refine Sq fun K21 hK21 => (Rg (Va (dx_eql rfl rfl rfl) rfl rfl (Pu rfl (Ni (hK21 ?_)))))
       refine WC.cond rfl (fun c22 => ?_) (fun c22 => ?_)
       ·
        replace c22 := dT c22
        refine Rg (Pu rfl (Va (dx_nilCheck rfl rfl) rfl rfl (Va (dx_fld (o1 := 0) rfl ty_fld_46_0_0 rfl rfl) rfl rfl ?_)))
        refine Ge (dx_cb rfl Tryd.func44 rfl rfl rfl (wbyte_v P (l ++ [92]) m 114 w W2 hB hst (by (try simp only [List.length_append, List.length_cons, List.length_nil]); omega) (by omega) (by omega))) rfl rfl ?_
        rintro _ W23 ⟨⟨rfl, hst⟩, hB⟩
        have hL := LL.nil W23
        refine Ni ?_
        intro a_ ha_
        exact hE (cv_ret0 rfl  ⟨rfl, (show l ++ escJ c = (l ++ [92]) ++ [114] from by first | (rw [esc_q (by first | assumption | omega)]; simp; done) | (rw [esc_8 (by first | assumption | omega)]; simp; done) | (rw [esc_9 (by first | assumption | omega)]; simp; done) | (rw [esc_10 (by first | assumption | omega)]; simp; done) | (rw [esc_12 (by first | assumption | omega)]; simp; done) | (rw [esc_13 (by first | assumption | omega)]; simp; done) | (rw [esc_u (by first | assumption | omega) (by first | assumption | omega) (by first | assumption | omega) (by first | assumption | omega) (by first | assumption | omega) (by first | assumption | omega) (by first | assumption | omega) (by first | assumption | omega)]; simp [sb]; done)) ▸ hst⟩ hB ha_)
       ·
        replace c22 := dF c22
        refine Sq fun K24 hK24 => (Rg (Pu rfl (Va (dx_nilCheck rfl rfl) rfl rfl (Va (dx_fld (o1 := 0) rfl ty_fld_46_0_0 rfl rfl) rfl rfl ?_))))
        refine Ge (dx_cb rfl Tryd.func38 rfl rfl rfl (wstr_v P (l ++ [92]) m ({ data := #[117, 48, 48] }) w W2 hB hst (by (try simp only [List.length_append, List.length_cons, List.length_nil]); omega) (by decide))) rfl rfl ?_
        rintro _ W25 ⟨⟨rfl, hst⟩, hB⟩
        have hL := LL.nil W25
        refine Ni (hK24 (Sq fun K26 hK26 => ?_))
        have hq3_ : (sb ({ data := #[117, 48, 48] } : ByteArray)).length = 3 := rfl
        have hx1_ := hexL_le (c := c / 16) (by omega) (by omega)
        have hx2_ := hexL_le (c := c % 16) (by omega) (by omega)
        refine WC.drawM 6 [(some 13, .is (.pointer (some ⟨P, 0, none⟩))), (some 14, .is (.pointer (some ⟨P, 0, none⟩))), (some 15, .is (.pointer (some ⟨P, 0, none⟩))), (some 16, .is (.int .u8 c)), (some 17, .is (.int .u8 (c / 16))), (some 18, .is (.int .u8 (hexL (c / 16))))] [[], [0], [1], [], [3], [4]] (by kernel_rfl) (by kernel_rfl) (by kernel_rfl) (by kernel_rfl) (by kernel_rfl) (by kernel_rfl) (by kernel_rfl) (by exact trivial) ?_ ?_
        ·
         refine Dc (fun Wd hd => ?_) ?_
         ·
          exact Dd (dx_move rfl rfl) rfl
         refine Dc (fun Wd hd => ?_) ?_
         ·
          exact Dd (dx_nilCheck rfl rfl) rfl
         refine Dc (fun Wd hd => ?_) ?_
         ·
          exact Dd (dx_fld (o1 := 0) rfl ty_fld_46_0_0 rfl rfl) rfl
         refine Dc (fun Wd hd => ?_) ?_
         ·
          exact Dd (dx_move rfl rfl) rfl
         refine Dc (fun Wd hd => ?_) ?_
         ·
          exact Dd (dx_shr (r := c / 16) rfl rfl rfl (by decide) (by decide) (by show c / 2 ^ 4 = _; rfl)) rfl
         refine Dc (fun Wd hd => ?_) ?_
         ·
          exact Dd (dv_e (dx_at (c / 16).toNat rfl Tryd.underlying9 rfl rfl (by omega) (by show (c / 16).toNat < 16; omega)) (congrArg (Value.int .u8) (hex_at (c := c / 16) (by omega) (by omega)))) rfl
         exact trivial
        ·
         intro W27 b28
         replace hst := hst.below b28
         replace hB := below_then hB b28
         replace hL := LL.below hL b28
         refine Ge (dx_cb rfl Tryd.func44 rfl rfl rfl (wbyte_v P ((l ++ [92]) ++ sb ({ data := #[117, 48, 48] })) m (hexL (c / 16)) w W27 hB hst (by (try simp only [List.length_append, List.length_cons, List.length_nil]); omega) (by omega) (by omega))) rfl rfl ?_
         rintro _ W29 ⟨⟨rfl, hst⟩, hB⟩
         have hL := LL.nil W29
         refine Ni (hK26 ?_)
         have hq3_ : (sb ({ data := #[117, 48, 48] } : ByteArray)).length = 3 := rfl
         have hx1_ := hexL_le (c := c / 16) (by omega) (by omega)
         have hx2_ := hexL_le (c := c % 16) (by omega) (by omega)
         refine WC.drawM 6 [(some 20, .is (.pointer (some ⟨P, 0, none⟩))), (some 21, .is (.pointer (some ⟨P, 0, none⟩))), (some 22, .is (.pointer (some ⟨P, 0, none⟩))), (some 23, .is (.int .u8 c)), (some 24, .is (.int .u8 (c % 16))), (some 25, .is (.int .u8 (hexL (c % 16))))] [[], [0], [1], [], [3], [4]] (by kernel_rfl) (by kernel_rfl) (by kernel_rfl) (by kernel_rfl) (by kernel_rfl) (by kernel_rfl) (by kernel_rfl) (by exact trivial) ?_ ?_
         ·
          refine Dc (fun Wd hd => ?_) ?_
          ·
           exact Dd (dx_move rfl rfl) rfl
          refine Dc (fun Wd hd => ?_) ?_
          ·
           exact Dd (dx_nilCheck rfl rfl) rfl
          refine Dc (fun Wd hd => ?_) ?_
          ·
           exact Dd (dx_fld (o1 := 0) rfl ty_fld_46_0_0 rfl rfl) rfl
          refine Dc (fun Wd hd => ?_) ?_
          ·
           exact Dd (dx_move rfl rfl) rfl
          refine Dc (fun Wd hd => ?_) ?_
          ·
           exact Dd (dx_and_i (r := c % 16) rfl rfl rfl (u8_and_15 hc0 (by omega))) rfl
          refine Dc (fun Wd hd => ?_) ?_
          ·
           exact Dd (dv_e (dx_at (c % 16).toNat rfl Tryd.underlying9 rfl rfl (by omega) (by show (c % 16).toNat < 16; omega)) (congrArg (Value.int .u8) (hex_at (c := c % 16) (by omega) (by omega)))) rfl
          exact trivial
         ·
          intro W30 b31
          replace hst := hst.below b31
          replace hB := below_then hB b31
          replace hL := LL.below hL b31
          refine Ge (dx_cb rfl Tryd.func44 rfl rfl rfl (wbyte_v P (((l ++ [92]) ++ sb ({ data := #[117, 48, 48] })) ++ [hexL (c / 16)]) m (hexL (c % 16)) w W30 hB hst (by (try simp only [List.length_append, List.length_cons, List.length_nil]); omega) (by omega) (by omega))) rfl rfl ?_
          rintro _ W32 ⟨⟨rfl, hst⟩, hB⟩
          have hL := LL.nil W32
          refine Ni ?_
          intro a_ ha_
          exact hE (cv_ret0 rfl  ⟨rfl, (show l ++ escJ c = (((l ++ [92]) ++ sb ({ data := #[117, 48, 48] })) ++ [hexL (c / 16)]) ++ [hexL (c % 16)] from by first | (rw [esc_q (by first | assumption | omega)]; simp; done) | (rw [esc_8 (by first | assumption | omega)]; simp; done) | (rw [esc_9 (by first | assumption | omega)]; simp; done) | (rw [esc_10 (by first | assumption | omega)]; simp; done) | (rw [esc_12 (by first | assumption | omega)]; simp; done) | (rw [esc_13 (by first | assumption | omega)]; simp; done) | (rw [esc_u (by first | assumption | omega) (by first | assumption | omega) (by first | assumption | omega) (by first | assumption | omega) (by first | assumption | omega) (by first | assumption | omega) (by first | assumption | omega) (by first | assumption | omega)]; simp [sb]; done)) ▸ hst⟩ hB ha_)
 ·
  replace c6 := dF c6
  refine Rg (Va (dx_eql rfl rfl rfl) rfl rfl (Pu rfl (Ni (hK4 ?_))))
  refine WC.cond rfl (fun c33 => ?_) (fun c33 => ?_)
  ·
   replace c33 := dT c33
   refine Rg (Pu rfl (Va (dx_nilCheck rfl rfl) rfl rfl (Va (dx_fld (o1 := 0) rfl ty_fld_46_0_0 rfl rfl) rfl rfl (Pu rfl ?_))))
   refine Ge (dx_cb rfl Tryd.func44 rfl rfl rfl (wbyte_v P (l ++ [92]) m c w W2 hB hst (by (try simp only [List.length_append, List.length_cons, List.length_nil]); omega) (by omega) (by omega))) rfl rfl ?_
   rintro _ W34 ⟨⟨rfl, hst⟩, hB⟩
   have hL := LL.nil W34
   refine Ni ?_
   intro a_ ha_
   exact hE (cv_ret0 rfl  ⟨rfl, (show l ++ escJ c = (l ++ [92]) ++ [c] from by first | (rw [esc_q (by first | assumption | omega)]; simp; done) | (rw [esc_8 (by first | assumption | omega)]; simp; done) | (rw [esc_9 (by first | assumption | omega)]; simp; done) | (rw [esc_10 (by first | assumption | omega)]; simp; done) | (rw [esc_12 (by first | assumption | omega)]; simp; done) | (rw [esc_13 (by first | assumption | omega)]; simp; done) | (rw [esc_u (by first | assumption | omega) (by first | assumption | omega) (by first | assumption | omega) (by first | assumption | omega) (by first | assumption | omega) (by first | assumption | omega) (by first | assumption | omega) (by first | assumption | omega)]; simp [sb]; done)) ▸ hst⟩ hB ha_)
  ·
   replace c33 := dF c33
   refine Sq fun K35 hK35 => (Rg (Va (dx_eql rfl rfl rfl) rfl rfl (Pu rfl (Ni (hK35 ?_)))))
   refine WC.cond rfl (fun c36 => ?_) (fun c36 => ?_)
   ·
    replace c36 := dT c36
    refine Rg (Pu rfl (Va (dx_nilCheck rfl rfl) rfl rfl (Va (dx_fld (o1 := 0) rfl ty_fld_46_0_0 rfl rfl) rfl rfl ?_)))
    refine Ge (dx_cb rfl Tryd.func44 rfl rfl rfl (wbyte_v P (l ++ [92]) m 98 w W2 hB hst (by (try simp only [List.length_append, List.length_cons, List.length_nil]); omega) (by omega) (by omega))) rfl rfl ?_
    rintro _ W37 ⟨⟨rfl, hst⟩, hB⟩
    have hL := LL.nil W37
    refine Ni ?_
    intro a_ ha_
    exact hE (cv_ret0 rfl  ⟨rfl, (show l ++ escJ c = (l ++ [92]) ++ [98] from by first | (rw [esc_q (by first | assumption | omega)]; simp; done) | (rw [esc_8 (by first | assumption | omega)]; simp; done) | (rw [esc_9 (by first | assumption | omega)]; simp; done) | (rw [esc_10 (by first | assumption | omega)]; simp; done) | (rw [esc_12 (by first | assumption | omega)]; simp; done) | (rw [esc_13 (by first | assumption | omega)]; simp; done) | (rw [esc_u (by first | assumption | omega) (by first | assumption | omega) (by first | assumption | omega) (by first | assumption | omega) (by first | assumption | omega) (by first | assumption | omega) (by first | assumption | omega) (by first | assumption | omega)]; simp [sb]; done)) ▸ hst⟩ hB ha_)
   ·
    replace c36 := dF c36
    refine Sq fun K38 hK38 => (Rg (Va (dx_eql rfl rfl rfl) rfl rfl (Pu rfl (Ni (hK38 ?_)))))
    refine WC.cond rfl (fun c39 => ?_) (fun c39 => ?_)
    ·
     replace c39 := dT c39
     refine Rg (Pu rfl (Va (dx_nilCheck rfl rfl) rfl rfl (Va (dx_fld (o1 := 0) rfl ty_fld_46_0_0 rfl rfl) rfl rfl ?_)))
     refine Ge (dx_cb rfl Tryd.func44 rfl rfl rfl (wbyte_v P (l ++ [92]) m 116 w W2 hB hst (by (try simp only [List.length_append, List.length_cons, List.length_nil]); omega) (by omega) (by omega))) rfl rfl ?_
     rintro _ W40 ⟨⟨rfl, hst⟩, hB⟩
     have hL := LL.nil W40
     refine Ni ?_
     intro a_ ha_
     exact hE (cv_ret0 rfl  ⟨rfl, (show l ++ escJ c = (l ++ [92]) ++ [116] from by first | (rw [esc_q (by first | assumption | omega)]; simp; done) | (rw [esc_8 (by first | assumption | omega)]; simp; done) | (rw [esc_9 (by first | assumption | omega)]; simp; done) | (rw [esc_10 (by first | assumption | omega)]; simp; done) | (rw [esc_12 (by first | assumption | omega)]; simp; done) | (rw [esc_13 (by first | assumption | omega)]; simp; done) | (rw [esc_u (by first | assumption | omega) (by first | assumption | omega) (by first | assumption | omega) (by first | assumption | omega) (by first | assumption | omega) (by first | assumption | omega) (by first | assumption | omega) (by first | assumption | omega)]; simp [sb]; done)) ▸ hst⟩ hB ha_)
    ·
     replace c39 := dF c39
     refine Sq fun K41 hK41 => (Rg (Va (dx_eql rfl rfl rfl) rfl rfl (Pu rfl (Ni (hK41 ?_)))))
     refine WC.cond rfl (fun c42 => ?_) (fun c42 => ?_)
     ·
      replace c42 := dT c42
      refine Rg (Pu rfl (Va (dx_nilCheck rfl rfl) rfl rfl (Va (dx_fld (o1 := 0) rfl ty_fld_46_0_0 rfl rfl) rfl rfl ?_)))
      refine Ge (dx_cb rfl Tryd.func44 rfl rfl rfl (wbyte_v P (l ++ [92]) m 110 w W2 hB hst (by (try simp only [List.length_append, List.length_cons, List.length_nil]); omega) (by omega) (by omega))) rfl rfl ?_
      rintro _ W43 ⟨⟨rfl, hst⟩, hB⟩
      have hL := LL.nil W43
      refine Ni ?_
      intro a_ ha_
      exact hE (cv_ret0 rfl  ⟨rfl, (show l ++ escJ c = (l ++ [92]) ++ [110] from by first | (rw [esc_q (by first | assumption | omega)]; simp; done) | (rw [esc_8 (by first | assumption | omega)]; simp; done) | (rw [esc_9 (by first | assumption | omega)]; simp; done) | (rw [esc_10 (by first | assumption | omega)]; simp; done) | (rw [esc_12 (by first | assumption | omega)]; simp; done) | (rw [esc_13 (by first | assumption | omega)]; simp; done) | (rw [esc_u (by first | assumption | omega) (by first | assumption | omega) (by first | assumption | omega) (by first | assumption | omega) (by first | assumption | omega) (by first | assumption | omega) (by first | assumption | omega) (by first | assumption | omega)]; simp [sb]; done)) ▸ hst⟩ hB ha_)
     ·
      replace c42 := dF c42
      refine Sq fun K44 hK44 => (Rg (Va (dx_eql rfl rfl rfl) rfl rfl (Pu rfl (Ni (hK44 ?_)))))
      refine WC.cond rfl (fun c45 => ?_) (fun c45 => ?_)
      ·
       replace c45 := dT c45
       refine Rg (Pu rfl (Va (dx_nilCheck rfl rfl) rfl rfl (Va (dx_fld (o1 := 0) rfl ty_fld_46_0_0 rfl rfl) rfl rfl ?_)))
       refine Ge (dx_cb rfl Tryd.func44 rfl rfl rfl (wbyte_v P (l ++ [92]) m 102 w W2 hB hst (by (try simp only [List.length_append, List.length_cons, List.length_nil]); omega) (by omega) (by omega))) rfl rfl ?_
       rintro _ W46 ⟨⟨rfl, hst⟩, hB⟩
       have hL := LL.nil W46
       refine Ni ?_
       intro a_ ha_
       exact hE (cv_ret0 rfl  ⟨rfl, (show l ++ escJ c = (l ++ [92]) ++ [102] from by first | (rw [esc_q (by first | assumption | omega)]; simp; done) | (rw [esc_8 (by first | assumption | omega)]; simp; done) | (rw [esc_9 (by first | assumption | omega)]; simp; done) | (rw [esc_10 (by first | assumption | omega)]; simp; done) | (rw [esc_12 (by first | assumption | omega)]; simp; done) | (rw [esc_13 (by first | assumption | omega)]; simp; done) | (rw [esc_u (by first | assumption | omega) (by first | assumption | omega) (by first | assumption | omega) (by first | assumption | omega) (by first | assumption | omega) (by first | assumption | omega) (by first | assumption | omega) (by first | assumption | omega)]; simp [sb]; done)) ▸ hst⟩ hB ha_)
      ·
       replace c45 := dF c45
       refine Sq fun K47 hK47 => (Rg (Va (dx_eql rfl rfl rfl) rfl rfl (Pu rfl (Ni (hK47 ?_)))))
       refine WC.cond rfl (fun c48 => ?_) (fun c48 => ?_)
       ·
        replace c48 := dT c48
        refine Rg (Pu rfl (Va (dx_nilCheck rfl rfl) rfl rfl (Va (dx_fld (o1 := 0) rfl ty_fld_46_0_0 rfl rfl) rfl rfl ?_)))
        refine Ge (dx_cb rfl Tryd.func44 rfl rfl rfl (wbyte_v P (l ++ [92]) m 114 w W2 hB hst (by (try simp only [List.length_append, List.length_cons, List.length_nil]); omega) (by omega) (by omega))) rfl rfl ?_
        rintro _ W49 ⟨⟨rfl, hst⟩, hB⟩
        have hL := LL.nil W49
        refine Ni ?_
        intro a_ ha_
        exact hE (cv_ret0 rfl  ⟨rfl, (show l ++ escJ c = (l ++ [92]) ++ [114] from by first | (rw [esc_q (by first | assumption | omega)]; simp; done) | (rw [esc_8 (by first | assumption | omega)]; simp; done) | (rw [esc_9 (by first | assumption | omega)]; simp; done) | (rw [esc_10 (by first | assumption | omega)]; simp; done) | (rw [esc_12 (by first | assumption | omega)]; simp; done) | (rw [esc_13 (by first | assumption | omega)]; simp; done) | (rw [esc_u (by first | assumption | omega) (by first | assumption | omega) (by first | assumption | omega) (by first | assumption | omega) (by first | assumption | omega) (by first | assumption | omega) (by first | assumption | omega) (by first | assumption | omega)]; simp [sb]; done)) ▸ hst⟩ hB ha_)
       ·
        replace c48 := dF c48
        refine Sq fun K50 hK50 => (Rg (Pu rfl (Va (dx_nilCheck rfl rfl) rfl rfl (Va (dx_fld (o1 := 0) rfl ty_fld_46_0_0 rfl rfl) rfl rfl ?_))))
        refine Ge (dx_cb rfl Tryd.func38 rfl rfl rfl (wstr_v P (l ++ [92]) m ({ data := #[117, 48, 48] }) w W2 hB hst (by (try simp only [List.length_append, List.length_cons, List.length_nil]); omega) (by decide))) rfl rfl ?_
        rintro _ W51 ⟨⟨rfl, hst⟩, hB⟩
        have hL := LL.nil W51
        refine Ni (hK50 (Sq fun K52 hK52 => ?_))
        have hq3_ : (sb ({ data := #[117, 48, 48] } : ByteArray)).length = 3 := rfl
        have hx1_ := hexL_le (c := c / 16) (by omega) (by omega)
        have hx2_ := hexL_le (c := c % 16) (by omega) (by omega)
        refine WC.drawM 6 [(some 13, .is (.pointer (some ⟨P, 0, none⟩))), (some 14, .is (.pointer (some ⟨P, 0, none⟩))), (some 15, .is (.pointer (some ⟨P, 0, none⟩))), (some 16, .is (.int .u8 c)), (some 17, .is (.int .u8 (c / 16))), (some 18, .is (.int .u8 (hexL (c / 16))))] [[], [0], [1], [], [3], [4]] (by kernel_rfl) (by kernel_rfl) (by kernel_rfl) (by kernel_rfl) (by kernel_rfl) (by kernel_rfl) (by kernel_rfl) (by exact trivial) ?_ ?_
        ·
         refine Dc (fun Wd hd => ?_) ?_
         ·
          exact Dd (dx_move rfl rfl) rfl
         refine Dc (fun Wd hd => ?_) ?_
         ·
          exact Dd (dx_nilCheck rfl rfl) rfl
         refine Dc (fun Wd hd => ?_) ?_
         ·
          exact Dd (dx_fld (o1 := 0) rfl ty_fld_46_0_0 rfl rfl) rfl
         refine Dc (fun Wd hd => ?_) ?_
         ·
          exact Dd (dx_move rfl rfl) rfl
         refine Dc (fun Wd hd => ?_) ?_
         ·
          exact Dd (dx_shr (r := c / 16) rfl rfl rfl (by decide) (by decide) (by show c / 2 ^ 4 = _; rfl)) rfl
         refine Dc (fun Wd hd => ?_) ?_
         ·
          exact Dd (dv_e (dx_at (c / 16).toNat rfl Tryd.underlying9 rfl rfl (by omega) (by show (c / 16).toNat < 16; omega)) (congrArg (Value.int .u8) (hex_at (c := c / 16) (by omega) (by omega)))) rfl
         exact trivial
        ·
         intro W53 b54
         replace hst := hst.below b54
         replace hB := below_then hB b54
         replace hL := LL.below hL b54
         refine Ge (dx_cb rfl Tryd.func44 rfl rfl rfl (wbyte_v P ((l ++ [92]) ++ sb ({ data := #[117, 48, 48] })) m (hexL (c / 16)) w W53 hB hst (by (try simp only [List.length_append, List.length_cons, List.length_nil]); omega) (by omega) (by omega))) rfl rfl ?_
         rintro _ W55 ⟨⟨rfl, hst⟩, hB⟩
         have hL := LL.nil W55
         refine Ni (hK52 ?_)
         have hq3_ : (sb ({ data := #[117, 48, 48] } : ByteArray)).length = 3 := rfl
         have hx1_ := hexL_le (c := c / 16) (by omega) (by omega)
         have hx2_ := hexL_le (c := c % 16) (by omega) (by omega)
         refine WC.drawM 6 [(some 20, .is (.pointer (some ⟨P, 0, none⟩))), (some 21, .is (.pointer (some ⟨P, 0, none⟩))), (some 22, .is (.pointer (some ⟨P, 0, none⟩))), (some 23, .is (.int .u8 c)), (some 24, .is (.int .u8 (c % 16))), (some 25, .is (.int .u8 (hexL (c % 16))))] [[], [0], [1], [], [3], [4]] (by kernel_rfl) (by kernel_rfl) (by kernel_rfl) (by kernel_rfl) (by kernel_rfl) (by kernel_rfl) (by kernel_rfl) (by exact trivial) ?_ ?_
         ·
          refine Dc (fun Wd hd => ?_) ?_
          ·
           exact Dd (dx_move rfl rfl) rfl
          refine Dc (fun Wd hd => ?_) ?_
          ·
           exact Dd (dx_nilCheck rfl rfl) rfl
          refine Dc (fun Wd hd => ?_) ?_
          ·
           exact Dd (dx_fld (o1 := 0) rfl ty_fld_46_0_0 rfl rfl) rfl
          refine Dc (fun Wd hd => ?_) ?_
          ·
           exact Dd (dx_move rfl rfl) rfl
          refine Dc (fun Wd hd => ?_) ?_
          ·
           exact Dd (dx_and_i (r := c % 16) rfl rfl rfl (u8_and_15 hc0 (by omega))) rfl
          refine Dc (fun Wd hd => ?_) ?_
          ·
           exact Dd (dv_e (dx_at (c % 16).toNat rfl Tryd.underlying9 rfl rfl (by omega) (by show (c % 16).toNat < 16; omega)) (congrArg (Value.int .u8) (hex_at (c := c % 16) (by omega) (by omega)))) rfl
          exact trivial
         ·
          intro W56 b57
          replace hst := hst.below b57
          replace hB := below_then hB b57
          replace hL := LL.below hL b57
          refine Ge (dx_cb rfl Tryd.func44 rfl rfl rfl (wbyte_v P (((l ++ [92]) ++ sb ({ data := #[117, 48, 48] })) ++ [hexL (c / 16)]) m (hexL (c % 16)) w W56 hB hst (by (try simp only [List.length_append, List.length_cons, List.length_nil]); omega) (by omega) (by omega))) rfl rfl ?_
          rintro _ W58 ⟨⟨rfl, hst⟩, hB⟩
          have hL := LL.nil W58
          refine Ni ?_
          intro a_ ha_
          exact hE (cv_ret0 rfl  ⟨rfl, (show l ++ escJ c = (((l ++ [92]) ++ sb ({ data := #[117, 48, 48] })) ++ [hexL (c / 16)]) ++ [hexL (c % 16)] from by first | (rw [esc_q (by first | assumption | omega)]; simp; done) | (rw [esc_8 (by first | assumption | omega)]; simp; done) | (rw [esc_9 (by first | assumption | omega)]; simp; done) | (rw [esc_10 (by first | assumption | omega)]; simp; done) | (rw [esc_12 (by first | assumption | omega)]; simp; done) | (rw [esc_13 (by first | assumption | omega)]; simp; done) | (rw [esc_u (by first | assumption | omega) (by first | assumption | omega) (by first | assumption | omega) (by first | assumption | omega) (by first | assumption | omega) (by first | assumption | omega) (by first | assumption | omega) (by first | assumption | omega)]; simp [sb]; done)) ▸ hst⟩ hB ha_)

theorem ext_at {s : ByteArray} {i j : Nat} : sb (s.extract i j) = ((sb s).take j).drop i := by
 rw [Lib.extract_eq]
 simp [sb, List.map_take, List.map_drop, List.drop_take]
def txtL (s : ByteArray) (a : Nat) : List Int := 34 :: ((sb s).take a).flatMap escJ
theorem txt_0 (s : ByteArray) : txtL s 0 = [34] := rfl
section
variable {s : ByteArray} {a i : Nat}
theorem flat_plain : ∀ {l : List Int}, (∀ c ∈ l, escJ c = [c]) → l.flatMap escJ = l
 | [], _ => rfl
 | c :: l, h => by rw [List.flatMap_cons, h c (.head _), flat_plain fun x hx => h x (.tail _ hx)]; rfl
theorem plain_in {j : Nat} (h : ∀ q, a ≤ q → q < j → escJ (atS s q) = [atS s q]) (hj : j ≤ s.size) : ∀ c ∈ ((sb s).take j).drop a, escJ c = [c] := fun c hc => by
  obtain ⟨k, hk⟩ := List.mem_iff_getElem?.1 hc
  rw [List.getElem?_drop, List.getElem?_take] at hk
  split at hk
  · rename_i hlt
    rw [sb_at (by omega)] at hk
    rw [← Option.some.inj hk]; exact h _ (by omega) hlt
  · cases hk
theorem txt_step (ha : a ≤ i) (hi : i < s.size) (h : ∀ q, a ≤ q → q < i → escJ (atS s q) = [atS s q]) : txtL s (i + 1) = txtL s a ++ (sb (s.extract a i) ++ escJ (atS s i)) := by
 unfold txtL
 have e : (sb s).take (i + 1) = (sb s).take a ++ (((sb s).take i).drop a ++ [atS s i]) := by
  rw [List.take_add_one, sb_at hi, ← List.append_assoc]
  congr 1
  rw [show (sb s).take a = ((sb s).take i).take a from by rw [List.take_take, Nat.min_eq_left ha], List.take_append_drop]
 rw [e, List.flatMap_append, List.flatMap_append, flat_plain (plain_in h (by omega)), ext_at]
 simp
theorem txt_end (ha : a ≤ s.size) (h : ∀ q, a ≤ q → q < s.size → escJ (atS s q) = [atS s q]) : quoJ s = txtL s a ++ (sb (s.extract a s.size) ++ [34]) := by
 unfold txtL quoJ
 have e0 : (sb s).take s.size = sb s := List.take_of_length_le (by rw [sb_length]; exact Nat.le_refl _)
 have e : sb s = (sb s).take a ++ ((sb s).take s.size).drop a := by
  rw [e0, List.take_append_drop]
 have e2 : (sb s).flatMap escJ = ((sb s).take a).flatMap escJ ++ ((sb s).take s.size).drop a := by
  conv => lhs; rw [e]
  rw [List.flatMap_append, flat_plain (plain_in h (Nat.le_refl _))]
 rw [e2, ext_at]
 simp
theorem fesc_len : ∀ l : List Int, (l.flatMap escJ).length ≤ 6 * l.length
 | [] => Nat.zero_le _
 | c :: l => by rw [List.flatMap_cons, List.length_append, List.length_cons]; have := fesc_len l; have := esc_len (c := c); omega
theorem txt_len : (txtL s a).length ≤ 6 * s.size + 1 := by
 unfold txtL
 have := fesc_len ((sb s).take a)
 rw [List.length_take, sb_length] at this
 rw [List.length_cons]; omega
theorem quo_len (s : ByteArray) : (quoJ s).length ≤ 6 * s.size + 2 := by
 unfold quoJ
 have := fesc_len (sb s)
 rw [sb_length] at this
 rw [List.length_cons, List.length_append, List.length_singleton]; omega
theorem txt_pre (hi : i ≤ s.size) : ∃ y, quoJ s = txtL s i ++ y := ⟨((sb s).drop i).flatMap escJ ++ [34], by
 unfold quoJ txtL
 conv => lhs; rw [← List.take_append_drop i (sb s), List.flatMap_append]
 simp⟩
theorem extr_size {j : Nat} : (s.extract a j).size ≤ s.size := by rw [← sb_length, ext_at, List.length_drop, List.length_take, sb_length]; omega
end
set_option maxHeartbeats 1000000 in
theorem ptext_v (P : Nat) (l : List Int) (m : Int) (s : ByteArray) (w w1 : World) (hB : Below w.heap.size w w1) (hst : PrS w.heap.size P l m w1) (hlen : l.length ≤ 1000000000) (hs : s.size ≤ 1000000) : CB Tryd.prog 28 [.pointer (some ⟨P, 0, none⟩), .string s] w w1 fun v W => v = .tuple #[] ∧ ∃ l', PrK m 6000002 l (quoJ s) l' ∧ PrS w.heap.size P l' m W := by
 refine cb_enter (N := 56) (f := [(0, .pointer (some ⟨P, 0, none⟩)), (1, .string s)]) Tryd.func28 rfl rfl rfl rfl fun Q hQ hE => ?_
 have hL := LL.nil w1
 refine Sq fun K1 hK1 => (Rg (Pu rfl (Va (dx_nilCheck rfl rfl) rfl rfl (Va (dx_fld (o1 := 0) rfl ty_fld_46_0_0 rfl rfl) rfl rfl ?_))))
 refine Ge (dx_cb rfl Tryd.func44 rfl rfl rfl (wbyte_v P l m 34 w w1 hB hst (by (try simp only [List.length_append, List.length_cons, List.length_nil]); omega) (by omega) (by omega))) rfl rfl ?_
 rintro _ W2 ⟨⟨rfl, hst⟩, hB⟩
 have hL := LL.nil W2
 refine Ni (hK1 (Sq fun K3 hK3 => (Rg (Pu rfl (Ni (hK3 (Sq fun K4 hK4 => ?_)))))))
 refine Sq fun K5 hK5 => (Rg (Pu rfl (Va (dx_lenT rfl Tryd.underlying9 rfl) rfl rfl (Pu rfl (Ni (hK5 (WC.block ?_)))))))
 rw [← txt_0 s] at hst
 refine WC.loop2 (fun (i : Nat) (a : Nat) => [(0, .pointer (some ⟨P, 0, none⟩)), (1, .string s), (11, .string s), (12, .int .i64 (s.size : Int)), (13, .int .i64 (i : Int)), (4, .int .i64 (a : Int))]) (fun (i : Nat) (a : Nat) W => i ≤ s.size ∧ a ≤ i ∧ (∀ q, a ≤ q → q < i → escJ (atS s q) = [atS s q]) ∧ Below w.heap.size w W ∧ LL ([]) W ∧ PrS w.heap.size P (l ++ txtL s a) m W) (fun (i : Nat) (a : Nat) => s.size - i) 0 0 (by repeat first | exact trivial | exact And.intro rfl trivial | refine And.intro rfl ?_ | refine And.intro (congrArg (fun z : Int => some (Value.int .i64 z)) (by omega)) ?_) ⟨Nat.zero_le _, Nat.le_refl _, (fun q h1 h2 => by omega), hB, hL, hst⟩ ?_
 clear hst hB hL
 rintro K6 i a W7 ⟨hi, ha, hpl, hB, hL, hst⟩ hK6
 refine Sq fun K8 hK8 => (Rg (Va (dx_lss rfl rfl rfl) rfl rfl (Ni (hK8 (Sq fun K9 hK9 => ?_)))))
 refine WC.cond rfl (fun c10 => ?_) (fun c10 => ?_)
 ·
  replace c10 := dT c10
  refine WC.skip (hK9 (Sq fun K11 hK11 => (WC.block (Sq fun K12 hK12 => (Rg (Pu rfl (Pu rfl ?_)))))))
  refine Ni (hK12 (Sq fun K13 hK13 => (Rg (Pu rfl (Pu rfl (Va (dx_at i rfl Tryd.underlying9 rfl rfl (by omega) (by omega)) rfl rfl (Pu rfl ?_)))))))
  refine Ni (hK13 (Sq fun K14 hK14 => (Sq fun K15 hK15 => (Rg (Pu rfl (Va (dx_geq rfl rfl rfl) rfl rfl (Pu rfl ?_)))))))
  refine WL.split 21 rfl (fun g16 => ?_) (fun g16 => ?_)
  ·
   replace g16 := dT g16
   refine Pu rfl (Va (dx_neq rfl rfl rfl) rfl rfl (Pu rfl (Pu rfl ?_)))
   refine WL.split 25 rfl (fun g17 => ?_) (fun g17 => ?_)
   ·
    replace g17 := bnot_t g17
    replace g17 := dF g17
    refine Pu rfl (Va (dx_neq rfl rfl rfl) rfl rfl (Pu rfl (Ni (hK15 ?_))))
    refine WC.cond rfl (fun c18 => ?_) (fun c18 => ?_)
    ·
     replace c18 := bnot_t c18
     replace c18 := dF c18
     refine WC.exit ?_
     refine hK11 (Rg (Va (dx_add (r := (i : Int) + 1) rfl rfl rfl (wrap64_id (by omega))) rfl rfl (Pu rfl (Ni ?_))))
     exact hK6 (i + 1) a ⟨(by omega), (by omega), (fun q h1 h2 => by rcases Nat.lt_or_ge q i with h_ | h_; exact hpl q h1 h_; obtain rfl : q = i := (by omega); exact esc_p (by omega) (by first | assumption | omega) (by first | assumption | omega)), hB, hL, hst⟩ (by omega) (by repeat first | exact trivial | exact And.intro rfl trivial | refine And.intro rfl ?_ | refine And.intro (congrArg (fun z : Int => some (Value.int .i64 z)) (by omega)) ?_)
    ·
     replace c18 := bnot_f c18
     replace c18 := dT c18
     refine WC.skip (hK14 (Sq fun K19 hK19 => ?_))
     have hesc : atS s i < 32 ∨ atS s i = 34 ∨ atS s i = 92 := by first | omega | (simp_all; omega)
     have hc2 := atS_lo s i
     refine WC.drawM 7 [(some 29, .is (.pointer (some ⟨P, 0, none⟩))), (some 30, .is (.pointer (some ⟨P, 0, none⟩))), (some 31, .is (.pointer (some ⟨P, 0, none⟩))), (some 32, .is (.string s)), (some 33, .is (.int .i64 (a : Int))), (some 34, .is (.int .i64 (i : Int))), (some 35, .is (.string ((s).extract a i)))] [[], [0], [1], [], [], [], [3, 4, 5]] (by kernel_rfl) (by kernel_rfl) (by kernel_rfl) (by kernel_rfl) (by kernel_rfl) (by kernel_rfl) (by kernel_rfl) (by exact trivial) ?_ ?_
     ·
      refine Dc (fun Wd hd => ?_) ?_
      ·
       exact Dd (dx_move rfl rfl) rfl
      refine Dc (fun Wd hd => ?_) ?_
      ·
       exact Dd (dx_nilCheck rfl rfl) rfl
      refine Dc (fun Wd hd => ?_) ?_
      ·
       exact Dd (dx_fld (o1 := 0) rfl ty_fld_46_0_0 rfl rfl) rfl
      refine Dc (fun Wd hd => ?_) ?_
      ·
       exact Dd (dx_move rfl rfl) rfl
      refine Dc (fun Wd hd => ?_) ?_
      ·
       exact Dd (dx_move rfl rfl) rfl
      refine Dc (fun Wd hd => ?_) ?_
      ·
       exact Dd (dx_move rfl rfl) rfl
      refine Dc (fun Wd hd => ?_) ?_
      ·
       exact Dd (dx_slTLH a i rfl Tryd.underlying9 rfl rfl rfl (by omega) (by omega) (by omega) (by omega)) rfl
      exact trivial
     ·
      intro W20 b21
      replace hst := hst.below b21
      replace hB := below_then hB b21
      replace hL := LL.below hL b21
      refine Ge (dx_cb rfl Tryd.func38 rfl rfl rfl (wstr_v P (l ++ txtL s a) m ((s).extract a i) w W20 hB hst (by have h1_ := txt_len (s := s) (a := a); have h2_ := extr_size (s := s) (a := a) (j := i); have h3_ := extr_size (s := s) (a := a) (j := s.size); (try simp only [List.length_append, List.length_cons, List.length_nil, sb_length]); omega) (by have h2_ := extr_size (s := s) (a := a) (j := i); omega))) rfl rfl ?_
      rintro _ W22 ⟨⟨rfl, hst⟩, hB⟩
      have hL := LL.nil W22
      refine Ni (hK19 (Sq fun K23 hK23 => (Rg (Pu rfl (Pu rfl ?_)))))
      refine Ge (dx_cb rfl Tryd.func45 rfl rfl rfl (pesc_v P ((l ++ txtL s a) ++ sb ((s).extract a i)) m (atS s i) w W22 hB hst (by have h1_ := txt_len (s := s) (a := a); have h2_ := extr_size (s := s) (a := a) (j := i); have h3_ := extr_size (s := s) (a := a) (j := s.size); (try simp only [List.length_append, List.length_cons, List.length_nil, sb_length]); omega) (atS_lo s i).1 hesc)) rfl rfl ?_
      rintro _ W24 ⟨⟨rfl, hst⟩, hB⟩
      have hL := LL.nil W24
      refine Ni (hK23 (Sq fun K25 hK25 => (Rg (Pu rfl (Va (dx_add (r := ((i + 1 : Nat) : Int)) rfl rfl rfl (by rw [wrap64_id (by omega)]; omega)) rfl rfl (Pu rfl (Ni ?_)))))))
      refine hK25 (Sq fun K26 hK26 => (Rg (Pu rfl ?_)))
      refine Ge (dx_cb rfl Tryd.func23 rfl rfl rfl (full_v P (((l ++ txtL s a) ++ sb ((s).extract a i)) ++ escJ (atS s i)) m w W24 hB hst)) rfl rfl ?_
      rintro _ W27 ⟨⟨rfl, hst⟩, hB⟩
      have hL := LL.nil W27
      refine Ni (hK26 ?_)
      refine WC.cond rfl (fun c28 => ?_) (fun c28 => ?_)
      ·
       replace c28 := dT c28
       exact WC.ret fun a_ ha_ => hQ (cv_ret0 rfl  ⟨rfl, _, (by obtain ⟨y_, hy_⟩ := txt_pre (s := s) (i := i + 1) (by omega); rw [hy_]; exact prK_stop (prK_exact (x := txtL s (i + 1)) (by rw [txt_step ha (by omega) hpl]; simp) (by have := txt_len (s := s) (a := i + 1); omega)) (by omega)), hst⟩ hB ha_)
      ·
       replace c28 := dF c28
       refine WC.skip (hK11 (Rg (Va (dx_add (r := (i : Int) + 1) rfl rfl rfl (wrap64_id (by omega))) rfl rfl (Pu rfl (Ni ?_)))))
       have hst2 : PrS w.heap.size P (l ++ txtL s (i + 1)) m W27 := by rw [txt_step ha (by omega) hpl]; simpa using hst
       exact hK6 (i + 1) (i + 1) ⟨(by omega), (by omega), (fun q h1 h2 => by omega), hB, hL, hst2⟩ (by omega) (by repeat first | exact trivial | exact And.intro rfl trivial | refine And.intro rfl ?_ | refine And.intro (congrArg (fun z : Int => some (Value.int .i64 z)) (by omega)) ?_)
   ·
    replace g17 := bnot_f g17
    replace g17 := dT g17
    refine Of rfl (Of rfl (Pu rfl (Ni (hK15 (WC.condF rfl (WC.skip (hK14 ?_)))))))
    refine Sq fun K29 hK29 => ?_
    have hesc : atS s i < 32 ∨ atS s i = 34 ∨ atS s i = 92 := by first | omega | (simp_all; omega)
    have hc2 := atS_lo s i
    refine WC.drawM 7 [(some 29, .is (.pointer (some ⟨P, 0, none⟩))), (some 30, .is (.pointer (some ⟨P, 0, none⟩))), (some 31, .is (.pointer (some ⟨P, 0, none⟩))), (some 32, .is (.string s)), (some 33, .is (.int .i64 (a : Int))), (some 34, .is (.int .i64 (i : Int))), (some 35, .is (.string ((s).extract a i)))] [[], [0], [1], [], [], [], [3, 4, 5]] (by kernel_rfl) (by kernel_rfl) (by kernel_rfl) (by kernel_rfl) (by kernel_rfl) (by kernel_rfl) (by kernel_rfl) (by exact trivial) ?_ ?_
    ·
     refine Dc (fun Wd hd => ?_) ?_
     ·
      exact Dd (dx_move rfl rfl) rfl
     refine Dc (fun Wd hd => ?_) ?_
     ·
      exact Dd (dx_nilCheck rfl rfl) rfl
     refine Dc (fun Wd hd => ?_) ?_
     ·
      exact Dd (dx_fld (o1 := 0) rfl ty_fld_46_0_0 rfl rfl) rfl
     refine Dc (fun Wd hd => ?_) ?_
     ·
      exact Dd (dx_move rfl rfl) rfl
     refine Dc (fun Wd hd => ?_) ?_
     ·
      exact Dd (dx_move rfl rfl) rfl
     refine Dc (fun Wd hd => ?_) ?_
     ·
      exact Dd (dx_move rfl rfl) rfl
     refine Dc (fun Wd hd => ?_) ?_
     ·
      exact Dd (dx_slTLH a i rfl Tryd.underlying9 rfl rfl rfl (by omega) (by omega) (by omega) (by omega)) rfl
     exact trivial
    ·
     intro W30 b31
     replace hst := hst.below b31
     replace hB := below_then hB b31
     replace hL := LL.below hL b31
     refine Ge (dx_cb rfl Tryd.func38 rfl rfl rfl (wstr_v P (l ++ txtL s a) m ((s).extract a i) w W30 hB hst (by have h1_ := txt_len (s := s) (a := a); have h2_ := extr_size (s := s) (a := a) (j := i); have h3_ := extr_size (s := s) (a := a) (j := s.size); (try simp only [List.length_append, List.length_cons, List.length_nil, sb_length]); omega) (by have h2_ := extr_size (s := s) (a := a) (j := i); omega))) rfl rfl ?_
     rintro _ W32 ⟨⟨rfl, hst⟩, hB⟩
     have hL := LL.nil W32
     refine Ni (hK29 (Sq fun K33 hK33 => (Rg (Pu rfl (Pu rfl ?_)))))
     refine Ge (dx_cb rfl Tryd.func45 rfl rfl rfl (pesc_v P ((l ++ txtL s a) ++ sb ((s).extract a i)) m (atS s i) w W32 hB hst (by have h1_ := txt_len (s := s) (a := a); have h2_ := extr_size (s := s) (a := a) (j := i); have h3_ := extr_size (s := s) (a := a) (j := s.size); (try simp only [List.length_append, List.length_cons, List.length_nil, sb_length]); omega) (atS_lo s i).1 hesc)) rfl rfl ?_
     rintro _ W34 ⟨⟨rfl, hst⟩, hB⟩
     have hL := LL.nil W34
     refine Ni (hK33 (Sq fun K35 hK35 => (Rg (Pu rfl (Va (dx_add (r := ((i + 1 : Nat) : Int)) rfl rfl rfl (by rw [wrap64_id (by omega)]; omega)) rfl rfl (Pu rfl (Ni ?_)))))))
     refine hK35 (Sq fun K36 hK36 => (Rg (Pu rfl ?_)))
     refine Ge (dx_cb rfl Tryd.func23 rfl rfl rfl (full_v P (((l ++ txtL s a) ++ sb ((s).extract a i)) ++ escJ (atS s i)) m w W34 hB hst)) rfl rfl ?_
     rintro _ W37 ⟨⟨rfl, hst⟩, hB⟩
     have hL := LL.nil W37
     refine Ni (hK36 ?_)
     refine WC.cond rfl (fun c38 => ?_) (fun c38 => ?_)
     ·
      replace c38 := dT c38
      exact WC.ret fun a_ ha_ => hQ (cv_ret0 rfl  ⟨rfl, _, (by obtain ⟨y_, hy_⟩ := txt_pre (s := s) (i := i + 1) (by omega); rw [hy_]; exact prK_stop (prK_exact (x := txtL s (i + 1)) (by rw [txt_step ha (by omega) hpl]; simp) (by have := txt_len (s := s) (a := i + 1); omega)) (by omega)), hst⟩ hB ha_)
     ·
      replace c38 := dF c38
      refine WC.skip (hK11 (Rg (Va (dx_add (r := (i : Int) + 1) rfl rfl rfl (wrap64_id (by omega))) rfl rfl (Pu rfl (Ni ?_)))))
      have hst2 : PrS w.heap.size P (l ++ txtL s (i + 1)) m W37 := by rw [txt_step ha (by omega) hpl]; simpa using hst
      exact hK6 (i + 1) (i + 1) ⟨(by omega), (by omega), (fun q h1 h2 => by omega), hB, hL, hst2⟩ (by omega) (by repeat first | exact trivial | exact And.intro rfl trivial | refine And.intro rfl ?_ | refine And.intro (congrArg (fun z : Int => some (Value.int .i64 z)) (by omega)) ?_)
  ·
   replace g16 := dF g16
   refine Of rfl (Of rfl (Pu rfl (Pu rfl (Of rfl (Of rfl (Pu rfl (Ni ?_)))))))
   refine hK15 (WC.condF rfl (WC.skip (hK14 (Sq fun K39 hK39 => ?_))))
   have hesc : atS s i < 32 ∨ atS s i = 34 ∨ atS s i = 92 := by first | omega | (simp_all; omega)
   have hc2 := atS_lo s i
   refine WC.drawM 7 [(some 29, .is (.pointer (some ⟨P, 0, none⟩))), (some 30, .is (.pointer (some ⟨P, 0, none⟩))), (some 31, .is (.pointer (some ⟨P, 0, none⟩))), (some 32, .is (.string s)), (some 33, .is (.int .i64 (a : Int))), (some 34, .is (.int .i64 (i : Int))), (some 35, .is (.string ((s).extract a i)))] [[], [0], [1], [], [], [], [3, 4, 5]] (by kernel_rfl) (by kernel_rfl) (by kernel_rfl) (by kernel_rfl) (by kernel_rfl) (by kernel_rfl) (by kernel_rfl) (by exact trivial) ?_ ?_
   ·
    refine Dc (fun Wd hd => ?_) ?_
    ·
     exact Dd (dx_move rfl rfl) rfl
    refine Dc (fun Wd hd => ?_) ?_
    ·
     exact Dd (dx_nilCheck rfl rfl) rfl
    refine Dc (fun Wd hd => ?_) ?_
    ·
     exact Dd (dx_fld (o1 := 0) rfl ty_fld_46_0_0 rfl rfl) rfl
    refine Dc (fun Wd hd => ?_) ?_
    ·
     exact Dd (dx_move rfl rfl) rfl
    refine Dc (fun Wd hd => ?_) ?_
    ·
     exact Dd (dx_move rfl rfl) rfl
    refine Dc (fun Wd hd => ?_) ?_
    ·
     exact Dd (dx_move rfl rfl) rfl
    refine Dc (fun Wd hd => ?_) ?_
    ·
     exact Dd (dx_slTLH a i rfl Tryd.underlying9 rfl rfl rfl (by omega) (by omega) (by omega) (by omega)) rfl
    exact trivial
   ·
    intro W40 b41
    replace hst := hst.below b41
    replace hB := below_then hB b41
    replace hL := LL.below hL b41
    refine Ge (dx_cb rfl Tryd.func38 rfl rfl rfl (wstr_v P (l ++ txtL s a) m ((s).extract a i) w W40 hB hst (by have h1_ := txt_len (s := s) (a := a); have h2_ := extr_size (s := s) (a := a) (j := i); have h3_ := extr_size (s := s) (a := a) (j := s.size); (try simp only [List.length_append, List.length_cons, List.length_nil, sb_length]); omega) (by have h2_ := extr_size (s := s) (a := a) (j := i); omega))) rfl rfl ?_
    rintro _ W42 ⟨⟨rfl, hst⟩, hB⟩
    have hL := LL.nil W42
    refine Ni (hK39 (Sq fun K43 hK43 => (Rg (Pu rfl (Pu rfl ?_)))))
    refine Ge (dx_cb rfl Tryd.func45 rfl rfl rfl (pesc_v P ((l ++ txtL s a) ++ sb ((s).extract a i)) m (atS s i) w W42 hB hst (by have h1_ := txt_len (s := s) (a := a); have h2_ := extr_size (s := s) (a := a) (j := i); have h3_ := extr_size (s := s) (a := a) (j := s.size); (try simp only [List.length_append, List.length_cons, List.length_nil, sb_length]); omega) (atS_lo s i).1 hesc)) rfl rfl ?_
    rintro _ W44 ⟨⟨rfl, hst⟩, hB⟩
    have hL := LL.nil W44
    refine Ni (hK43 (Sq fun K45 hK45 => (Rg (Pu rfl (Va (dx_add (r := ((i + 1 : Nat) : Int)) rfl rfl rfl (by rw [wrap64_id (by omega)]; omega)) rfl rfl (Pu rfl (Ni ?_)))))))
    refine hK45 (Sq fun K46 hK46 => (Rg (Pu rfl ?_)))
    refine Ge (dx_cb rfl Tryd.func23 rfl rfl rfl (full_v P (((l ++ txtL s a) ++ sb ((s).extract a i)) ++ escJ (atS s i)) m w W44 hB hst)) rfl rfl ?_
    rintro _ W47 ⟨⟨rfl, hst⟩, hB⟩
    have hL := LL.nil W47
    refine Ni (hK46 ?_)
    refine WC.cond rfl (fun c48 => ?_) (fun c48 => ?_)
    ·
     replace c48 := dT c48
     exact WC.ret fun a_ ha_ => hQ (cv_ret0 rfl  ⟨rfl, _, (by obtain ⟨y_, hy_⟩ := txt_pre (s := s) (i := i + 1) (by omega); rw [hy_]; exact prK_stop (prK_exact (x := txtL s (i + 1)) (by rw [txt_step ha (by omega) hpl]; simp) (by have := txt_len (s := s) (a := i + 1); omega)) (by omega)), hst⟩ hB ha_)
    ·
     replace c48 := dF c48
     refine WC.skip (hK11 (Rg (Va (dx_add (r := (i : Int) + 1) rfl rfl rfl (wrap64_id (by omega))) rfl rfl (Pu rfl (Ni ?_)))))
     have hst2 : PrS w.heap.size P (l ++ txtL s (i + 1)) m W47 := by rw [txt_step ha (by omega) hpl]; simpa using hst
     exact hK6 (i + 1) (i + 1) ⟨(by omega), (by omega), (fun q h1 h2 => by omega), hB, hL, hst2⟩ (by omega) (by repeat first | exact trivial | exact And.intro rfl trivial | refine And.intro rfl ?_ | refine And.intro (congrArg (fun z : Int => some (Value.int .i64 z)) (by omega)) ?_)
 ·
  replace c10 := dF c10
  refine WC.exit ?_
  refine hK4 (Sq fun K49 hK49 => ?_)
  refine WC.drawM 6 [(some 45, .is (.pointer (some ⟨P, 0, none⟩))), (some 46, .is (.pointer (some ⟨P, 0, none⟩))), (some 47, .is (.pointer (some ⟨P, 0, none⟩))), (some 48, .is (.string s)), (some 49, .is (.int .i64 (a : Int))), (some 50, .is (.string (s.extract a s.size)))] [[], [0], [1], [], [], [3, 4]] (by kernel_rfl) (by kernel_rfl) (by kernel_rfl) (by kernel_rfl) (by kernel_rfl) (by kernel_rfl) (by kernel_rfl) (by exact trivial) ?_ ?_
  ·
   refine Dc (fun Wd hd => ?_) ?_
   ·
    exact Dd (dx_move rfl rfl) rfl
   refine Dc (fun Wd hd => ?_) ?_
   ·
    exact Dd (dx_nilCheck rfl rfl) rfl
   refine Dc (fun Wd hd => ?_) ?_
   ·
    exact Dd (dx_fld (o1 := 0) rfl ty_fld_46_0_0 rfl rfl) rfl
   refine Dc (fun Wd hd => ?_) ?_
   ·
    exact Dd (dx_move rfl rfl) rfl
   refine Dc (fun Wd hd => ?_) ?_
   ·
    exact Dd (dx_move rfl rfl) rfl
   refine Dc (fun Wd hd => ?_) ?_
   ·
    exact Dd (dx_slTL a rfl Tryd.underlying9 rfl rfl rfl (by omega)) rfl
   exact trivial
  ·
   intro W50 b51
   replace hst := hst.below b51
   replace hB := below_then hB b51
   replace hL := LL.below hL b51
   refine Ge (dx_cb rfl Tryd.func38 rfl rfl rfl (wstr_v P (l ++ txtL s a) m (s.extract a s.size) w W50 hB hst (by have h1_ := txt_len (s := s) (a := a); have h2_ := extr_size (s := s) (a := a) (j := i); have h3_ := extr_size (s := s) (a := a) (j := s.size); (try simp only [List.length_append, List.length_cons, List.length_nil, sb_length]); omega) (by have h2_ := extr_size (s := s) (a := a) (j := s.size); omega))) rfl rfl ?_
   rintro _ W52 ⟨⟨rfl, hst⟩, hB⟩
   have hL := LL.nil W52
   refine Ni (hK49 (Rg (Pu rfl (Va (dx_nilCheck rfl rfl) rfl rfl (Va (dx_fld (o1 := 0) rfl ty_fld_46_0_0 rfl rfl) rfl rfl ?_)))))
   refine Ge (dx_cb rfl Tryd.func44 rfl rfl rfl (wbyte_v P ((l ++ txtL s a) ++ sb (s.extract a s.size)) m 34 w W52 hB hst (by have h1_ := txt_len (s := s) (a := a); have h2_ := extr_size (s := s) (a := a) (j := i); have h3_ := extr_size (s := s) (a := a) (j := s.size); (try simp only [List.length_append, List.length_cons, List.length_nil, sb_length]); omega) (by omega) (by omega))) rfl rfl ?_
   rintro _ W53 ⟨⟨rfl, hst⟩, hB⟩
   have hL := LL.nil W53
   refine Ni ?_
   intro a_ ha_
   exact hE (cv_ret0 rfl  ⟨rfl, _, prK_exact (x := quoJ s) (by rw [txt_end (by omega) (fun q h1 h2 => hpl q h1 (by omega))]; simp) (by have := quo_len s; omega), hst⟩ hB ha_)

end Go.Proofs.YtghpdnfdbhjmpaaDoor
namespace Go.Proofs
open Go.Shelf
def Tryd.laysM171_ren : Go.Shelf.Ren := ⟨fun | 171 => 39 | 243 => 58 | 246 => 71 | 283 => 82 | 284 => 83 | 285 => 84 | 286 => 85 | 129 => 95 | 317 => 94 | 318 => 96 | 319 => 97 | 320 => 98 | 337 => 103 | 338 => 104 | n => n, fun | 3 => 3 | 9 => 9 | 2 => 2 | 4 => 4 | 171 => 110 | 0 => 0 | 53 => 111 | 37 => 42 | 5 => 5 | 173 => 114 | 212 => 126 | 51 => 127 | 20 => 20 | 213 => 128 | 46 => 89 | 232 => 135 | 233 => 136 | n => n, fun | 17 => 0 | 18 => 1 | 19 => 2 | n => n⟩
theorem Tryd.laysM171 : Go.Proofs.LaysM.n171 Tryd.prog Tryd.laysM171_ren := {
 mixed := by kernel_rfl
 f129 := Tryd.func95.trans (congrArg some (by kernel_rfl))
 f171 := Tryd.func39.trans (congrArg some (by kernel_rfl))
 f243 := Tryd.func58.trans (congrArg some (by kernel_rfl))
 f246 := Tryd.func71.trans (congrArg some (by kernel_rfl))
 f283 := Tryd.func82.trans (congrArg some (by kernel_rfl))
 f284 := Tryd.func83.trans (congrArg some (by kernel_rfl))
 f285 := Tryd.func84.trans (congrArg some (by kernel_rfl))
 f286 := Tryd.func85.trans (congrArg some (by kernel_rfl))
 f317 := Tryd.func94.trans (congrArg some (by kernel_rfl))
 f318 := Tryd.func96.trans (congrArg some (by kernel_rfl))
 f319 := Tryd.func97.trans (congrArg some (by kernel_rfl))
 f320 := Tryd.func98.trans (congrArg some (by kernel_rfl))
 f337 := Tryd.func103.trans (congrArg some (by kernel_rfl))
 f338 := Tryd.func104.trans (congrArg some (by kernel_rfl))
 t0 := Tryd.underlying0
 a0 := Tryd.isAgg0
 z0 := Tryd.sizeOf0
 v0 := Tryd.zeroValue0
 t2 := Tryd.underlying2
 a2 := Tryd.isAgg2
 z2 := Tryd.sizeOf2
 v2 := Tryd.zeroValue2
 t3 := Tryd.underlying3
 a3 := Tryd.isAgg3
 z3 := Tryd.sizeOf3
 v3 := Tryd.zeroValue3
 t4 := Tryd.underlying4
 a4 := Tryd.isAgg4
 z4 := Tryd.sizeOf4
 v4 := Tryd.zeroValue4
 t5 := Tryd.underlying5
 a5 := Tryd.isAgg5
 z5 := Tryd.sizeOf5
 v5 := Tryd.zeroValue5
 t9 := Tryd.underlying9
 a9 := Tryd.isAgg9
 z9 := Tryd.sizeOf9
 v9 := Tryd.zeroValue9
 t20 := Tryd.underlying20
 a20 := Tryd.isAgg20
 z20 := Tryd.sizeOf20
 v20 := Tryd.zeroValue20
 t37 := Tryd.underlying42
 a37 := Tryd.isAgg42
 z37 := Tryd.sizeOf42
 v37 := Tryd.zeroValue42
 t46 := Tryd.underlying89
 a46 := Tryd.isAgg89
 z46 := Tryd.sizeOf89
 v46 := Tryd.zeroValue89
 t51 := Tryd.underlying127
 a51 := Tryd.isAgg127
 z51 := Tryd.sizeOf127
 v51 := Tryd.zeroValue127
 t53 := Tryd.underlying111
 a53 := Tryd.isAgg111
 z53 := Tryd.sizeOf111
 v53 := Tryd.zeroValue111
 t171 := Tryd.underlying110
 a171 := Tryd.isAgg110
 z171 := Tryd.sizeOf110
 v171 := Tryd.zeroValue110
 t173 := Tryd.underlying114
 a173 := Tryd.isAgg114
 z173 := Tryd.sizeOf114
 v173 := Tryd.zeroValue114
 t212 := Tryd.underlying126
 a212 := Tryd.isAgg126
 z212 := Tryd.sizeOf126
 v212 := Tryd.zeroValue126
 t213 := Tryd.underlying128
 a213 := Tryd.isAgg128
 z213 := Tryd.sizeOf128
 t232 := Tryd.underlying135
 a232 := Tryd.isAgg135
 z232 := Tryd.sizeOf135
 v232 := Tryd.zeroValue135
 t233 := Tryd.underlying136
 a233 := Tryd.isAgg136
 z233 := Tryd.sizeOf136
 v233 := Tryd.zeroValue136
 g17 := by kernel_rfl
 g18 := by kernel_rfl
 g19 := by kernel_rfl
 i0 := by kernel_rfl
 i2 := by kernel_rfl
 i3 := by kernel_rfl
 i4 := by kernel_rfl
 i5 := by kernel_rfl
 i9 := by kernel_rfl
 i20 := by kernel_rfl
 i37 := by kernel_rfl
 i46 := by kernel_rfl
 i51 := by kernel_rfl
 i53 := by kernel_rfl
 i171 := by kernel_rfl
 i173 := by kernel_rfl
 i212 := by kernel_rfl
 i232 := by kernel_rfl
 i233 := by kernel_rfl
 m17 := by kernel_rfl
 m18 := by kernel_rfl
 m19 := by kernel_rfl }
open Go.RowKit Go.Sort Go.Lib in
theorem Tryd.strconv_Itoa (n : Int) (h0 : -9223372036854775808 ≤ n) (h1 : n ≤ 9223372036854775807) (w : World) (htab : Lib.TabIs Tryd.prog w "internal/strconv.uint64pow10" .u64 Lib.pow10Tab) :
  Calls Tryd.prog 39 #[.int .i64 n] w fun e w' => e = .returned (.string ⟨(Lib.itoa n).toArray⟩) ∧ ∃ k os, w' = grow (w.drewN k) os := Any.strconv_Itoa Tryd.laysM171 n h0 h1 w htab
end Go.Proofs
namespace Go.Proofs.YtghpdnfdbhjmpaaDoor
open Go.RowKit
set_option linter.unusedVariables false
set_option linter.unusedSimpArgs false
set_option maxRecDepth 8000
set_option maxHeartbeats 2000000

abbrev tabP (w : World) : Prop := Lib.TabIs Tryd.prog w "internal/strconv.uint64pow10" .u64 Lib.pow10Tab
theorem tabP_below {w w' : World} (h : tabP w) (hb : Below w.heap.size w w') : tabP w' := by
 unfold tabP Lib.TabIs World.var? at *
 cases hg : Tryd.prog.globalNamed "internal/strconv.uint64pow10" with
 | none => rw [hg] at h; cases h
 | some g =>
  rw [hg] at h
  simp only [Option.bind_some] at h ⊢
  have hlt : g < w.heap.size := by
   rcases Nat.lt_or_ge g w.heap.size with h1 | h1
   · exact h1
   · rw [Array.getElem?_eq_none h1] at h; cases h
  rw [hb.block g hlt]; exact h
theorem itoa_v (n : Int) (w : World) (h : tabP w) (h0 : -9223372036854775808 ≤ n) (h1 : n ≤ 9223372036854775807) : CV Tryd.prog 39 [.int .i64 n] w fun v W => v = .string ⟨(Lib.itoa n).toArray⟩ :=
 (Tryd.strconv_Itoa n h0 h1 w h).mono fun e w' ⟨he, k, os, hw⟩ => ⟨_, he, rfl, by rw [hw]; exact Lib.below_grow _ w (Nat.le_refl _) k os⟩
theorem itoa_sb (n : Int) : sb ⟨(Lib.itoa n).toArray⟩ = numJ n := by
 rw [show sb ⟨(Lib.itoa n).toArray⟩ = (Lib.itoa n).map (fun c => (c.toNat : Int)) from by simp [sb]]
 unfold Lib.itoa numJ decL
 split <;> rfl
theorem decL_len : ∀ (k u : Nat), u < 10 ^ k → (decL u).length ≤ max k 1
  | 0, u, h => by
    have : u = 0 := by simpa using h
    subst this; unfold decL; rw [Lib.decDigits]; simp
  | k + 1, u, h => by
    unfold decL
    rw [Lib.decDigits]
    split
    · simp
    · have := decL_len k (u / 10) (by rw [Nat.pow_succ] at h; omega)
      unfold decL at this
      rw [List.length_map] at this
      rw [List.length_map, List.length_append, List.length_singleton]
      rcases Nat.eq_zero_or_pos k with rfl | hk
      · rw [Nat.pow_succ] at h; omega
      · omega
theorem numJ_len {n : Int} (h0 : -9223372036854775808 ≤ n) (h1 : n ≤ 9223372036854775807) : (numJ n).length ≤ 21 := by
  unfold numJ
  split
  · have := decL_len 20 n.natAbs (by omega)
    rw [List.length_cons]; omega
  · have := decL_len 20 n.toNat (by omega)
    omega
theorem itoa_size (n : Int) (h0 : -9223372036854775808 ≤ n) (h1 : n ≤ 9223372036854775807) : (⟨(Lib.itoa n).toArray⟩ : ByteArray).size ≤ 21 := by
 rw [← sb_length, itoa_sb]; exact numJ_len h0 h1
theorem ptB_base {L : List Nat} {w W : World} {u : Value} {cs : List Value} (h : PtB w.heap.size L W u cs) (hb : Below w.heap.size w W) : PtR L w u cs := by
 obtain ⟨h0, X, q, rfl, hx, hX, hr⟩ := h
 refine ⟨h0, X, q, rfl, hX, fun j v hj => ?_⟩
 have := hr j v hj
 have e := hb.block X hx
 simp only [World.cell?, e] at this ⊢
 exact this
-- pieces
theorem comma_add (ps : List (List Int)) (i : Nat) (p : List Int) (h : ps[i]? = some p) : commaJ (ps.take (i + 1)) = commaJ (ps.take i) ++ ((if i = 0 then [] else [44]) ++ p) := by
 rw [List.take_add_one, h]
 cases i with
 | zero => simp [commaJ]
 | succ k =>
  cases ps with
  | nil => cases h
  | cons x l => simp [commaJ, List.take_succ_cons]
theorem comma_tail (ps : List (List Int)) (i : Nat) : ∃ y, commaJ ps = commaJ (ps.take i) ++ y := by
 cases i with
 | zero => exact ⟨commaJ ps, rfl⟩
 | succ k =>
  cases ps with
  | nil => exact ⟨[], rfl⟩
  | cons x l =>
   refine ⟨(l.drop k).flatMap fun y => 44 :: y, ?_⟩
   rw [List.take_succ_cons, commaJ, commaJ, List.append_assoc, ← List.flatMap_append, List.take_append_drop]
def pcs (n : Nat) (j : Js) : List (List Int) := if j.kind = 5 then j.items.map (prJ n) else (j.names.zip j.items).map fun p => quoJ p.1 ++ (58 :: prJ n p.2)
theorem pcs_5 {n i : Nat} {t c : Tr} (hk : t.kind = 5) (hc : t.items[i]? = some c) : (pcs n t.er)[i]? = some (prJ n c.er) := by
 unfold pcs; rw [if_pos (by rw [er_kind]; exact hk), er_items, List.getElem?_map, List.getElem?_map, hc]; rfl
theorem pcs_6 {n i : Nat} {t c : Tr} {a : ByteArray} (hk : t.kind = 6) (hc : t.items[i]? = some c) (ha : t.names[i]? = some a) : (pcs n t.er)[i]? = some (quoJ a ++ (58 :: prJ n c.er)) := by
 unfold pcs
 rw [if_neg (by rw [er_kind]; omega), er_names, er_items, List.getElem?_map, show (t.names.zip (t.items.map Tr.er))[i]? = some (a, c.er) from List.getElem?_zip_eq_some.2 ⟨ha, by rw [List.getElem?_map, hc]; rfl⟩]; rfl
theorem pcs_len5 {n : Nat} {t : Tr} (hk : t.kind = 5) : (pcs n t.er).length = t.items.length := by unfold pcs; rw [if_pos (by rw [er_kind]; exact hk), er_items, List.length_map, List.length_map]
theorem pcs_len6 {n : Nat} {t : Tr} (hk : t.kind = 6) (hl : t.names.length = t.items.length) : (pcs n t.er).length = t.items.length := by
 unfold pcs; rw [if_neg (by rw [er_kind]; omega), er_items, er_names, List.length_map, List.length_zip, List.length_map]; omega
theorem pr_5 {n : Nat} {t : Tr} (hk : t.kind = 5) : prJ (n + 1) t.er = 91 :: (commaJ (pcs n t.er) ++ [93]) := by rw [prJ_5 (by rw [er_kind]; exact hk)]; unfold pcs; rw [if_pos (by rw [er_kind]; exact hk)]
theorem pr_6 {n : Nat} {t : Tr} (hk : t.kind = 6) : prJ (n + 1) t.er = 123 :: (commaJ (pcs n t.er) ++ [125]) := by rw [prJ_6 (by rw [er_kind]; exact hk)]; unfold pcs; rw [if_neg (by rw [er_kind]; omega)]
theorem pr_leaf {n : Nat} {j : Js} (h5 : ¬ j.kind = 5) (h6 : ¬ j.kind = 6) : prJ n j = leafP j := by
 cases n with
 | zero => rfl
 | succ n => rw [prJ, if_neg h5, if_neg h6]
def Kf (m : Nat) : Int := 7000000 * ((m : Int) + 1)
abbrev ValP (m : Nat) : Prop := ∀ (n : Nat) (t : Tr) (u : Value) (P : Nat) (l : List Int) (w w1 : World), Below w.heap.size w w1 → PrS w.heap.size P l 8192 w1 → tabP w → PtR [] w u (encT t) → RdT (n + 1) [] w t → SzT 1000000 (n + 1) t → rightJ upB m t.er = true → l.length ≤ 10000000 → m ≤ 12 → CB Tryd.prog 22 [selfP P, u] w w1 fun v W => v = .tuple #[] ∧ ∃ l', PrK 8192 (Kf m) l (prJ m t.er) l' ∧ PrS w.heap.size P l' 8192 W
set_option maxHeartbeats 1000000 in
theorem pitems5_v (m n : Nat) (t : Tr) (u : Value) (P : Nat) (l : List Int) (w w1 : World) (hB : Below w.heap.size w w1) (hst : PrS w.heap.size P l 8192 w1) (htab : tabP w) (hu : PtR [] w u (encT t)) (ht : RdT (n + 1) [] w t) (hz : SzT 1000000 (n + 1) t) (hkt : t.kind = 5) (hln : True) (hlen : l.length ≤ 10000000) (hm : m ≤ 12) (hval : ∀ (c : Tr) (uc : Value) (P : Nat) (l : List Int) (w w1 : World), Below w.heap.size w w1 → PrS w.heap.size P l 8192 w1 → tabP w → PtR [] w uc (encT c) → RdT n [] w c → SzT 1000000 n c → rightJ upB m c.er = true → l.length ≤ 10000000 → CB Tryd.prog 22 [selfP P, uc] w w1 fun v W => v = .tuple #[] ∧ ∃ l', PrK 8192 (Kf m) l (prJ m c.er) l' ∧ PrS w.heap.size P l' 8192 W) (hrc : ∀ c ∈ t.items, rightJ upB m c.er = true) : CB Tryd.prog 40 [.pointer (some ⟨P, 0, none⟩), u, .int .u8 91, .int .u8 93] w w1 fun v W => v = .tuple #[] ∧ ∃ l', PrK 8192 (Kf (m + 1)) l (prJ (m + 1) t.er) l' ∧ PrS w.heap.size P l' 8192 W := by
 refine cb_enter (N := 62) (f := [(0, .pointer (some ⟨P, 0, none⟩)), (1, u), (2, .int .u8 91), (3, .int .u8 93)]) Tryd.func40 rfl rfl rfl rfl fun Q hQ hE => ?_
 have hL := LL.nil w1
 refine Sq fun K1 hK1 => ?_
 obtain ⟨hnt, hit, hct⟩ := ht
 have hil0 := hit.len
 rw [List.length_map] at hil0
 unfold maxLen at hil0
 refine Rg (Pu rfl (Va (dx_nilCheck rfl rfl) rfl rfl (Va (dx_fld (o1 := 0) rfl ty_fld_46_0_0 rfl rfl) rfl rfl (Pu rfl ?_))))
 refine Ge (dx_cb rfl Tryd.func44 rfl rfl rfl (wbyte_v P l 8192 91 w w1 hB hst (by (try simp only [List.length_append, List.length_cons, List.length_nil]); omega) (by omega) (by omega))) rfl rfl ?_
 rintro _ W2 ⟨⟨rfl, hst⟩, hB⟩
 have hL := LL.nil W2
 refine Ni (hK1 (Sq fun K3 hK3 => (Sq fun K4 hK4 => (Rg (Pu rfl (Va (dx_nilP rfl rfl (hu.below hB)) rfl rfl ?_))))))
 refine Ge (dx_fldP 1 rfl ty_fld_25_4_4 rfl (hu.below hB) (cs' := [t.iv]) rfl (Nat.succ_pos _)) rfl rfl ?_
 rintro u5 _ ⟨rfl, p6⟩
 refine Va (dx_loadP rfl ty_one_23 rfl p6) rfl rfl (Va (dx_lenFM rfl ty_slice_23 rfl (hit.below hB)) rfl rfl (Pu rfl (Ni (hK4 (WC.block ?_)))))
 have hk0 : PrK 8192 (6500000 + Kf m) l (91 :: commaJ ((pcs m t.er).take 0)) (l ++ [91]) := prK_exact rfl (by unfold Kf; simp [commaJ]; omega)
 refine WC.loop2 (fun (i : Nat) (b : List Int) => [(0, .pointer (some ⟨P, 0, none⟩)), (1, u), (2, .int .u8 91), (3, .int .u8 93), (17, t.iv), (18, .int .i64 (t.items.length : Int)), (19, .int .i64 (i : Int))]) (fun (i : Nat) (b : List Int) W => i ≤ t.items.length ∧ PrK 8192 (6500000 + Kf m) l (91 :: commaJ ((pcs m t.er).take i)) b ∧ Below w.heap.size w W ∧ LL ([]) W ∧ PrS w.heap.size P b 8192 W) (fun (i : Nat) (b : List Int) => t.items.length - i) 0 (l ++ [91]) (by repeat first | exact trivial | exact And.intro rfl trivial | refine And.intro rfl ?_ | refine And.intro (congrArg (fun z : Int => some (Value.int .i64 z)) (by omega)) ?_) ⟨Nat.zero_le _, hk0, hB, hL, hst⟩ ?_
 clear hst hB hL
 rintro K7 i b W8 ⟨hi, hk, hB, hL, hst⟩ hK7
 refine Sq fun K9 hK9 => (Rg (Va (dx_lss rfl rfl rfl) rfl rfl (Ni (hK9 (Sq fun K10 hK10 => ?_)))))
 refine WC.cond rfl (fun c11 => ?_) (fun c11 => ?_)
 ·
  replace c11 := dT c11
  refine WC.skip (hK10 (Sq fun K12 hK12 => (WC.block (Sq fun K13 hK13 => (Rg (Pu rfl (Pu rfl ?_)))))))
  refine Ni (hK13 (Sq fun K14 hK14 => (Sq fun K15 hK15 => (Rg (Pu rfl ?_)))))
  refine Ge (dx_cb rfl Tryd.func23 rfl rfl rfl (full_v P b 8192 w W8 hB hst)) rfl rfl ?_
  rintro _ W16 ⟨⟨rfl, hst⟩, hB⟩
  have hL := LL.nil W16
  refine Ni (hK15 ?_)
  refine WC.cond rfl (fun c17 => ?_) (fun c17 => ?_)
  ·
   replace c17 := dT c17
   exact WC.ret fun a_ ha_ => hQ (cv_ret0 rfl  ⟨rfl, b, (by obtain ⟨y_, hy_⟩ := comma_tail (pcs m t.er) i; rw [pr_5 hkt, hy_, List.append_assoc]; exact prK_le (prK_stop (x := 91 :: commaJ ((pcs m t.er).take i)) hk (by omega)) (by unfold Kf; omega)), hst⟩ hB ha_)
  ·
   replace c17 := dF c17
   refine WC.skip (hK14 (Sq fun K18 hK18 => (Sq fun K19 hK19 => ?_)))
   obtain hgo := prK_go hk (by omega)
   have hbl : (b.length : Int) ≤ 8192 := by omega
   obtain ⟨r_, hr_⟩ : ∃ x, t.items[i]? = some x := ⟨_, List.getElem?_eq_getElem (by omega)⟩
   refine Rg (Pu rfl (Va (dx_gtr rfl rfl rfl) rfl rfl (Ni (hK19 ?_))))
   refine WC.cond rfl (fun c20 => ?_) (fun c20 => ?_)
   ·
    replace c20 := dT c20
    have hi0 : ¬ i = 0 := by omega
    refine Rg (Pu rfl (Va (dx_nilCheck rfl rfl) rfl rfl (Va (dx_fld (o1 := 0) rfl ty_fld_46_0_0 rfl rfl) rfl rfl ?_)))
    refine Ge (dx_cb rfl Tryd.func44 rfl rfl rfl (wbyte_v P b 8192 44 w W16 hB hst (by (try simp only [List.length_append, List.length_cons, List.length_nil]); omega) (by omega) (by omega))) rfl rfl ?_
    rintro _ W21 ⟨⟨rfl, hst⟩, hB⟩
    have hL := LL.nil W21
    refine Ni (hK18 (Sq fun K22 hK22 => (Sq fun K23 hK23 => (Rg (Pu rfl (Va (dx_nilP rfl rfl (hu.below hB)) rfl rfl ?_))))))
    refine Ge (dx_fldP 1 rfl ty_fld_25_0_0 rfl (hu.below hB) (cs' := [.int .i64 t.kind]) rfl (Nat.succ_pos _)) rfl rfl ?_
    rintro u24 _ ⟨rfl, p25⟩
    refine Va ((hkt ▸ dx_loadP rfl ty_one_3 rfl p25)) rfl rfl (Va (dx_eql rfl rfl rfl) rfl rfl (Ni (hK23 (WC.condF rfl (WC.skip (hK22 (Rg ?_)))))))
    refine Pu rfl (Pu rfl (Va (dx_nilP rfl rfl (hu.below hB)) rfl rfl ?_))
    refine Ge (dx_fldP 1 rfl ty_fld_25_4_4 rfl (hu.below hB) (cs' := [t.iv]) rfl (Nat.succ_pos _)) rfl rfl ?_
    rintro u26 _ ⟨rfl, p27⟩
    refine Va (dx_loadP rfl ty_one_23 rfl p27) rfl rfl (Pu rfl ?_)
    refine Ge (dx_idxB i rfl ty_slice_23 rfl rfl hit hB (by omega) (at_mapX hr_)) rfl rfl ?_
    rintro uc _ ⟨rfl, pc_⟩
    have hcb := ptB_base pc_ hB
    refine Ge (dx_cb rfl Tryd.func22 rfl rfl rfl (hval r_ uc P (b ++ [44]) w W21 hB hst htab hcb (hct r_ (List.mem_of_getElem? hr_)) (hz.2.2.2.2 r_ (List.mem_of_getElem? hr_)) (hrc r_ (List.mem_of_getElem? hr_)) (by (try simp only [List.length_append, List.length_cons, List.length_nil]); omega))) rfl rfl ?_
    rintro _ W28 ⟨⟨rfl, b4, hkb4, hst⟩, hB⟩
    have hL := LL.nil W28
    refine Ni (hK12 (Rg (Va (dx_add (r := (i : Int) + 1) rfl rfl rfl (wrap64_id (by omega))) rfl rfl (Pu rfl (Ni ?_)))))
    have hp_ := pcs_5 (n := m) hkt hr_
    have hx_ : PrK 8192 (1 + Kf m) b ([44] ++ prJ m r_.er) b4 := prK_then (prK_exact (b1 := b ++ [44]) (K := 1) (x := [44]) (by simp) (by simp)) hkb4 (by decide) (by unfold Kf; omega)
    have hq_ : PrK 8192 (6500000 + Kf m) l (91 :: commaJ ((pcs m t.er).take (i + 1))) b4 := by rw [comma_add _ i _ hp_, if_neg hi0]; exact prK_pre (x := 91 :: commaJ ((pcs m t.er).take i)) hgo.1 (by omega) (prK_le hx_ (by omega))
    exact hK7 (i + 1) b4 ⟨(by omega), hq_, hB, hL, hst⟩ (by omega) (by repeat first | exact trivial | exact And.intro rfl trivial | refine And.intro rfl ?_ | refine And.intro (congrArg (fun z : Int => some (Value.int .i64 z)) (by omega)) ?_)
   ·
    replace c20 := dF c20
    have hi0 : i = 0 := by omega
    refine WC.skip (hK18 (Sq fun K29 hK29 => (Sq fun K30 hK30 => (Rg (Pu rfl (Va (dx_nilP rfl rfl (hu.below hB)) rfl rfl ?_))))))
    refine Ge (dx_fldP 1 rfl ty_fld_25_0_0 rfl (hu.below hB) (cs' := [.int .i64 t.kind]) rfl (Nat.succ_pos _)) rfl rfl ?_
    rintro u31 _ ⟨rfl, p32⟩
    refine Va ((hkt ▸ dx_loadP rfl ty_one_3 rfl p32)) rfl rfl (Va (dx_eql rfl rfl rfl) rfl rfl (Ni (hK30 (WC.condF rfl (WC.skip (hK29 (Rg ?_)))))))
    refine Pu rfl (Pu rfl (Va (dx_nilP rfl rfl (hu.below hB)) rfl rfl ?_))
    refine Ge (dx_fldP 1 rfl ty_fld_25_4_4 rfl (hu.below hB) (cs' := [t.iv]) rfl (Nat.succ_pos _)) rfl rfl ?_
    rintro u33 _ ⟨rfl, p34⟩
    refine Va (dx_loadP rfl ty_one_23 rfl p34) rfl rfl (Pu rfl ?_)
    refine Ge (dx_idxB i rfl ty_slice_23 rfl rfl hit hB (by omega) (at_mapX hr_)) rfl rfl ?_
    rintro uc _ ⟨rfl, pc_⟩
    have hcb := ptB_base pc_ hB
    refine Ge (dx_cb rfl Tryd.func22 rfl rfl rfl (hval r_ uc P b w W16 hB hst htab hcb (hct r_ (List.mem_of_getElem? hr_)) (hz.2.2.2.2 r_ (List.mem_of_getElem? hr_)) (hrc r_ (List.mem_of_getElem? hr_)) (by (try simp only [List.length_append, List.length_cons, List.length_nil]); omega))) rfl rfl ?_
    rintro _ W35 ⟨⟨rfl, b4, hkb4, hst⟩, hB⟩
    have hL := LL.nil W35
    refine Ni (hK12 (Rg (Va (dx_add (r := (i : Int) + 1) rfl rfl rfl (wrap64_id (by omega))) rfl rfl (Pu rfl (Ni ?_)))))
    have hp_ := pcs_5 (n := m) hkt hr_
    have hx_ : PrK 8192 (1 + Kf m) b ([] ++ prJ m r_.er) b4 := prK_then (prK_exact (b1 := b) (K := 1) (x := []) (by simp) (by simp)) hkb4 (by decide) (by unfold Kf; omega)
    have hq_ : PrK 8192 (6500000 + Kf m) l (91 :: commaJ ((pcs m t.er).take (i + 1))) b4 := by rw [comma_add _ i _ hp_, if_pos hi0]; exact prK_pre (x := 91 :: commaJ ((pcs m t.er).take i)) hgo.1 (by omega) (prK_le hx_ (by omega))
    exact hK7 (i + 1) b4 ⟨(by omega), hq_, hB, hL, hst⟩ (by omega) (by repeat first | exact trivial | exact And.intro rfl trivial | refine And.intro rfl ?_ | refine And.intro (congrArg (fun z : Int => some (Value.int .i64 z)) (by omega)) ?_)
 ·
  replace c11 := dF c11
  refine WC.exit ?_
  refine hK3 ?_
  have hbd := hk.2
  unfold Kf at hbd
  refine Rg (Pu rfl (Va (dx_nilCheck rfl rfl) rfl rfl (Va (dx_fld (o1 := 0) rfl ty_fld_46_0_0 rfl rfl) rfl rfl (Pu rfl ?_))))
  refine Ge (dx_cb rfl Tryd.func44 rfl rfl rfl (wbyte_v P b 8192 93 w W8 hB hst (by (try simp only [List.length_append, List.length_cons, List.length_nil]); omega) (by omega) (by omega))) rfl rfl ?_
  rintro _ W36 ⟨⟨rfl, hst⟩, hB⟩
  have hL := LL.nil W36
  refine Ni ?_
  intro a_ ha_
  exact hE (cv_ret0 rfl  ⟨rfl, _, (by have hl_ := pcs_len5 (n := m) hkt; have e_ : (pcs m t.er).take i = pcs m t.er := List.take_of_length_le (by omega); rw [e_] at hk; rw [pr_5 hkt]; exact prK_le (prK_then (x := 91 :: commaJ (pcs m t.er)) (y := [93]) hk (prK_exact (K := 1) rfl (by simp)) (by unfold Kf; omega) (by decide)) (by unfold Kf; omega)), hst⟩ hB ha_)

set_option maxHeartbeats 1000000 in
theorem pitems6_v (m n : Nat) (t : Tr) (u : Value) (P : Nat) (l : List Int) (w w1 : World) (hB : Below w.heap.size w w1) (hst : PrS w.heap.size P l 8192 w1) (htab : tabP w) (hu : PtR [] w u (encT t)) (ht : RdT (n + 1) [] w t) (hz : SzT 1000000 (n + 1) t) (hkt : t.kind = 6) (hln : t.names.length = t.items.length) (hlen : l.length ≤ 10000000) (hm : m ≤ 12) (hval : ∀ (c : Tr) (uc : Value) (P : Nat) (l : List Int) (w w1 : World), Below w.heap.size w w1 → PrS w.heap.size P l 8192 w1 → tabP w → PtR [] w uc (encT c) → RdT n [] w c → SzT 1000000 n c → rightJ upB m c.er = true → l.length ≤ 10000000 → CB Tryd.prog 22 [selfP P, uc] w w1 fun v W => v = .tuple #[] ∧ ∃ l', PrK 8192 (Kf m) l (prJ m c.er) l' ∧ PrS w.heap.size P l' 8192 W) (hrc : ∀ c ∈ t.items, rightJ upB m c.er = true) : CB Tryd.prog 40 [.pointer (some ⟨P, 0, none⟩), u, .int .u8 123, .int .u8 125] w w1 fun v W => v = .tuple #[] ∧ ∃ l', PrK 8192 (Kf (m + 1)) l (prJ (m + 1) t.er) l' ∧ PrS w.heap.size P l' 8192 W := by
 refine cb_enter (N := 62) (f := [(0, .pointer (some ⟨P, 0, none⟩)), (1, u), (2, .int .u8 123), (3, .int .u8 125)]) Tryd.func40 rfl rfl rfl rfl fun Q hQ hE => ?_
 have hL := LL.nil w1
 refine Sq fun K1 hK1 => ?_
 obtain ⟨hnt, hit, hct⟩ := ht
 have hil0 := hit.len
 rw [List.length_map] at hil0
 unfold maxLen at hil0
 refine Rg (Pu rfl (Va (dx_nilCheck rfl rfl) rfl rfl (Va (dx_fld (o1 := 0) rfl ty_fld_46_0_0 rfl rfl) rfl rfl (Pu rfl ?_))))
 refine Ge (dx_cb rfl Tryd.func44 rfl rfl rfl (wbyte_v P l 8192 123 w w1 hB hst (by (try simp only [List.length_append, List.length_cons, List.length_nil]); omega) (by omega) (by omega))) rfl rfl ?_
 rintro _ W2 ⟨⟨rfl, hst⟩, hB⟩
 have hL := LL.nil W2
 refine Ni (hK1 (Sq fun K3 hK3 => (Sq fun K4 hK4 => (Rg (Pu rfl (Va (dx_nilP rfl rfl (hu.below hB)) rfl rfl ?_))))))
 refine Ge (dx_fldP 1 rfl ty_fld_25_4_4 rfl (hu.below hB) (cs' := [t.iv]) rfl (Nat.succ_pos _)) rfl rfl ?_
 rintro u5 _ ⟨rfl, p6⟩
 refine Va (dx_loadP rfl ty_one_23 rfl p6) rfl rfl (Va (dx_lenFM rfl ty_slice_23 rfl (hit.below hB)) rfl rfl (Pu rfl (Ni (hK4 (WC.block ?_)))))
 have hk0 : PrK 8192 (6500000 + Kf m) l (123 :: commaJ ((pcs m t.er).take 0)) (l ++ [123]) := prK_exact rfl (by unfold Kf; simp [commaJ]; omega)
 refine WC.loop2 (fun (i : Nat) (b : List Int) => [(0, .pointer (some ⟨P, 0, none⟩)), (1, u), (2, .int .u8 123), (3, .int .u8 125), (17, t.iv), (18, .int .i64 (t.items.length : Int)), (19, .int .i64 (i : Int))]) (fun (i : Nat) (b : List Int) W => i ≤ t.items.length ∧ PrK 8192 (6500000 + Kf m) l (123 :: commaJ ((pcs m t.er).take i)) b ∧ Below w.heap.size w W ∧ LL ([]) W ∧ PrS w.heap.size P b 8192 W) (fun (i : Nat) (b : List Int) => t.items.length - i) 0 (l ++ [123]) (by repeat first | exact trivial | exact And.intro rfl trivial | refine And.intro rfl ?_ | refine And.intro (congrArg (fun z : Int => some (Value.int .i64 z)) (by omega)) ?_) ⟨Nat.zero_le _, hk0, hB, hL, hst⟩ ?_
 clear hst hB hL
 rintro K7 i b W8 ⟨hi, hk, hB, hL, hst⟩ hK7
 refine Sq fun K9 hK9 => (Rg (Va (dx_lss rfl rfl rfl) rfl rfl (Ni (hK9 (Sq fun K10 hK10 => ?_)))))
 refine WC.cond rfl (fun c11 => ?_) (fun c11 => ?_)
 ·
  replace c11 := dT c11
  refine WC.skip (hK10 (Sq fun K12 hK12 => (WC.block (Sq fun K13 hK13 => (Rg (Pu rfl (Pu rfl ?_)))))))
  refine Ni (hK13 (Sq fun K14 hK14 => (Sq fun K15 hK15 => (Rg (Pu rfl ?_)))))
  refine Ge (dx_cb rfl Tryd.func23 rfl rfl rfl (full_v P b 8192 w W8 hB hst)) rfl rfl ?_
  rintro _ W16 ⟨⟨rfl, hst⟩, hB⟩
  have hL := LL.nil W16
  refine Ni (hK15 ?_)
  refine WC.cond rfl (fun c17 => ?_) (fun c17 => ?_)
  ·
   replace c17 := dT c17
   exact WC.ret fun a_ ha_ => hQ (cv_ret0 rfl  ⟨rfl, b, (by obtain ⟨y_, hy_⟩ := comma_tail (pcs m t.er) i; rw [pr_6 hkt, hy_, List.append_assoc]; exact prK_le (prK_stop (x := 123 :: commaJ ((pcs m t.er).take i)) hk (by omega)) (by unfold Kf; omega)), hst⟩ hB ha_)
  ·
   replace c17 := dF c17
   refine WC.skip (hK14 (Sq fun K18 hK18 => (Sq fun K19 hK19 => ?_)))
   obtain hgo := prK_go hk (by omega)
   have hbl : (b.length : Int) ≤ 8192 := by omega
   obtain ⟨r_, hr_⟩ : ∃ x, t.items[i]? = some x := ⟨_, List.getElem?_eq_getElem (by omega)⟩
   refine Rg (Pu rfl (Va (dx_gtr rfl rfl rfl) rfl rfl (Ni (hK19 ?_))))
   refine WC.cond rfl (fun c20 => ?_) (fun c20 => ?_)
   ·
    replace c20 := dT c20
    have hi0 : ¬ i = 0 := by omega
    refine Rg (Pu rfl (Va (dx_nilCheck rfl rfl) rfl rfl (Va (dx_fld (o1 := 0) rfl ty_fld_46_0_0 rfl rfl) rfl rfl ?_)))
    refine Ge (dx_cb rfl Tryd.func44 rfl rfl rfl (wbyte_v P b 8192 44 w W16 hB hst (by (try simp only [List.length_append, List.length_cons, List.length_nil]); omega) (by omega) (by omega))) rfl rfl ?_
    rintro _ W21 ⟨⟨rfl, hst⟩, hB⟩
    have hL := LL.nil W21
    refine Ni (hK18 (Sq fun K22 hK22 => (Sq fun K23 hK23 => (Rg (Pu rfl (Va (dx_nilP rfl rfl (hu.below hB)) rfl rfl ?_))))))
    refine Ge (dx_fldP 1 rfl ty_fld_25_0_0 rfl (hu.below hB) (cs' := [.int .i64 t.kind]) rfl (Nat.succ_pos _)) rfl rfl ?_
    rintro u24 _ ⟨rfl, p25⟩
    refine Va ((hkt ▸ dx_loadP rfl ty_one_3 rfl p25)) rfl rfl (Va (dx_eql rfl rfl rfl) rfl rfl (Ni (hK23 (WC.condT rfl (Sq fun K26 hK26 => ?_)))))
    obtain ⟨a_, ha_n⟩ : ∃ x, t.names[i]? = some x := ⟨_, List.getElem?_eq_getElem (by omega)⟩
    refine Rg (Pu rfl (Pu rfl (Va (dx_nilP rfl rfl (hu.below hB)) rfl rfl ?_)))
    refine Ge (dx_fldP 1 rfl ty_fld_25_3_3 rfl (hu.below hB) (cs' := [t.nv]) rfl (Nat.succ_pos _)) rfl rfl ?_
    rintro u27 _ ⟨rfl, p28⟩
    refine Va (dx_loadP rfl ty_one_22 rfl p28) rfl rfl (Pu rfl ?_)
    refine Ge (dx_idxF i rfl ty_slice_22 rfl rfl (hnt.below hB) (by omega) (at_mapX ha_n)) rfl rfl ?_
    rintro un _ ⟨rfl, pn_⟩
    refine Va (dx_loadP rfl ty_one_9 rfl pn_) rfl rfl ?_
    refine Ge (dx_cb rfl Tryd.func28 rfl rfl rfl (ptext_v P (b ++ [44]) 8192 a_ w W21 hB hst (by (try simp only [List.length_append, List.length_cons, List.length_nil]); omega) (hz.2.2.2.1 _ (List.mem_of_getElem? ha_n)))) rfl rfl ?_
    rintro _ W29 ⟨⟨rfl, b2, hkb2, hst⟩, hB⟩
    have hL := LL.nil W29
    refine Ni (hK26 ?_)
    have hbd2 := hkb2.2
    (try simp only [List.length_append, List.length_cons, List.length_nil] at hbd2)
    refine Rg (Pu rfl (Va (dx_nilCheck rfl rfl) rfl rfl (Va (dx_fld (o1 := 0) rfl ty_fld_46_0_0 rfl rfl) rfl rfl ?_)))
    refine Ge (dx_cb rfl Tryd.func44 rfl rfl rfl (wbyte_v P b2 8192 58 w W29 hB hst (by (try simp only [List.length_append, List.length_cons, List.length_nil]); omega) (by omega) (by omega))) rfl rfl ?_
    rintro _ W30 ⟨⟨rfl, hst⟩, hB⟩
    have hL := LL.nil W30
    refine Ni (hK22 (Rg (Pu rfl (Pu rfl (Va (dx_nilP rfl rfl (hu.below hB)) rfl rfl ?_)))))
    refine Ge (dx_fldP 1 rfl ty_fld_25_4_4 rfl (hu.below hB) (cs' := [t.iv]) rfl (Nat.succ_pos _)) rfl rfl ?_
    rintro u31 _ ⟨rfl, p32⟩
    refine Va (dx_loadP rfl ty_one_23 rfl p32) rfl rfl (Pu rfl ?_)
    refine Ge (dx_idxB i rfl ty_slice_23 rfl rfl hit hB (by omega) (at_mapX hr_)) rfl rfl ?_
    rintro uc _ ⟨rfl, pc_⟩
    have hcb := ptB_base pc_ hB
    refine Ge (dx_cb rfl Tryd.func22 rfl rfl rfl (hval r_ uc P (b2 ++ [58]) w W30 hB hst htab hcb (hct r_ (List.mem_of_getElem? hr_)) (hz.2.2.2.2 r_ (List.mem_of_getElem? hr_)) (hrc r_ (List.mem_of_getElem? hr_)) (by (try simp only [List.length_append, List.length_cons, List.length_nil]); omega))) rfl rfl ?_
    rintro _ W33 ⟨⟨rfl, b4, hkb4, hst⟩, hB⟩
    have hL := LL.nil W33
    refine Ni (hK12 (Rg (Va (dx_add (r := (i : Int) + 1) rfl rfl rfl (wrap64_id (by omega))) rfl rfl (Pu rfl (Ni ?_)))))
    have hp_ := pcs_6 (n := m) hkt hr_ ha_n
    have hx_ : PrK 8192 (1 + (6000002 + (1 + Kf m))) b ([44] ++ (quoJ a_ ++ (58 :: prJ m r_.er))) b4 := prK_then (prK_exact (b1 := b ++ [44]) (K := 1) (x := [44]) (by simp) (by simp)) (prK_then hkb2 (prK_then (x := [58]) (K := 1) (prK_exact (b1 := b2 ++ [58]) rfl (by simp)) hkb4 (by decide) (by unfold Kf; omega)) (by decide) (by unfold Kf; omega)) (by decide) (by unfold Kf; omega)
    have hq_ : PrK 8192 (6500000 + Kf m) l (123 :: commaJ ((pcs m t.er).take (i + 1))) b4 := by rw [comma_add _ i _ hp_, if_neg hi0]; exact prK_pre (x := 123 :: commaJ ((pcs m t.er).take i)) hgo.1 (by omega) (prK_le hx_ (by omega))
    exact hK7 (i + 1) b4 ⟨(by omega), hq_, hB, hL, hst⟩ (by omega) (by repeat first | exact trivial | exact And.intro rfl trivial | refine And.intro rfl ?_ | refine And.intro (congrArg (fun z : Int => some (Value.int .i64 z)) (by omega)) ?_)
   ·
    replace c20 := dF c20
    have hi0 : i = 0 := by omega
    refine WC.skip (hK18 (Sq fun K34 hK34 => (Sq fun K35 hK35 => (Rg (Pu rfl (Va (dx_nilP rfl rfl (hu.below hB)) rfl rfl ?_))))))
    refine Ge (dx_fldP 1 rfl ty_fld_25_0_0 rfl (hu.below hB) (cs' := [.int .i64 t.kind]) rfl (Nat.succ_pos _)) rfl rfl ?_
    rintro u36 _ ⟨rfl, p37⟩
    refine Va ((hkt ▸ dx_loadP rfl ty_one_3 rfl p37)) rfl rfl (Va (dx_eql rfl rfl rfl) rfl rfl (Ni (hK35 (WC.condT rfl (Sq fun K38 hK38 => ?_)))))
    obtain ⟨a_, ha_n⟩ : ∃ x, t.names[i]? = some x := ⟨_, List.getElem?_eq_getElem (by omega)⟩
    refine Rg (Pu rfl (Pu rfl (Va (dx_nilP rfl rfl (hu.below hB)) rfl rfl ?_)))
    refine Ge (dx_fldP 1 rfl ty_fld_25_3_3 rfl (hu.below hB) (cs' := [t.nv]) rfl (Nat.succ_pos _)) rfl rfl ?_
    rintro u39 _ ⟨rfl, p40⟩
    refine Va (dx_loadP rfl ty_one_22 rfl p40) rfl rfl (Pu rfl ?_)
    refine Ge (dx_idxF i rfl ty_slice_22 rfl rfl (hnt.below hB) (by omega) (at_mapX ha_n)) rfl rfl ?_
    rintro un _ ⟨rfl, pn_⟩
    refine Va (dx_loadP rfl ty_one_9 rfl pn_) rfl rfl ?_
    refine Ge (dx_cb rfl Tryd.func28 rfl rfl rfl (ptext_v P b 8192 a_ w W16 hB hst (by (try simp only [List.length_append, List.length_cons, List.length_nil]); omega) (hz.2.2.2.1 _ (List.mem_of_getElem? ha_n)))) rfl rfl ?_
    rintro _ W41 ⟨⟨rfl, b2, hkb2, hst⟩, hB⟩
    have hL := LL.nil W41
    refine Ni (hK38 ?_)
    have hbd2 := hkb2.2
    (try simp only [List.length_append, List.length_cons, List.length_nil] at hbd2)
    refine Rg (Pu rfl (Va (dx_nilCheck rfl rfl) rfl rfl (Va (dx_fld (o1 := 0) rfl ty_fld_46_0_0 rfl rfl) rfl rfl ?_)))
    refine Ge (dx_cb rfl Tryd.func44 rfl rfl rfl (wbyte_v P b2 8192 58 w W41 hB hst (by (try simp only [List.length_append, List.length_cons, List.length_nil]); omega) (by omega) (by omega))) rfl rfl ?_
    rintro _ W42 ⟨⟨rfl, hst⟩, hB⟩
    have hL := LL.nil W42
    refine Ni (hK34 (Rg (Pu rfl (Pu rfl (Va (dx_nilP rfl rfl (hu.below hB)) rfl rfl ?_)))))
    refine Ge (dx_fldP 1 rfl ty_fld_25_4_4 rfl (hu.below hB) (cs' := [t.iv]) rfl (Nat.succ_pos _)) rfl rfl ?_
    rintro u43 _ ⟨rfl, p44⟩
    refine Va (dx_loadP rfl ty_one_23 rfl p44) rfl rfl (Pu rfl ?_)
    refine Ge (dx_idxB i rfl ty_slice_23 rfl rfl hit hB (by omega) (at_mapX hr_)) rfl rfl ?_
    rintro uc _ ⟨rfl, pc_⟩
    have hcb := ptB_base pc_ hB
    refine Ge (dx_cb rfl Tryd.func22 rfl rfl rfl (hval r_ uc P (b2 ++ [58]) w W42 hB hst htab hcb (hct r_ (List.mem_of_getElem? hr_)) (hz.2.2.2.2 r_ (List.mem_of_getElem? hr_)) (hrc r_ (List.mem_of_getElem? hr_)) (by (try simp only [List.length_append, List.length_cons, List.length_nil]); omega))) rfl rfl ?_
    rintro _ W45 ⟨⟨rfl, b4, hkb4, hst⟩, hB⟩
    have hL := LL.nil W45
    refine Ni (hK12 (Rg (Va (dx_add (r := (i : Int) + 1) rfl rfl rfl (wrap64_id (by omega))) rfl rfl (Pu rfl (Ni ?_)))))
    have hp_ := pcs_6 (n := m) hkt hr_ ha_n
    have hx_ : PrK 8192 (1 + (6000002 + (1 + Kf m))) b ([] ++ (quoJ a_ ++ (58 :: prJ m r_.er))) b4 := prK_then (prK_exact (b1 := b) (K := 1) (x := []) (by simp) (by simp)) (prK_then hkb2 (prK_then (x := [58]) (K := 1) (prK_exact (b1 := b2 ++ [58]) rfl (by simp)) hkb4 (by decide) (by unfold Kf; omega)) (by decide) (by unfold Kf; omega)) (by decide) (by unfold Kf; omega)
    have hq_ : PrK 8192 (6500000 + Kf m) l (123 :: commaJ ((pcs m t.er).take (i + 1))) b4 := by rw [comma_add _ i _ hp_, if_pos hi0]; exact prK_pre (x := 123 :: commaJ ((pcs m t.er).take i)) hgo.1 (by omega) (prK_le hx_ (by omega))
    exact hK7 (i + 1) b4 ⟨(by omega), hq_, hB, hL, hst⟩ (by omega) (by repeat first | exact trivial | exact And.intro rfl trivial | refine And.intro rfl ?_ | refine And.intro (congrArg (fun z : Int => some (Value.int .i64 z)) (by omega)) ?_)
 ·
  replace c11 := dF c11
  refine WC.exit ?_
  refine hK3 ?_
  have hbd := hk.2
  unfold Kf at hbd
  refine Rg (Pu rfl (Va (dx_nilCheck rfl rfl) rfl rfl (Va (dx_fld (o1 := 0) rfl ty_fld_46_0_0 rfl rfl) rfl rfl (Pu rfl ?_))))
  refine Ge (dx_cb rfl Tryd.func44 rfl rfl rfl (wbyte_v P b 8192 125 w W8 hB hst (by (try simp only [List.length_append, List.length_cons, List.length_nil]); omega) (by omega) (by omega))) rfl rfl ?_
  rintro _ W46 ⟨⟨rfl, hst⟩, hB⟩
  have hL := LL.nil W46
  refine Ni ?_
  intro a_ ha_
  exact hE (cv_ret0 rfl  ⟨rfl, _, (by have hl_ := pcs_len6 (n := m) hkt hln; have e_ : (pcs m t.er).take i = pcs m t.er := List.take_of_length_le (by omega); rw [e_] at hk; rw [pr_6 hkt]; exact prK_le (prK_then (x := 123 :: commaJ (pcs m t.er)) (y := [125]) hk (prK_exact (K := 1) rfl (by simp)) (by unfold Kf; omega) (by decide)) (by unfold Kf; omega)), hst⟩ hB ha_)

theorem tab_of_three {W : World} (hL : laidMet Tryd.prog [("math/bits.deBruijn32tab", Rows.laid_math_bits_deBruijn32tab), ("math/bits.deBruijn64tab", Rows.laid_math_bits_deBruijn64tab), ("internal/strconv.uint64pow10", Rows.laid_internal_strconv_uint64pow10)] W) : tabP W := by
 have h2 : laidMet Tryd.prog [("internal/strconv.uint64pow10", Rows.laid_internal_strconv_uint64pow10)] W := laidMet.tail (laidMet.tail hL)
 exact Go.Lib.tabIs_of_head (g := 0) (t := 126) (e := 111) (n := 20) (by kernel_rfl) (by kernel_rfl) Tryd.underlying126 Tryd.underlying111 (by kernel_rfl) (by kernel_rfl) h2
theorem begin_sz {s wd : ByteArray} {k m : Nat} (h : beginS s wd k = true) (e : wd.size = m) : k + m ≤ s.size := by
 subst e
 unfold beginS at h
 rw [Bool.and_eq_true, decide_eq_true_eq] at h
 exact h.1
theorem numT_ok {s : ByteArray} {m : Bool} {k k' : Nat} {n : Int} (hk : k ≤ s.size) (h : numT s m k = .ok (n, k')) : k < k' ∧ k' ≤ s.size := by
  have hd := digS_le hk
  unfold numT at h
  split at h
  · split at h
    · cases h
    · cases h; omega
  · split at h
    · cases h
    · split at h
      · cases h
      · cases h; omega
variable {s : ByteArray} {dp k : Nat} {rl ro : Except Int (Js × Nat)} in
theorem nest_lt (h : dp < 12) : nestS dp rl = rl := by unfold nestS; rw [if_neg (by omega)]


def RJ (n : Nat) (j : Js) : Prop := rightJ upB n j = true ∧ SzJ 1000000 (n + 1) j
theorem leaf_rj {n : Nat} {j : Js} (h : leafJ upB j = true) (hz : j.text.size ≤ 1000000) : RJ n j := by
 have h0 := h
 unfold leafJ at h0
 rw [Bool.and_eq_true, Bool.and_eq_true, decide_eq_true_eq, decide_eq_true_eq] at h0
 obtain ⟨⟨h1, h2⟩, _⟩ := h0
 refine ⟨?_, hz, by rw [h1]; decide, by rw [h2]; decide, by rw [h1]; exact (fun s hs => by cases hs), by rw [h2]; exact (fun c hc => by cases hc)⟩
 cases n with
 | zero => rw [rightJ]; exact h
 | succ n => rw [rightJ, h]; rfl
section
variable {σ : Type} {s : ByteArray} {one : Nat → σ → Except Int (σ × Nat)} {la : Int} {I : Nat → σ → Prop}
theorem memL_ok (hI : ∀ k k' st, I k st → k ≤ k' → I k' st) (h1 : ∀ k st st' k', k ≤ s.size → I k st → one k st = .ok (st', k') → I k' st' ∧ k < k' ∧ k' ≤ s.size) : ∀ (n k : Nat) (st st' : σ) (k' : Nat), k ≤ s.size → I k st → memL s one la n k st = .ok (st', k') → I k' st' ∧ k < k' ∧ k' ≤ s.size
  | 0, _, _, _, _, _, _, h => by rw [memL] at h; cases h
  | n + 1, k, st, st', k', hk, hi, h => by
    rw [memL] at h
    have hb := blankS_le hk
    split at h
    · cases h
    · rename_i st1 k2 ho
      obtain ⟨a, b, c⟩ := h1 _ _ _ _ hb.2 (hI _ _ _ hi hb.1) ho
      have hb2 := blankS_le c
      split at h
      · rename_i hq
        have hq := take_t hq
        cases h
        exact ⟨hI _ _ _ a (by omega), by omega, by omega⟩
      · split at h
        · rename_i hq
          have hq := take_t hq
          obtain ⟨p, q, r⟩ := memL_ok hI h1 n _ _ _ _ (by omega) (hI _ _ _ a (show k2 ≤ blankS s k2 + 1 by omega)) h
          exact ⟨p, by omega, r⟩
        · cases h
theorem memS_ok (hI : ∀ k k' st, I k st → k ≤ k' → I k' st) (h1 : ∀ k st st' k', k ≤ s.size → I k st → one k st = .ok (st', k') → I k' st' ∧ k < k' ∧ k' ≤ s.size) {k k' : Nat} {st st' : σ} (hk : k < s.size) (hi : I k st) (h : memS s one la k st = .ok (st', k')) : I k' st' ∧ k < k' ∧ k' ≤ s.size := by
  unfold memS at h
  have hb := blankS_le (s := s) (k := k + 1) (by omega)
  split at h
  · rename_i hq
    have hq := take_t hq
    cases h
    exact ⟨hI _ _ _ hi (by omega), by omega, by omega⟩
  · obtain ⟨p, q, r⟩ := memL_ok hI h1 _ _ _ _ _ hb.2 (hI _ _ _ hi (by omega)) h
    exact ⟨p, by omega, r⟩
end
def VOk (s : ByteArray) (n : Nat) (vs : Nat → Except Int (Js × Nat)) : Prop := ∀ k j k', k ≤ s.size → vs k = .ok (j, k') → RJ n j ∧ k < k' ∧ k' ≤ s.size
theorem list_ok {s : ByteArray} {n : Nat} {vs : Nat → Except Int (Js × Nat)} (hs : s.size ≤ 1000000) (hv : VOk s n vs) {k k' : Nat} {j : Js} (hk : k < s.size) (h : listS s vs k = .ok (j, k')) : RJ (n + 1) j ∧ k < k' ∧ k' ≤ s.size := by
  unfold listS at h
  split at h
  · cases h
  · rename_i ts k2 hm
    cases h
    obtain ⟨⟨a, b⟩, c, d⟩ := memS_ok (I := fun k (ts : List Js) => ts.length ≤ k ∧ ∀ t ∈ ts, RJ n t) (fun _ _ _ h1 h2 => ⟨Nat.le_trans h1.1 h2, h1.2⟩) (fun q st st' q' hq hi ho => by
      unfold oneL at ho
      split at ho
      · cases ho
      · rename_i t q2 hv2
        cases ho
        obtain ⟨e1, e2, e3⟩ := hv _ _ _ hq hv2
        refine ⟨⟨by rw [List.length_append, List.length_singleton]; omega, fun x hx => ?_⟩, e2, e3⟩
        rcases List.mem_append.1 hx with hx | hx
        · exact hi.2 x hx
        · rw [List.mem_singleton.1 hx]; exact e1) hk ⟨Nat.zero_le _, fun t ht => by cases ht⟩ hm
    refine ⟨⟨?_, ?_⟩, c, d⟩
    · rw [rightJ, Bool.or_eq_true]
      right
      rw [Bool.and_eq_true, List.all_eq_true]
      exact ⟨rfl, fun x hx => (b x hx).1⟩
    · exact ⟨by show 0 ≤ 1000000; decide, by show 0 ≤ 1000000; decide, by show ts.length ≤ 1000000; omega, (fun s hs => by cases hs), fun x hx => (b x hx).2⟩
theorem obj_ok {s : ByteArray} {n : Nat} {vs : Nat → Except Int (Js × Nat)} (hs : s.size ≤ 1000000) (hu : OKL (sb s)) (hv : VOk s n vs) {k k' : Nat} {j : Js} (hk : k < s.size) (h : objS s vs k = .ok (j, k')) : RJ (n + 1) j ∧ k < k' ∧ k' ≤ s.size := by
  unfold objS at h
  split at h
  · cases h
  · rename_i st k2 hm
    cases h
    obtain ⟨⟨a1, a2, a3, a4, a5⟩, c, d⟩ := memS_ok (I := fun k (st : StO) => st.1.length ≤ k ∧ st.1.length = st.2.length ∧ Rises st.1 ∧ (∀ x ∈ st.1, upB x = true ∧ x.size ≤ 1000000) ∧ ∀ t ∈ st.2, RJ n t) (fun _ _ _ h1 h2 => ⟨Nat.le_trans h1.1 h2, h1.2⟩) (fun q st st' q' hq hi ho => by
      unfold pairS at ho
      split at ho
      · rename_i hq34
        split at ho
        · cases ho
        · rename_i l q1 hqu
          obtain ⟨o1, o2, o3, o4⟩ := quo_ok hu hq34 hqu
          unfold pairN at ho
          split at ho
          · cases ho
          · rename_i hnn
            have hb := blankS_le o4
            split at ho
            · rename_i hco
              have hco := take_t hco
              have hb2 := blankS_le (s := s) (k := blankS s q1 + 1) (by omega)
              split at ho
              · cases ho
              · rename_i t q2 hv2
                cases ho
                obtain ⟨e1, e2, e3⟩ := hv _ _ _ hb2.2 hv2
                obtain ⟨i1, i2, i3, i4, i5⟩ := hi
                have hle := lbT_le (strOfNums l) st.1
                refine ⟨⟨by rw [insA_len hle]; omega, by rw [insA_len hle, insA_len (by rw [← i2]; exact hle), i2], rises_ins i3 hnn, fun x hx => ?_, fun x hx => ?_⟩, by omega, e3⟩
                · rcases mem_insA.1 hx with rfl | hx
                  · exact ⟨up_of_ok o1, by rw [strOfNums_size]; omega⟩
                  · exact i4 x hx
                · rcases mem_insA.1 hx with rfl | hx
                  · exact e1
                  · exact i5 x hx
            · cases ho
      · cases ho) hk ⟨Nat.zero_le _, rfl, List.Pairwise.nil, (fun x hx => by cases hx), (fun t ht => by cases ht)⟩ hm
    refine ⟨⟨mk_right a2 a3 (fun x hx => (a4 x hx).1) (fun x hx => (a5 x hx).1), ?_⟩, c, d⟩
    exact ⟨by show 0 ≤ 1000000; decide, by show st.1.length ≤ 1000000; omega, by show st.2.length ≤ 1000000; omega, fun x hx => (a4 x hx).2, fun x hx => (a5 x hx).2⟩
theorem valB_ok {s : ByteArray} {n dp : Nat} {rl ro : Except Int (Js × Nat)} (hs : s.size ≤ 1000000) (hu : OKL (sb s)) {k k' : Nat} {j : Js} (hl : k < s.size → nestS dp rl = .ok (j, k') → RJ n j ∧ k < k' ∧ k' ≤ s.size) (ho : k < s.size → nestS dp ro = .ok (j, k') → RJ n j ∧ k < k' ∧ k' ≤ s.size) (h : valB s dp rl ro k = .ok (j, k')) : RJ n j ∧ k < k' ∧ k' ≤ s.size := by
  unfold valB at h
  have hw : ∀ (wd : ByteArray) (kd : Int), 1 ≤ wd.size → kd = 0 ∨ kd = 1 ∨ kd = 2 → wordR s wd kd k = .ok (j, k') → k < s.size → RJ n j ∧ k < k' ∧ k' ≤ s.size := fun wd kd h1 h2 h3 hk => by
    unfold wordR at h3
    split at h3
    · rename_i hw
      cases h3
      have hb := begin_sz ((begin_word (by omega)).trans hw) rfl
      refine ⟨leaf_rj ?_ (by show 0 ≤ 1000000; decide), by omega, hb⟩
      rcases h2 with rfl | rfl | rfl <;> rfl
    · cases h3
  split at h
  · rename_i hk
    split at h
    · exact hw _ _ (by decide) (.inl rfl) h hk
    · split at h
      · exact hw _ _ (by decide) (.inr (.inl rfl)) h hk
      · split at h
        · exact hw _ _ (by decide) (.inr (.inr rfl)) h hk
        · split at h
          · unfold numR at h
            split at h
            · cases h
            · rename_i m q hm
              cases h
              have hr := numS_in hm
              have hp : k < k' ∧ k' ≤ s.size := by
                unfold numS at hm
                split at hm
                · have := numT_ok (by omega) hm; omega
                · exact numT_ok (by omega) hm
              refine ⟨leaf_rj ?_ (by show 0 ≤ 1000000; decide), hp.1, hp.2⟩
              unfold leafJ leafS
              simp only [Js.names, Js.items, Js.kind, Js.text, Js.num]
              simp [hr.1, hr.2]
          · split at h
            · rename_i hq
              unfold quoR at h
              split at h
              · cases h
              · rename_i l q hq2
                cases h
                obtain ⟨o1, o2, o3, o4⟩ := quo_ok hu (take_of hk hq.symm) hq2
                refine ⟨leaf_rj ?_ (by show (strOfNums l).size ≤ 1000000; rw [strOfNums_size]; omega), o3, o4⟩
                unfold leafJ leafS
                simp only [Js.names, Js.items, Js.kind, Js.text, Js.num]
                simp [up_of_ok o1]
            · split at h
              · exact hl hk h
              · split at h
                · exact ho hk h
                · cases h
  · cases h
theorem valD_ok {s : ByteArray} (hs : s.size ≤ 1000000) (hu : OKL (sb s)) : ∀ m, m ≤ 12 → VOk s m (valD s m)
 | 0, _ => fun k j k' hk h => valB_ok hs hu (fun _ h => by cases h) (fun _ h => by cases h) h
 | m + 1, hm => fun k j k' hk h => by
  have ih := valD_ok hs hu m (by omega)
  have e : ∀ r : Except Int (Js × Nat), nestS (12 - (m + 1)) r = r := fun r => nest_lt (by omega)
  exact valB_ok hs hu (fun hk h => by rw [e] at h; exact list_ok hs ih hk h) (fun hk h => by rw [e] at h; exact obj_ok hs hu ih hk h) h
theorem par_ok {s : ByteArray} {j : Js} (h : parJ s = .ok j) : RJ 12 j := by
  unfold parJ parS at h
  split at h
  · cases h
  · rename_i hsz
    split at h
    · cases h
    · rename_i hu
      split at h
      · cases h
      · rename_i j2 k hv
        have := valD_ok (by omega) (ok_of_up (by simpa using hu)) 12 (Nat.le_refl _) _ _ _ (blankS_le (Nat.zero_le _)).2 hv
        split at h
        · cases h; exact this.1
        · cases h

theorem node_of {m : Nat} {t : Tr} (h : rightJ upB m t.er = true) (hk : t.kind = 5 ∨ t.kind = 6) : ∃ q, m = q + 1 ∧ (∀ c ∈ t.items, rightJ upB q c.er = true) ∧ (t.kind = 6 → t.names.length = t.items.length) := by
  have hk' : t.er.kind = 5 ∨ t.er.kind = 6 := by rw [er_kind]; exact hk
  cases m with
  | zero => rw [rightJ] at h; exact absurd hk' (leaf_kind h)
  | succ q =>
    rw [rightJ, Bool.or_eq_true] at h
    rcases h with h | h
    · exact absurd hk' (leaf_kind h)
    · rw [Bool.and_eq_true, List.all_eq_true] at h
      refine ⟨q, rfl, fun c hc => h.2 c.er (by rw [er_items]; exact List.mem_map.2 ⟨c, hc, rfl⟩), fun h6 => ?_⟩
      obtain ⟨_, _, ⟨e, _⟩ | ⟨_, e, _⟩⟩ := node_cases h.1
      · rw [er_kind] at e; omega
      · rw [er_names, er_items, List.length_map] at e; exact e
theorem leaf_of {m : Nat} {t : Tr} (h : rightJ upB m t.er = true) (hk : ¬ t.kind = 5) (hk6 : ¬ t.kind = 6) : leafJ upB t.er = true := by
  cases m with
  | zero => rw [rightJ] at h; exact h
  | succ q =>
    rw [rightJ, Bool.or_eq_true] at h
    rcases h with h | h
    · exact h
    · rw [Bool.and_eq_true] at h
      rcases node_kind h.1 with e | e <;> rw [er_kind] at e
      · exact absurd e hk
      · exact absurd e hk6
theorem num_of {m : Nat} {t : Tr} (h : rightJ upB m t.er = true) (hk : t.kind = 3) : -9007199254740991 ≤ t.num ∧ t.num ≤ 9007199254740991 := by
 obtain ⟨_, _, ⟨_, _, h1, h2⟩ | ⟨e, _⟩ | ⟨e, _⟩⟩ := leaf_cases (leaf_of h (by omega) (by omega))
 · rw [er_num] at h1 h2; exact ⟨h1, h2⟩
 · rw [er_kind] at e; omega
 · rw [er_kind] at e; omega
theorem kinds_of {m : Nat} {t : Tr} (h : rightJ upB m t.er = true) (h0 : ¬ t.kind = 0) (h1 : ¬ t.kind = 1) (h2 : ¬ t.kind = 2) (h3 : ¬ t.kind = 3) (h4 : ¬ t.kind = 4) (h5 : ¬ t.kind = 5) (h6 : ¬ t.kind = 6) : False := by
 obtain ⟨_, _, ⟨e, _⟩ | ⟨e, _⟩ | ⟨e, _⟩⟩ := leaf_cases (leaf_of h h5 h6) <;> rw [er_kind] at e <;> omega
theorem val_w {m : Nat} {t : Tr} {l b1 x : List Int} (hl : prJ m t.er = x) (hx : x.length ≤ 7000000) (e : b1 = l ++ x) : PrK 8192 (Kf m) l (prJ m t.er) b1 := by rw [hl]; exact prK_exact e (by unfold Kf; omega)
theorem pr_l {m : Nat} {t : Tr} (h5 : ¬ t.kind = 5) (h6 : ¬ t.kind = 6) : prJ m t.er = leafP t.er := pr_leaf (by rw [er_kind]; exact h5) (by rw [er_kind]; exact h6)
set_option maxHeartbeats 1000000 in
theorem pvalue_step (m : Nat) (ih : ∀ q, m = q + 1 → ValP q) (n : Nat) (t : Tr) (u : Value) (P : Nat) (l : List Int) (w w1 : World) (hB : Below w.heap.size w w1) (hst : PrS w.heap.size P l 8192 w1) (htab : tabP w) (hu : PtR [] w u (encT t)) (ht : RdT (n + 1) [] w t) (hz : SzT 1000000 (n + 1) t) (hr : rightJ upB m t.er = true) (hlen : l.length ≤ 10000000) (hm : m ≤ 12) : CB Tryd.prog 22 [.pointer (some ⟨P, 0, none⟩), u] w w1 fun v W => v = .tuple #[] ∧ ∃ l', PrK 8192 (Kf m) l (prJ m t.er) l' ∧ PrS w.heap.size P l' 8192 W := by
 refine cb_enter (N := 55) (f := [(0, .pointer (some ⟨P, 0, none⟩)), (1, u)]) Tryd.func22 rfl rfl rfl rfl fun Q hQ hE => ?_
 have hL := LL.nil w1
 refine Sq fun K1 hK1 => ?_
 obtain ⟨hnt, hit, hct⟩ := id ht
 refine Rg (Pu rfl (Va (dx_nilP rfl rfl (hu.below hB)) rfl rfl ?_))
 refine Ge (dx_fldP 1 rfl ty_fld_25_0_0 rfl (hu.below hB) (cs' := [.int .i64 t.kind]) rfl (Nat.succ_pos _)) rfl rfl ?_
 rintro u2 _ ⟨rfl, p3⟩
 refine Va (dx_loadP rfl ty_one_3 rfl p3) rfl rfl (Ni (hK1 (WC.block (Sq fun K4 hK4 => (Rg (Va (dx_eql rfl rfl rfl) rfl rfl (Pu rfl ?_)))))))
 refine Ni (hK4 ?_)
 refine WC.cond rfl (fun c5 => ?_) (fun c5 => ?_)
 ·
  replace c5 := dT c5
  refine Rg (Pu rfl (Va (dx_nilCheck rfl rfl) rfl rfl (Va (dx_fld (o1 := 0) rfl ty_fld_46_0_0 rfl rfl) rfl rfl ?_)))
  refine Ge (dx_cb rfl Tryd.func38 rfl rfl rfl (wstr_v P l 8192 ({ data := #[110, 117, 108, 108] }) w w1 hB hst (by (try simp only [List.length_append, List.length_cons, List.length_nil]); omega) (by decide))) rfl rfl ?_
  rintro _ W6 ⟨⟨rfl, hst⟩, hB⟩
  have hL := LL.nil W6
  refine Ni ?_
  intro a_ ha_
  exact hE (cv_ret0 rfl  ⟨rfl, _, val_w (x := [110, 117, 108, 108]) ((pr_l (by omega) (by omega)).trans (leafP_0 (by rw [er_kind]; assumption))) (by decide) rfl, hst⟩ hB ha_)
 ·
  replace c5 := dF c5
  refine Sq fun K7 hK7 => (Rg (Va (dx_eql rfl rfl rfl) rfl rfl (Pu rfl (Ni (hK7 ?_)))))
  refine WC.cond rfl (fun c8 => ?_) (fun c8 => ?_)
  ·
   replace c8 := dT c8
   refine Rg (Pu rfl (Va (dx_nilCheck rfl rfl) rfl rfl (Va (dx_fld (o1 := 0) rfl ty_fld_46_0_0 rfl rfl) rfl rfl ?_)))
   refine Ge (dx_cb rfl Tryd.func38 rfl rfl rfl (wstr_v P l 8192 ({ data := #[116, 114, 117, 101] }) w w1 hB hst (by (try simp only [List.length_append, List.length_cons, List.length_nil]); omega) (by decide))) rfl rfl ?_
   rintro _ W9 ⟨⟨rfl, hst⟩, hB⟩
   have hL := LL.nil W9
   refine Ni ?_
   intro a_ ha_
   exact hE (cv_ret0 rfl  ⟨rfl, _, val_w (x := [116, 114, 117, 101]) ((pr_l (by omega) (by omega)).trans (leafP_1 (by rw [er_kind]; assumption))) (by decide) rfl, hst⟩ hB ha_)
  ·
   replace c8 := dF c8
   refine Sq fun K10 hK10 => (Rg (Va (dx_eql rfl rfl rfl) rfl rfl (Pu rfl (Ni (hK10 ?_)))))
   refine WC.cond rfl (fun c11 => ?_) (fun c11 => ?_)
   ·
    replace c11 := dT c11
    refine Rg (Pu rfl (Va (dx_nilCheck rfl rfl) rfl rfl (Va (dx_fld (o1 := 0) rfl ty_fld_46_0_0 rfl rfl) rfl rfl ?_)))
    refine Ge (dx_cb rfl Tryd.func38 rfl rfl rfl (wstr_v P l 8192 ({ data := #[102, 97, 108, 115, 101] }) w w1 hB hst (by (try simp only [List.length_append, List.length_cons, List.length_nil]); omega) (by decide))) rfl rfl ?_
    rintro _ W12 ⟨⟨rfl, hst⟩, hB⟩
    have hL := LL.nil W12
    refine Ni ?_
    intro a_ ha_
    exact hE (cv_ret0 rfl  ⟨rfl, _, val_w (x := [102, 97, 108, 115, 101]) ((pr_l (by omega) (by omega)).trans (leafP_2 (by rw [er_kind]; assumption))) (by decide) rfl, hst⟩ hB ha_)
   ·
    replace c11 := dF c11
    refine Sq fun K13 hK13 => (Rg (Va (dx_eql rfl rfl rfl) rfl rfl (Pu rfl (Ni (hK13 ?_)))))
    refine WC.cond rfl (fun c14 => ?_) (fun c14 => ?_)
    ·
     replace c14 := dT c14
     obtain ⟨hn0, hn1⟩ := num_of hr (by assumption)
     have huw := hu.below hB
     refine WC.drawM 8 [(some 28, .is (.pointer (some ⟨P, 0, none⟩))), (some 29, .is (.pointer (some ⟨P, 0, none⟩))), (some 30, .is (.pointer (some ⟨P, 0, none⟩))), (some 31, .is (u)), (some 32, .is (u)), (some 33, .by fun u W => PtR ([]) W u [.int .i64 t.num]), (some 34, .is (.int .i64 t.num)), (some 35, .is (.string ⟨(Lib.itoa t.num).toArray⟩))] [[], [0], [1], [], [3], [4], [5], [6]] (by kernel_rfl) (by kernel_rfl) (by kernel_rfl) (by kernel_rfl) (by kernel_rfl) (by kernel_rfl) (by kernel_rfl) ⟨fun _ _ _ hb h => h.below hb, trivial⟩ ?_ ?_
     ·
      refine Dc (fun Wd hd => ?_) ?_
      ·
       exact Dd (dx_move rfl rfl) rfl
      refine Dc (fun Wd hd => ?_) ?_
      ·
       exact Dd (dx_nilCheck rfl rfl) rfl
      refine Dc (fun Wd hd => ?_) ?_
      ·
       exact Dd (dx_fld (o1 := 0) rfl ty_fld_46_0_0 rfl rfl) rfl
      refine Dc (fun Wd hd => ?_) ?_
      ·
       exact Dd (dx_move rfl rfl) rfl
      refine Dc (fun Wd hd => ?_) ?_
      ·
       have huw := huw.below hd
       exact Dd (dx_nilP rfl rfl huw) rfl
      refine Dc (fun Wd hd => ?_) ?_
      ·
       have huw := huw.below hd
       exact (dx_fldP 1 rfl ty_fld_25_1_1 rfl huw (cs' := [.int .i64 t.num]) rfl (Nat.succ_pos _)).mono (fun v W' h => ⟨by rw [← h.1]; exact Below.refl _ _, by rw [← h.1]; exact h.2⟩)
      refine Dc (fun Wd hd => ?_) ?_
      ·
       intro u8_5 p8_5
       exact Dd (dx_loadP rfl ty_one_3 rfl p8_5) rfl
      refine Dc (fun Wd hd => ?_) ?_
      ·
       exact DR.mono (dx_cv rfl Tryd.func39 rfl rfl rfl (itoa_v t.num Wd (tabP_below htab (below_then hB hd)) (by omega) (by omega))) (fun v W' ⟨h, hb⟩ => ⟨hb, (by rw [h]; exact rfl)⟩)
      exact trivial
     ·
      intro W15 b16
      intro u8_5 p8_5
      replace hst := hst.below b16
      replace hB := below_then hB b16
      replace hL := LL.below hL b16
      refine Ge (dx_cb rfl Tryd.func38 rfl rfl rfl (wstr_v P l 8192 ⟨(Lib.itoa t.num).toArray⟩ w W15 hB hst (by (try simp only [List.length_append, List.length_cons, List.length_nil]); omega) (by have := itoa_size t.num (by omega) (by omega); omega))) rfl rfl ?_
      rintro _ W17 ⟨⟨rfl, hst⟩, hB⟩
      have hL := LL.nil W17
      refine Ni ?_
      intro a_ ha_
      exact hE (cv_ret0 rfl  ⟨rfl, _, val_w (x := numJ t.num) ((pr_l (by omega) (by omega)).trans ((leafP_3 (by rw [er_kind]; assumption)).trans (by rw [er_num]))) (by have := numJ_len (n := t.num) (by omega) (by omega); omega) (by rw [itoa_sb]), hst⟩ hB ha_)
    ·
     replace c14 := dF c14
     refine Sq fun K18 hK18 => (Rg (Va (dx_eql rfl rfl rfl) rfl rfl (Pu rfl (Ni (hK18 ?_)))))
     refine WC.cond rfl (fun c19 => ?_) (fun c19 => ?_)
     ·
      replace c19 := dT c19
      refine Rg (Pu rfl (Pu rfl (Va (dx_nilP rfl rfl (hu.below hB)) rfl rfl ?_)))
      refine Ge (dx_fldP 1 rfl ty_fld_25_2_2 rfl (hu.below hB) (cs' := [.string t.text]) rfl (Nat.succ_pos _)) rfl rfl ?_
      rintro u20 _ ⟨rfl, p21⟩
      refine Va (dx_loadP rfl ty_one_9 rfl p21) rfl rfl ?_
      refine Ge (dx_cb rfl Tryd.func28 rfl rfl rfl (ptext_v P l 8192 t.text w w1 hB hst (by omega) hz.1)) rfl rfl ?_
      rintro _ W22 ⟨⟨rfl, b2, hkb2, hst⟩, hB⟩
      have hL := LL.nil W22
      refine Ni ?_
      intro a_ ha_
      exact hE (cv_ret0 rfl  ⟨rfl, _, (by rw [show prJ m t.er = quoJ t.text from (pr_l (by omega) (by omega)).trans ((leafP_4 (by rw [er_kind]; assumption)).trans (by rw [er_text]))]; exact prK_le hkb2 (by unfold Kf; omega)), hst⟩ hB ha_)
     ·
      replace c19 := dF c19
      refine Sq fun K23 hK23 => (Rg (Va (dx_eql rfl rfl rfl) rfl rfl (Pu rfl (Ni (hK23 ?_)))))
      refine WC.cond rfl (fun c24 => ?_) (fun c24 => ?_)
      ·
       replace c24 := dT c24
       obtain ⟨q, rfl, hrq, hln6⟩ := node_of hr (by first | exact .inl (by assumption) | exact .inr (by assumption))
       have hvq : ∀ (c : Tr) (uc : Value) (P : Nat) (l : List Int) (w w1 : World), Below w.heap.size w w1 → PrS w.heap.size P l 8192 w1 → tabP w → PtR [] w uc (encT c) → RdT n [] w c → SzT 1000000 n c → rightJ upB q c.er = true → l.length ≤ 10000000 → CB Tryd.prog 22 [selfP P, uc] w w1 fun v W => v = .tuple #[] ∧ ∃ l', PrK 8192 (Kf q) l (prJ q c.er) l' ∧ PrS w.heap.size P l' 8192 W := fun c uc P l w w1 h1 h2 h3 h4 h5 h6 h7 h8 => by cases n with | zero => exact h5.elim | succ k => exact ih q rfl k c uc P l w w1 h1 h2 h3 h4 h5 h6 h7 h8 (by omega)
       refine Rg (Pu rfl (Pu rfl ?_))
       refine Ge (dx_cb rfl Tryd.func40 rfl rfl rfl (pitems5_v q n t u P l w w1 hB hst htab hu ht hz (by assumption) trivial hlen (by omega) hvq hrq)) rfl rfl ?_
       rintro _ W25 ⟨⟨rfl, b6, hk6_, hst⟩, hB⟩
       have hL := LL.nil W25
       refine Ni ?_
       intro a_ ha_
       exact hE (cv_ret0 rfl  ⟨rfl, _, hk6_, hst⟩ hB ha_)
      ·
       replace c24 := dF c24
       refine Sq fun K26 hK26 => (Rg (Va (dx_eql rfl rfl rfl) rfl rfl (Pu rfl (Ni (hK26 ?_)))))
       refine WC.cond rfl (fun c27 => ?_) (fun c27 => ?_)
       ·
        replace c27 := dT c27
        obtain ⟨q, rfl, hrq, hln6⟩ := node_of hr (by first | exact .inl (by assumption) | exact .inr (by assumption))
        have hvq : ∀ (c : Tr) (uc : Value) (P : Nat) (l : List Int) (w w1 : World), Below w.heap.size w w1 → PrS w.heap.size P l 8192 w1 → tabP w → PtR [] w uc (encT c) → RdT n [] w c → SzT 1000000 n c → rightJ upB q c.er = true → l.length ≤ 10000000 → CB Tryd.prog 22 [selfP P, uc] w w1 fun v W => v = .tuple #[] ∧ ∃ l', PrK 8192 (Kf q) l (prJ q c.er) l' ∧ PrS w.heap.size P l' 8192 W := fun c uc P l w w1 h1 h2 h3 h4 h5 h6 h7 h8 => by cases n with | zero => exact h5.elim | succ k => exact ih q rfl k c uc P l w w1 h1 h2 h3 h4 h5 h6 h7 h8 (by omega)
        refine Rg (Pu rfl (Pu rfl ?_))
        refine Ge (dx_cb rfl Tryd.func40 rfl rfl rfl (pitems6_v q n t u P l w w1 hB hst htab hu ht hz (by assumption) (hln6 (by assumption)) hlen (by omega) hvq hrq)) rfl rfl ?_
        rintro _ W28 ⟨⟨rfl, b6, hk6_, hst⟩, hB⟩
        have hL := LL.nil W28
        refine Ni ?_
        intro a_ ha_
        exact hE (cv_ret0 rfl  ⟨rfl, _, hk6_, hst⟩ hB ha_)
       ·
        replace c27 := dF c27
        exact (kinds_of hr (by assumption) (by assumption) (by assumption) (by assumption) (by assumption) (by assumption) (by assumption)).elim

theorem valP_all : ∀ m, ValP m
 | 0 => fun n t u P l w w1 hB hst htab hu ht hz hr hl hm => pvalue_step 0 (fun q h => by omega) n t u P l w w1 hB hst htab hu ht hz hr hl hm
 | m + 1 => fun n t u P l w w1 hB hst htab hu ht hz hr hl hm => pvalue_step (m + 1) (fun q h => by (obtain rfl : m = q := (by omega)); exact valP_all m) n t u P l w w1 hB hst htab hu ht hz hr hl hm
section
variable {P : Program} {ops : Array Oper} {o : Oper} {N : Nat} {f : Fl} {w : World}
theorem dx_boxE {t : TypeId} {x : Operand} {V : Value} (ho : o.op = .box t x) (hx : ev f x = some V) (hw : wantF ops o f = some true := by rfl) : DR P ops o N f w (fun u W => u = .pointer (some ⟨w.heap.size, 0, none⟩) ∧ W = w.alloc (.cells V.cells t)) := fun a ha => by
 have hx := ha.ev hx
 exact Does.of_wp (wantF_of ha hw) fun K hK => by
  unfold Oper.wp execOp
  simp only [ho, hx, Sem.run_bind, Instr.box, newVar, newRow, run_newObj_alloc, Sem.run_pure, Result.andThen_ok]
  exact hK _ _ ⟨rfl, rfl⟩
end
theorem bld_p (m : Int) : Tryd.prog.built 46 [(1, .int .i64 m)] = some [.pointer none, .slice none 0 0, .int .i64 m].toArray := by kernel_rfl
theorem prS_new (w : World) (m : Int) : PrS w.heap.size w.heap.size [] m (w.alloc (.cells #[.pointer none, .slice none 0 0, .int .i64 m] 46)) ∧ Below w.heap.size w (w.alloc (.cells #[.pointer none, .slice none 0 0, .int .i64 m] 46)) :=
 ⟨⟨(fun x hx => by cases hx), .inl ⟨Nat.le_refl _, _, heap_alloc_new w _, World.ownsRow_nil _ _ _ _, by simp [Value.ownBlock]⟩⟩, (Below.refl _ w).alloc (Nat.le_refl _) _⟩
def prtS (j : Js) : ByteArray × Int := if rightJ upB 12 j = true then (if 8192 < (textJ j).length then (⟨#[]⟩, 3) else (strOfNums (textJ j), 0)) else (⟨#[]⟩, 1)
section
variable {j : Js} {b : List Int}
theorem prt_no (h : ¬ rightJ upB 12 j = true) : prtS j = (⟨#[]⟩, 1) := by unfold prtS; rw [if_neg h]
theorem prt_long (h : rightJ upB 12 j = true) (hk : PrK 8192 (Kf 12) [] (prJ 12 j) b) (hf : 8192 < (b.length : Int)) : prtS j = (⟨#[]⟩, 3) := by
 unfold prtS
 rw [if_pos h, if_pos]
 have h1 := hk.1
 unfold textJ
 rcases h1 with ⟨a, rfl⟩ | ⟨a, _⟩
 · rw [List.nil_append] at hf; omega
 · simp only [List.length_nil] at a; omega
theorem prt_ok (h : rightJ upB 12 j = true) (hk : PrK 8192 (Kf 12) [] (prJ 12 j) b) (hf : ¬ 8192 < (b.length : Int)) : prtS j = (strOfNums b, 0) := by
 obtain ⟨e, hl⟩ := prK_go hk hf
 rw [List.nil_append] at e
 subst e
 unfold prtS
 rw [if_pos h, if_neg (by unfold textJ; omega)]; rfl
theorem pr_ne (hk : PrK 8192 (Kf 12) [] (prJ 12 j) b) (hf : ¬ 8192 < (b.length : Int)) : b ≠ [] := by
 obtain ⟨e, _⟩ := prK_go hk hf
 obtain ⟨c, l, h1, _⟩ := head_pr 12 j
 rw [e, List.nil_append, h1]; intro h; cases h
end
set_option maxHeartbeats 1000000 in
theorem cPrint_v (n : Nat) (t : Tr) (w : World) (L : List Nat) (hL : LL L w) (ht : RdT (n + 1) L w t)  (hz : SzT 1000000 (n + 1) t) (htab : tabP w) : CV Tryd.prog 10 [.agg #[.int .i64 t.kind, .int .i64 t.num, .string t.text, t.nv, t.iv]] w fun v W => v = .tuple #[.string (prtS t.er).1, .int .i64 (prtS t.er).2] := by
 refine cv_enter (N := 18) (f := [(0, .agg #[.int .i64 t.kind, .int .i64 t.num, .string t.text, t.nv, t.iv])]) Tryd.func10 rfl rfl rfl rfl fun Q hQ hE => ?_
 have hB := Below.refl w.heap.size w
 refine Sq fun K1 hK1 => ?_
 obtain ⟨hnt, hit, hct⟩ := ht
 replace hct : RdTs n (L) w t.items := hct
 refine Rg ?_
 refine Ge (dx_box rfl rfl rfl) rfl rfl ?_
 rintro _ W2 ⟨rfl, k3, b4, z5⟩
 have l6 := hB.size
 replace hnt := hnt.more b4 (Nat.le_refl _)
 replace hit := hit.more b4 (Nat.le_refl _)
 replace hct := hct.more b4 (Nat.le_refl _)
 replace hB := below_then hB b4
 replace hL := LL.more hL z5
 refine Pu rfl (Pu rfl (Ni (hK1 (Sq fun K7 hK7 => (Sq fun K8 hK8 => (Rg (Va (dx_loadN rfl ty_agg_25_5 rfl k3.range rfl) rfl rfl ?_)))))))
 refine Ge (dx_cv rfl Tryd.func21 rfl rfl rfl (jRight_v n t W2 _ hL (show RdT (n + 1) (w.heap.size :: L) W2 t from ⟨hnt, hit, hct⟩) hz)) rfl rfl ?_
 rintro _ W10 ⟨rfl, b9⟩
 replace hnt := hnt.below b9
 replace hit := hit.below b9
 replace hct := hct.below b9
 replace k3 := k3.below b9
 replace hB := below_then hB b9
 replace hL := LL.below hL b9
 refine Va (dx_not rfl rfl) rfl rfl (Ni (hK8 ?_))
 refine WC.cond rfl (fun c11 => ?_) (fun c11 => ?_)
 ·
  replace c11 := bnot_t c11
  refine Sq fun K12 hK12 => (Rg (Pu rfl (Pu rfl (Ni (hK12 ?_)))))
  exact WC.ret fun a_ ha_ => hQ (cv_ret2 rfl (.tmp rfl) (.tmp rfl) (by rw [prt_no (by first | assumption | (simp_all; done))]) hB ha_)
 ·
  replace c11 := bnot_f c11
  refine WC.skip (hK7 (Sq fun K13 hK13 => ?_))
  have hrt : rightJ upB 12 t.er = true := (by first | assumption | (simp_all; done))
  refine Rg (Va (dx_build rfl rfl (bld_p _)) rfl rfl ?_)
  have htB : RdT (n + 1) [] W10 t := RdT.less (show RdT (n + 1) (w.heap.size :: L) W10 t from ⟨hnt, hit, hct⟩) (fun x hx => by cases hx)
  have hpB : PtR [] W10 (.pointer (some ⟨w.heap.size, 0, none⟩)) (encT t) := ⟨Nat.succ_pos _, _, 0, rfl, (fun hx => by cases hx), k3.range⟩
  have htab1 := tabP_below htab hB
  refine Ge (dx_boxE rfl rfl) rfl rfl ?_
  rintro _ W14 ⟨rfl, hW2⟩
  obtain ⟨hst, hB9⟩ : PrS W10.heap.size W10.heap.size [] 8192 W14 ∧ Below W10.heap.size W10 W14 := by rw [hW2]; exact prS_new W10 8192
  have hL := LL.nil W14
  refine Pu rfl (Ni (hK13 (Sq fun K15 hK15 => (Rg (Pu rfl ?_)))))
  refine Ge (dx_cb rfl Tryd.func22 rfl rfl rfl (valP_all 12 n t _ _ [] W10 W14 hB9 hst htab1 hpB htB hz hrt (by decide) (by decide))) rfl rfl ?_
  rintro _ W16 ⟨⟨rfl, b1, hk1, hst⟩, hB9⟩
  have hL := LL.nil W16
  refine Ni (hK15 (Sq fun K17 hK17 => (Sq fun K18 hK18 => (Rg (Pu rfl ?_)))))
  refine Ge (dx_cb rfl Tryd.func23 rfl rfl rfl (full_v _ b1 8192 W10 W16 hB9 hst)) rfl rfl ?_
  rintro _ W19 ⟨⟨rfl, hst⟩, hB9⟩
  have hL := LL.nil W19
  refine Ni (hK18 ?_)
  refine WC.cond rfl (fun c20 => ?_) (fun c20 => ?_)
  ·
   replace c20 := dT c20
   refine Sq fun K21 hK21 => (Rg (Pu rfl (Pu rfl (Ni (hK21 ?_)))))
   exact WC.ret fun a_ ha_ => hQ (cv_ret2 rfl (.tmp rfl) (.tmp rfl) (by rw [prt_long hrt hk1 (by omega)]) (below_then hB hB9) ha_)
  ·
   replace c20 := dF c20
   refine WC.skip (hK17 (Sq fun K22 hK22 => (Rg (Pu rfl (Va (dx_nilCheck rfl rfl) rfl rfl (Va (dx_fld (o1 := 0) rfl ty_fld_46_0_0 rfl rfl) rfl rfl ?_))))))
   refine Ge (dx_cb rfl Tryd.func24 rfl rfl rfl (bstr_v _ b1 8192 W10 W19 hB9 hst (pr_ne hk1 (by omega)))) rfl rfl ?_
   rintro _ W23 ⟨rfl, hB9⟩
   have hL := LL.nil W23
   refine Pu rfl (Pu rfl (Ni (hK22 ?_)))
   exact WC.ret fun a_ ha_ => hQ (cv_ret2 rfl (.tmp rfl) (.tmp rfl) (by rw [prt_ok hrt hk1 (by omega)]) (below_then hB hB9) ha_)


abbrev RefSameAt (n : Nat) : Prop := ∀ (p q : Tr) (w : World) (L : List Nat), LL L w → RdT n L w p → RdT n L w q → CV Tryd.prog 35 [.agg #[.int .i64 p.kind, .int .i64 p.num, .string p.text, p.nv, p.iv], .agg #[.int .i64 q.kind, .int .i64 q.num, .string q.text, q.nv, q.iv]] w fun x W => x = .bool (eqJ p.er q.er)
set_option maxHeartbeats 2000000 in
theorem refSame_step (n : Nat) (ih : RefSameAt n) (p q : Tr) (w : World) (L : List Nat) (hL : LL L w) (htp : RdT (n + 1) L w p) (htq : RdT (n + 1) L w q) : CV Tryd.prog 35 [.agg #[.int .i64 p.kind, .int .i64 p.num, .string p.text, p.nv, p.iv], .agg #[.int .i64 q.kind, .int .i64 q.num, .string q.text, q.nv, q.iv]] w fun v W => v = .bool (eqJ p.er q.er) := by
 refine cv_enter (N := 81) (f := [(0, .agg #[.int .i64 p.kind, .int .i64 p.num, .string p.text, p.nv, p.iv]), (1, .agg #[.int .i64 q.kind, .int .i64 q.num, .string q.text, q.nv, q.iv])]) Tryd.func35 rfl rfl rfl rfl fun Q hQ hE => ?_
 have hB := Below.refl w.heap.size w
 refine Sq fun K1 hK1 => ?_
 obtain ⟨hnp, hip, hcp⟩ := htp
 replace hcp : RdTs n (L) w p.items := hcp
 obtain ⟨hnq, hiq, hcq⟩ := htq
 replace hcq : RdTs n (L) w q.items := hcq
 have hil0 := hip.len
 rw [List.length_map] at hil0
 have hnl0 := hnp.len
 rw [List.length_map] at hnl0
 unfold maxLen at hil0 hnl0
 refine Rg ?_
 refine Ge (dx_box rfl rfl rfl) rfl rfl ?_
 rintro _ W2 ⟨rfl, k3, b4, z5⟩
 have l6 := hB.size
 replace hnp := hnp.more b4 (Nat.le_refl _)
 replace hip := hip.more b4 (Nat.le_refl _)
 replace hcp := hcp.more b4 (Nat.le_refl _)
 replace hnq := hnq.more b4 (Nat.le_refl _)
 replace hiq := hiq.more b4 (Nat.le_refl _)
 replace hcq := hcq.more b4 (Nat.le_refl _)
 replace hB := below_then hB b4
 replace hL := LL.more hL z5
 refine Ge (dx_box rfl rfl rfl) rfl rfl ?_
 rintro _ W7 ⟨rfl, k8, b9, z10⟩
 have l12 := hB.size
 replace hnp := hnp.more b9 (Nat.le_refl _)
 replace hip := hip.more b9 (Nat.le_refl _)
 replace hcp := hcp.more b9 (Nat.le_refl _)
 replace hnq := hnq.more b9 (Nat.le_refl _)
 replace hiq := hiq.more b9 (Nat.le_refl _)
 replace hcq := hcq.more b9 (Nat.le_refl _)
 replace k3 := k3.below b9
 replace hB := below_then hB b9
 replace hL := LL.more hL z10
 refine Pu rfl (Ni (hK1 (Sq fun K13 hK13 => (Sq fun K14 hK14 => (Rg (Va (dx_fld (o1 := 0) rfl ty_fld_25_0_0 rfl rfl) rfl rfl (Va (dx_load rfl ty_one_3 rfl (k3.cell (k := 0) rfl)) rfl rfl ?_)))))))
 refine Va (dx_fld (o1 := 0) rfl ty_fld_25_0_0 rfl rfl) rfl rfl (Va (dx_load rfl ty_one_3 rfl (k8.cell (k := 0) rfl)) rfl rfl (Va (dx_neq rfl rfl rfl) rfl rfl (Pu rfl ?_)))
 refine WL.split 12 rfl (fun g15 => ?_) (fun g15 => ?_)
 ·
  replace g15 := bnot_t g15
  replace g15 := dF g15
  refine Of rfl (Of rfl (Of rfl (Of rfl (Of rfl (Pu rfl (Pu rfl (Of rfl ?_)))))))
  refine Of rfl (Of rfl (Of rfl (Of rfl (Pu rfl (Pu rfl (Of rfl (Of rfl ?_)))))))
  refine Of rfl (Of rfl (Of rfl (Of rfl (Of rfl (Pu rfl (Pu rfl (Of rfl ?_)))))))
  refine Of rfl (Of rfl (Of rfl (Of rfl (Of rfl (Of rfl (Pu rfl (Ni ?_)))))))
  refine hK14 (WC.condT rfl (Sq fun K16 hK16 => (Rg (Pu rfl (Ni (hK16 ?_))))))
  exact WC.ret fun a_ ha_ => hQ (cv_ret1 rfl (.tmp rfl) (by rw [eqJ_f (fun e => by obtain ⟨e1, e2, e3, e4, _⟩ := er_parts e; have e5 := er_len e; have e6 := congrArg List.length e4; first | contradiction | (exact absurd e3 (by assumption)) | omega)]) hB ha_)
 ·
  replace g15 := bnot_f g15
  replace g15 := dT g15
  refine Va (dx_fld (o1 := 1) rfl ty_fld_25_1_1 rfl rfl) rfl rfl (Va (dx_load rfl ty_one_3 rfl (k3.cell (k := 1) rfl)) rfl rfl (Va (dx_fld (o1 := 1) rfl ty_fld_25_1_1 rfl rfl) rfl rfl (Va (dx_load rfl ty_one_3 rfl (k8.cell (k := 1) rfl)) rfl rfl (Va (dx_neq rfl rfl rfl) rfl rfl (Pu rfl (Pu rfl ?_))))))
  refine WL.split 19 rfl (fun g17 => ?_) (fun g17 => ?_)
  ·
   replace g17 := bnot_t g17
   replace g17 := dF g17
   refine Of rfl (Of rfl (Of rfl (Of rfl (Of rfl (Pu rfl (Pu rfl (Of rfl ?_)))))))
   refine Of rfl (Of rfl (Of rfl (Of rfl (Of rfl (Of rfl (Pu rfl (Pu rfl ?_)))))))
   refine Of rfl (Of rfl (Of rfl (Of rfl (Of rfl (Of rfl (Of rfl (Pu rfl ?_)))))))
   refine Ni (hK14 (WC.condT rfl (Sq fun K18 hK18 => (Rg (Pu rfl (Ni (hK18 ?_)))))))
   exact WC.ret fun a_ ha_ => hQ (cv_ret1 rfl (.tmp rfl) (by rw [eqJ_f (fun e => by obtain ⟨e1, e2, e3, e4, _⟩ := er_parts e; have e5 := er_len e; have e6 := congrArg List.length e4; first | contradiction | (exact absurd e3 (by assumption)) | omega)]) hB ha_)
  ·
   replace g17 := bnot_f g17
   replace g17 := dT g17
   refine Va (dx_fld (o1 := 2) rfl ty_fld_25_2_2 rfl rfl) rfl rfl (Va (dx_load rfl ty_one_9 rfl (k3.cell (k := 2) rfl)) rfl rfl (Va (dx_fld (o1 := 2) rfl ty_fld_25_2_2 rfl rfl) rfl rfl (Va (dx_load rfl ty_one_9 rfl (k8.cell (k := 2) rfl)) rfl rfl (Va (dx_neqT rfl rfl rfl) rfl rfl (Pu rfl (Pu rfl ?_))))))
   refine WL.split 26 rfl (fun g19 => ?_) (fun g19 => ?_)
   ·
    replace g19 := bnot_t g19
    replace g19 := dF g19
    refine Of rfl (Of rfl (Of rfl (Of rfl (Of rfl (Of rfl (Of rfl (Pu rfl ?_)))))))
    refine Pu rfl (Of rfl (Of rfl (Of rfl (Of rfl (Of rfl (Of rfl (Of rfl ?_)))))))
    refine Pu rfl (Ni (hK14 (WC.condT rfl (Sq fun K20 hK20 => (Rg (Pu rfl (Ni ?_)))))))
    refine hK20 ?_
    exact WC.ret fun a_ ha_ => hQ (cv_ret1 rfl (.tmp rfl) (by rw [eqJ_f (fun e => by obtain ⟨e1, e2, e3, e4, _⟩ := er_parts e; have e5 := er_len e; have e6 := congrArg List.length e4; first | contradiction | (exact absurd e3 (by assumption)) | omega)]) hB ha_)
   ·
    replace g19 := bnot_f g19
    replace g19 := dT g19
    refine Va (dx_fld (o1 := 3) rfl ty_fld_25_3_3 rfl rfl) rfl rfl (Va (dx_load rfl ty_one_22 rfl (k3.cell (k := 3) rfl)) rfl rfl (Va (dx_lenFM rfl ty_slice_22 rfl hnp) rfl rfl (Va (dx_fld (o1 := 3) rfl ty_fld_25_3_3 rfl rfl) rfl rfl (Va (dx_load rfl ty_one_22 rfl (k8.cell (k := 3) rfl)) rfl rfl (Va (dx_lenFM rfl ty_slice_22 rfl hnq) rfl rfl (Va (dx_neq rfl rfl rfl) rfl rfl (Pu rfl ?_)))))))
    refine Pu rfl ?_
    refine WL.split 35 rfl (fun g21 => ?_) (fun g21 => ?_)
    ·
     replace g21 := bnot_t g21
     replace g21 := dF g21
     refine Of rfl (Of rfl (Of rfl (Of rfl (Of rfl (Of rfl (Of rfl (Pu rfl ?_)))))))
     refine Ni (hK14 (WC.condT rfl (Sq fun K22 hK22 => (Rg (Pu rfl (Ni (hK22 ?_)))))))
     exact WC.ret fun a_ ha_ => hQ (cv_ret1 rfl (.tmp rfl) (by rw [eqJ_f (fun e => by obtain ⟨e1, e2, e3, e4, _⟩ := er_parts e; have e5 := er_len e; have e6 := congrArg List.length e4; first | contradiction | (exact absurd e3 (by assumption)) | omega)]) hB ha_)
    ·
     replace g21 := bnot_f g21
     replace g21 := dT g21
     refine Va (dx_fld (o1 := 4) rfl ty_fld_25_4_4 rfl rfl) rfl rfl (Va (dx_load rfl ty_one_23 rfl (k3.cell (k := 4) rfl)) rfl rfl (Va (dx_lenFM rfl ty_slice_23 rfl hip) rfl rfl (Va (dx_fld (o1 := 4) rfl ty_fld_25_4_4 rfl rfl) rfl rfl (Va (dx_load rfl ty_one_23 rfl (k8.cell (k := 4) rfl)) rfl rfl (Va (dx_lenFM rfl ty_slice_23 rfl hiq) rfl rfl (Va (dx_neq rfl rfl rfl) rfl rfl (Pu rfl ?_)))))))
     refine Ni (hK14 ?_)
     refine WC.cond rfl (fun c23 => ?_) (fun c23 => ?_)
     ·
      replace c23 := bnot_t c23
      replace c23 := dF c23
      refine Sq fun K24 hK24 => (Rg (Pu rfl (Ni (hK24 ?_))))
      exact WC.ret fun a_ ha_ => hQ (cv_ret1 rfl (.tmp rfl) (by rw [eqJ_f (fun e => by obtain ⟨e1, e2, e3, e4, _⟩ := er_parts e; have e5 := er_len e; have e6 := congrArg List.length e4; first | contradiction | (exact absurd e3 (by assumption)) | omega)]) hB ha_)
     ·
      replace c23 := bnot_f c23
      replace c23 := dT c23
      refine WC.skip (hK13 (Sq fun K25 hK25 => (Sq fun K26 hK26 => ?_)))
      have hln : p.items.length = q.items.length := by omega
      have hnn : p.names.length = q.names.length := by omega
      refine Rg (Pu rfl (Ni (hK26 (WC.block ?_))))
      refine WC.loop (fun (i : Nat) => [(2, .pointer (some ⟨w.heap.size, 0, none⟩)), (3, .pointer (some ⟨W2.heap.size, 0, none⟩)), (5, .int .i64 (i : Int))]) (fun (i : Nat) W => i ≤ p.names.length ∧ p.names.take i = q.names.take i ∧ Below w.heap.size w W ∧ LL (W2.heap.size :: w.heap.size :: L) W ∧ RdF 1 (W2.heap.size :: w.heap.size :: L) W p.nv (p.names.map eS) ∧ RdF 5 (W2.heap.size :: w.heap.size :: L) W p.iv (p.items.map encT) ∧ RdTs n (W2.heap.size :: w.heap.size :: L) W p.items ∧ RdF 1 (W2.heap.size :: w.heap.size :: L) W q.nv (q.names.map eS) ∧ RdF 5 (W2.heap.size :: w.heap.size :: L) W q.iv (q.items.map encT) ∧ RdTs n (W2.heap.size :: w.heap.size :: L) W q.items ∧ Blk W w.heap.size [.int .i64 p.kind, .int .i64 p.num, .string p.text, p.nv, p.iv] ∧ Blk W W2.heap.size [.int .i64 q.kind, .int .i64 q.num, .string q.text, q.nv, q.iv]) (fun (i : Nat) => p.names.length - i) 0 (by repeat first | exact trivial | exact And.intro rfl trivial | refine And.intro rfl ?_ | refine And.intro (congrArg (fun z : Int => some (Value.int .i64 z)) (by omega)) ?_) ⟨Nat.zero_le _, rfl, hB, hL, hnp, hip, hcp, hnq, hiq, hcq, k3, k8⟩ ?_
      clear hnp hip hcp hnq hiq hcq k3 k8 hB hL
      rintro K27 i W28 ⟨hi, hv, hB, hL, hnp, hip, hcp, hnq, hiq, hcq, k3, k8⟩ hK27
      refine Sq fun K29 hK29 => (Sq fun K30 hK30 => (Rg (Pu rfl (Va (dx_fld (o1 := 3) rfl ty_fld_25_3_3 rfl rfl) rfl rfl (Va (dx_load rfl ty_one_22 rfl (k3.cell (k := 3) rfl)) rfl rfl (Va (dx_lenFM rfl ty_slice_22 rfl hnp) rfl rfl (Va (dx_lss rfl rfl rfl) rfl rfl ?_)))))))
      refine Ni (hK30 ?_)
      refine WC.cond rfl (fun c31 => ?_) (fun c31 => ?_)
      ·
       replace c31 := dT c31
       refine WC.skip (hK29 (Sq fun K32 hK32 => (WC.block (Sq fun K33 hK33 => ?_))))
       obtain ⟨r34, e35⟩ : ∃ x, p.names[i]? = some x := ⟨_, List.getElem?_eq_getElem (by omega)⟩
       obtain ⟨r36, e37⟩ : ∃ x, q.names[i]? = some x := ⟨_, List.getElem?_eq_getElem (by omega)⟩
       refine WC.drawM 10 [(some 51, .is (.pointer (some ⟨w.heap.size, 3, none⟩))), (some 52, .is (p.nv)), (some 53, .is (.int .i64 (i : Int))), (some 54, .by fun u W => PtR (W2.heap.size :: w.heap.size :: L) W u [.string r34]), (some 55, .is (.string r34)), (some 56, .is (.pointer (some ⟨W2.heap.size, 3, none⟩))), (some 57, .is (q.nv)), (some 58, .is (.int .i64 (i : Int))), (some 59, .by fun u W => PtR (W2.heap.size :: w.heap.size :: L) W u [.string r36]), (some 60, .is (.string r36))] [[], [0], [], [1, 2], [3], [], [5], [], [6, 7], [8]] (by kernel_rfl) (by kernel_rfl) (by kernel_rfl) (by kernel_rfl) (by kernel_rfl) (by kernel_rfl) (by kernel_rfl) ⟨fun _ _ _ hb h => h.below hb, fun _ _ _ hb h => h.below hb, trivial⟩ ?_ ?_
       ·
        refine Dc (fun Wd hd => ?_) ?_
        ·
         exact Dd (dx_fld (o1 := 3) rfl ty_fld_25_3_3 rfl rfl) rfl
        refine Dc (fun Wd hd => ?_) ?_
        ·
         have k3 := k3.below hd
         exact Dd (dx_load rfl ty_one_22 rfl (k3.cell (k := 3) rfl)) rfl
        refine Dc (fun Wd hd => ?_) ?_
        ·
         exact Dd (dx_move rfl rfl) rfl
        refine Dc (fun Wd hd => ?_) ?_
        ·
         have hnp := hnp.below hd
         exact (dx_idxF i rfl ty_slice_22 rfl rfl hnp (by omega) (at_mapX e35)).mono (fun v W' h => ⟨by rw [← h.1]; exact Below.refl _ _, by rw [← h.1]; exact h.2⟩)
        refine Dc (fun Wd hd => ?_) ?_
        ·
         intro u6_3 p6_3
         exact Dd (dx_loadP rfl ty_one_9 rfl p6_3) rfl
        refine Dc (fun Wd hd => ?_) ?_
        ·
         exact Dd (dx_fld (o1 := 3) rfl ty_fld_25_3_3 rfl rfl) rfl
        refine Dc (fun Wd hd => ?_) ?_
        ·
         have k8 := k8.below hd
         exact Dd (dx_load rfl ty_one_22 rfl (k8.cell (k := 3) rfl)) rfl
        refine Dc (fun Wd hd => ?_) ?_
        ·
         exact Dd (dx_move rfl rfl) rfl
        refine Dc (fun Wd hd => ?_) ?_
        ·
         have hnq := hnq.below hd
         exact (dx_idxF i rfl ty_slice_22 rfl rfl hnq (by omega) (at_mapX e37)).mono (fun v W' h => ⟨by rw [← h.1]; exact Below.refl _ _, by rw [← h.1]; exact h.2⟩)
        refine Dc (fun Wd hd => ?_) ?_
        ·
         intro u6_8 p6_8
         exact Dd (dx_loadP rfl ty_one_9 rfl p6_8) rfl
        exact trivial
       ·
        intro W38 b39
        intro u6_3 p6_3
        intro u6_8 p6_8
        replace hnp := hnp.below b39
        replace hip := hip.below b39
        replace hcp := hcp.below b39
        replace hnq := hnq.below b39
        replace hiq := hiq.below b39
        replace hcq := hcq.below b39
        replace k3 := k3.below b39
        replace k8 := k8.below b39
        replace hB := below_then hB b39
        replace hL := LL.below hL b39
        refine Va (dx_neqT rfl rfl rfl) rfl rfl (Ni (hK33 ?_))
        refine WC.cond rfl (fun c40 => ?_) (fun c40 => ?_)
        ·
         replace c40 := bnot_t c40
         replace c40 := dF c40
         refine Sq fun K41 hK41 => (Rg (Pu rfl (Ni (hK41 ?_))))
         exact WC.ret fun a_ ha_ => hQ (cv_ret1 rfl (.tmp rfl) (by rw [eqJ_f (fun e => by obtain ⟨e1, e2, e3, e4, _⟩ := er_parts e; rw [e4, e37] at e35; cases e35; exact absurd rfl (by assumption))]) hB ha_)
        ·
         replace c40 := bnot_f c40
         replace c40 := dT c40
         refine WC.skip (hK32 (Rg (Pu rfl (Va (dx_add (r := (i : Int) + 1) rfl rfl rfl (wrap64_id (by omega))) rfl rfl (Pu rfl (Ni ?_))))))
         exact hK27 (i + 1) ⟨(by omega), (by rw [List.take_add_one, List.take_add_one, hv, e35, e37, show r34 = r36 by first | assumption | exact Classical.not_not.1 (by assumption)]), hB, hL, hnp, hip, hcp, hnq, hiq, hcq, k3, k8⟩ (by omega) (by repeat first | exact trivial | exact And.intro rfl trivial | refine And.intro rfl ?_ | refine And.intro (congrArg (fun z : Int => some (Value.int .i64 z)) (by omega)) ?_)
      ·
       replace c31 := dF c31
       refine WC.exit ?_
       refine hK25 (Sq fun K42 hK42 => (Sq fun K43 hK43 => ?_))
       have hns : p.names = q.names := by rw [List.take_of_length_le (by omega), List.take_of_length_le (by omega)] at hv; exact hv
       refine Rg (Pu rfl (Ni (hK43 (WC.block ?_))))
       refine WC.loop (fun (i : Nat) => [(2, .pointer (some ⟨w.heap.size, 0, none⟩)), (3, .pointer (some ⟨W2.heap.size, 0, none⟩)), (6, .int .i64 (i : Int))]) (fun (i : Nat) W => i ≤ p.items.length ∧ (∀ k x y, k < i → p.items[k]? = some x → q.items[k]? = some y → x.er = y.er) ∧ Below w.heap.size w W ∧ LL (W2.heap.size :: w.heap.size :: L) W ∧ RdF 1 (W2.heap.size :: w.heap.size :: L) W p.nv (p.names.map eS) ∧ RdF 5 (W2.heap.size :: w.heap.size :: L) W p.iv (p.items.map encT) ∧ RdTs n (W2.heap.size :: w.heap.size :: L) W p.items ∧ RdF 1 (W2.heap.size :: w.heap.size :: L) W q.nv (q.names.map eS) ∧ RdF 5 (W2.heap.size :: w.heap.size :: L) W q.iv (q.items.map encT) ∧ RdTs n (W2.heap.size :: w.heap.size :: L) W q.items ∧ Blk W w.heap.size [.int .i64 p.kind, .int .i64 p.num, .string p.text, p.nv, p.iv] ∧ Blk W W2.heap.size [.int .i64 q.kind, .int .i64 q.num, .string q.text, q.nv, q.iv]) (fun (i : Nat) => p.items.length - i) 0 (by repeat first | exact trivial | exact And.intro rfl trivial | refine And.intro rfl ?_ | refine And.intro (congrArg (fun z : Int => some (Value.int .i64 z)) (by omega)) ?_) ⟨Nat.zero_le _, (fun k x y hk => by omega), hB, hL, hnp, hip, hcp, hnq, hiq, hcq, k3, k8⟩ ?_
       clear hnp hip hcp hnq hiq hcq k3 k8 hB hL
       rintro K44 i W45 ⟨hi, hw, hB, hL, hnp, hip, hcp, hnq, hiq, hcq, k3, k8⟩ hK44
       refine Sq fun K46 hK46 => (Sq fun K47 hK47 => (Rg (Pu rfl (Va (dx_fld (o1 := 4) rfl ty_fld_25_4_4 rfl rfl) rfl rfl (Va (dx_load rfl ty_one_23 rfl (k3.cell (k := 4) rfl)) rfl rfl (Va (dx_lenFM rfl ty_slice_23 rfl hip) rfl rfl (Va (dx_lss rfl rfl rfl) rfl rfl ?_)))))))
       refine Ni (hK47 ?_)
       refine WC.cond rfl (fun c48 => ?_) (fun c48 => ?_)
       ·
        replace c48 := dT c48
        refine WC.skip (hK46 (Sq fun K49 hK49 => (WC.block (Sq fun K50 hK50 => ?_))))
        obtain ⟨r51, e52⟩ : ∃ x, p.items[i]? = some x := ⟨_, List.getElem?_eq_getElem (by omega)⟩
        obtain ⟨r53, e54⟩ : ∃ x, q.items[i]? = some x := ⟨_, List.getElem?_eq_getElem (by omega)⟩
        refine WC.drawM 10 [(some 69, .is (.pointer (some ⟨w.heap.size, 4, none⟩))), (some 70, .is (p.iv)), (some 71, .is (.int .i64 (i : Int))), (some 72, .by fun u W => PtR (W2.heap.size :: w.heap.size :: L) W u (encT r51)), (some 73, .is (.agg #[.int .i64 r51.kind, .int .i64 r51.num, .string r51.text, r51.nv, r51.iv])), (some 74, .is (.pointer (some ⟨W2.heap.size, 4, none⟩))), (some 75, .is (q.iv)), (some 76, .is (.int .i64 (i : Int))), (some 77, .by fun u W => PtR (W2.heap.size :: w.heap.size :: L) W u (encT r53)), (some 78, .is (.agg #[.int .i64 r53.kind, .int .i64 r53.num, .string r53.text, r53.nv, r53.iv]))] [[], [0], [], [1, 2], [3], [], [5], [], [6, 7], [8]] (by kernel_rfl) (by kernel_rfl) (by kernel_rfl) (by kernel_rfl) (by kernel_rfl) (by kernel_rfl) (by kernel_rfl) ⟨fun _ _ _ hb h => h.below hb, fun _ _ _ hb h => h.below hb, trivial⟩ ?_ ?_
        ·
         refine Dc (fun Wd hd => ?_) ?_
         ·
          exact Dd (dx_fld (o1 := 4) rfl ty_fld_25_4_4 rfl rfl) rfl
         refine Dc (fun Wd hd => ?_) ?_
         ·
          have k3 := k3.below hd
          exact Dd (dx_load rfl ty_one_23 rfl (k3.cell (k := 4) rfl)) rfl
         refine Dc (fun Wd hd => ?_) ?_
         ·
          exact Dd (dx_move rfl rfl) rfl
         refine Dc (fun Wd hd => ?_) ?_
         ·
          have hip := hip.below hd
          exact (dx_idxF i rfl ty_slice_23 rfl rfl hip (by omega) (at_mapX e52)).mono (fun v W' h => ⟨by rw [← h.1]; exact Below.refl _ _, by rw [← h.1]; exact h.2⟩)
         refine Dc (fun Wd hd => ?_) ?_
         ·
          intro u11_3 p11_3
          exact Dd (dx_loadPN rfl ty_agg_25_5 rfl p11_3 rfl) rfl
         refine Dc (fun Wd hd => ?_) ?_
         ·
          exact Dd (dx_fld (o1 := 4) rfl ty_fld_25_4_4 rfl rfl) rfl
         refine Dc (fun Wd hd => ?_) ?_
         ·
          have k8 := k8.below hd
          exact Dd (dx_load rfl ty_one_23 rfl (k8.cell (k := 4) rfl)) rfl
         refine Dc (fun Wd hd => ?_) ?_
         ·
          exact Dd (dx_move rfl rfl) rfl
         refine Dc (fun Wd hd => ?_) ?_
         ·
          have hiq := hiq.below hd
          exact (dx_idxF i rfl ty_slice_23 rfl rfl hiq (by omega) (at_mapX e54)).mono (fun v W' h => ⟨by rw [← h.1]; exact Below.refl _ _, by rw [← h.1]; exact h.2⟩)
         refine Dc (fun Wd hd => ?_) ?_
         ·
          intro u11_8 p11_8
          exact Dd (dx_loadPN rfl ty_agg_25_5 rfl p11_8 rfl) rfl
         exact trivial
        ·
         intro W55 b56
         intro u11_3 p11_3
         intro u11_8 p11_8
         replace hnp := hnp.below b56
         replace hip := hip.below b56
         replace hcp := hcp.below b56
         replace hnq := hnq.below b56
         replace hiq := hiq.below b56
         replace hcq := hcq.below b56
         replace k3 := k3.below b56
         replace k8 := k8.below b56
         replace hB := below_then hB b56
         replace hL := LL.below hL b56
         refine Ge (dx_cv rfl Tryd.func35 rfl rfl rfl (ih r51 r53 W55 _ hL (hcp r51 (List.mem_of_getElem? e52)) (hcq r53 (List.mem_of_getElem? e54)))) rfl rfl ?_
         rintro _ W58 ⟨rfl, b57⟩
         replace hnp := hnp.below b57
         replace hip := hip.below b57
         replace hcp := hcp.below b57
         replace hnq := hnq.below b57
         replace hiq := hiq.below b57
         replace hcq := hcq.below b57
         replace k3 := k3.below b57
         replace k8 := k8.below b57
         replace hB := below_then hB b57
         replace hL := LL.below hL b57
         refine Va (dx_not rfl rfl) rfl rfl (Ni (hK50 ?_))
         refine WC.cond rfl (fun c59 => ?_) (fun c59 => ?_)
         ·
          replace c59 := bnot_t c59
          refine Sq fun K60 hK60 => (Rg (Pu rfl (Ni (hK60 ?_))))
          exact WC.ret fun a_ ha_ => hQ (cv_ret1 rfl (.tmp rfl) (by rw [eqJ_f (fun e => by have hce := er_item e e52 e54; have := eqJ_t hce; simp_all)]) hB ha_)
         ·
          replace c59 := bnot_f c59
          refine WC.skip (hK49 (Rg (Pu rfl (Va (dx_add (r := (i : Int) + 1) rfl rfl rfl (wrap64_id (by omega))) rfl rfl (Pu rfl (Ni ?_))))))
          have hce : r51.er = r53.er := Classical.byContradiction fun hn_ => by have := eqJ_f hn_; simp_all
          exact hK44 (i + 1) ⟨(by omega), (fun k x y hk hx hy => by rcases Nat.lt_or_ge k i with hl | hl; exact hw k x y hl hx hy; obtain rfl : k = i := (by omega); rw [e52] at hx; rw [e54] at hy; cases hx; cases hy; exact hce), hB, hL, hnp, hip, hcp, hnq, hiq, hcq, k3, k8⟩ (by omega) (by repeat first | exact trivial | exact And.intro rfl trivial | refine And.intro rfl ?_ | refine And.intro (congrArg (fun z : Int => some (Value.int .i64 z)) (by omega)) ?_)
       ·
        replace c48 := dF c48
        refine WC.exit ?_
        refine hK42 (Sq fun K61 hK61 => (Rg (Pu rfl (Ni (hK61 ?_)))))
        exact WC.ret fun a_ ha_ => hQ (cv_ret1 rfl (.tmp rfl) (by rw [eqJ_t (er_eq (by first | assumption | simp_all) (by first | assumption | simp_all) (by first | assumption | simp_all) hns hln (fun k c d hc hd => hw k c d (by have := (List.getElem?_eq_some_iff.1 hc).1; omega) hc hd))]) hB ha_)

theorem refSame_all : ∀ n, RefSameAt n
 | 0 => fun p q _ _ _ h => h.elim
 | n + 1 => fun p q w L hL h1 h2 => refSame_step n (refSame_all n) p q w L hL h1 h2
set_option maxHeartbeats 1000000 in
theorem alike_v (n : Nat) (p q : Tr) (w : World) (L : List Nat) (hL : LL L w) (htp : RdT (n + 1) L w p) (htq : RdT (n + 1) L w q) : CV Tryd.prog 17 [.agg #[.int .i64 p.kind, .int .i64 p.num, .string p.text, p.nv, p.iv], .agg #[.int .i64 q.kind, .int .i64 q.num, .string q.text, q.nv, q.iv]] w fun v W => v = .bool (eqJ p.er q.er) := by
 refine cv_enter (N := 8) (f := [(0, .agg #[.int .i64 p.kind, .int .i64 p.num, .string p.text, p.nv, p.iv]), (1, .agg #[.int .i64 q.kind, .int .i64 q.num, .string q.text, q.nv, q.iv])]) Tryd.func17 rfl rfl rfl rfl fun Q hQ hE => ?_
 have hB := Below.refl w.heap.size w
 refine Sq fun K1 hK1 => ?_
 obtain ⟨hnp, hip, hcp⟩ := htp
 replace hcp : RdTs n (L) w p.items := hcp
 obtain ⟨hnq, hiq, hcq⟩ := htq
 replace hcq : RdTs n (L) w q.items := hcq
 refine Rg ?_
 refine Ge (dx_box rfl rfl rfl) rfl rfl ?_
 rintro _ W2 ⟨rfl, k3, b4, z5⟩
 have l6 := hB.size
 replace hnp := hnp.more b4 (Nat.le_refl _)
 replace hip := hip.more b4 (Nat.le_refl _)
 replace hcp := hcp.more b4 (Nat.le_refl _)
 replace hnq := hnq.more b4 (Nat.le_refl _)
 replace hiq := hiq.more b4 (Nat.le_refl _)
 replace hcq := hcq.more b4 (Nat.le_refl _)
 replace hB := below_then hB b4
 replace hL := LL.more hL z5
 refine Ge (dx_box rfl rfl rfl) rfl rfl ?_
 rintro _ W7 ⟨rfl, k8, b9, z10⟩
 have l12 := hB.size
 replace hnp := hnp.more b9 (Nat.le_refl _)
 replace hip := hip.more b9 (Nat.le_refl _)
 replace hcp := hcp.more b9 (Nat.le_refl _)
 replace hnq := hnq.more b9 (Nat.le_refl _)
 replace hiq := hiq.more b9 (Nat.le_refl _)
 replace hcq := hcq.more b9 (Nat.le_refl _)
 replace k3 := k3.below b9
 replace hB := below_then hB b9
 replace hL := LL.more hL z10
 refine Pu rfl (Ni (hK1 (Sq fun K13 hK13 => (Rg (Va (dx_loadN rfl ty_agg_25_5 rfl k3.range rfl) rfl rfl (Va (dx_loadN rfl ty_agg_25_5 rfl k8.range rfl) rfl rfl ?_))))))
 refine Ge (dx_cv rfl Tryd.func35 rfl rfl rfl (refSame_all (n + 1) p q W7 _ hL (show RdT (n + 1) (W2.heap.size :: w.heap.size :: L) W7 p from ⟨hnp, hip, hcp⟩) (show RdT (n + 1) (W2.heap.size :: w.heap.size :: L) W7 q from ⟨hnq, hiq, hcq⟩))) rfl rfl ?_
 rintro _ W15 ⟨rfl, b14⟩
 replace hB := below_then hB b14
 refine Pu rfl (Ni (hK13 ?_))
 exact WC.ret fun a_ ha_ => hQ (cv_ret1 rfl (.tmp rfl) rfl hB ha_)

abbrev WeighAt (n : Nat) : Prop := ∀ (t : Tr) (most : Nat) (w : World) (L : List Nat), LL L w → RdT n L w t → most ≤ 1000000 → CV Tryd.prog 20 [.agg #[.int .i64 t.kind, .int .i64 t.num, .string t.text, t.nv, t.iv], .int .i64 (most : Int)] w fun v W => ∃ z : Int, v = .int .i64 z ∧ 1 ≤ z ∧ z ≤ 3 * (most : Int) + 3 ∧ (z ≤ (most : Int) → SzT most n t)
set_option maxHeartbeats 2000000 in
theorem weigh_step (n : Nat) (ih : WeighAt n) (t : Tr) (most : Nat) (w : World) (L : List Nat) (hL : LL L w) (ht : RdT (n + 1) L w t)  (hrm : most ≤ 1000000) : CV Tryd.prog 20 [.agg #[.int .i64 t.kind, .int .i64 t.num, .string t.text, t.nv, t.iv], .int .i64 (most : Int)] w fun v W => ∃ z : Int, v = .int .i64 z ∧ 1 ≤ z ∧ z ≤ 3 * (most : Int) + 3 ∧ (z ≤ (most : Int) → SzT most (n + 1) t) := by
 refine cv_enter (N := 61) (f := [(0, .agg #[.int .i64 t.kind, .int .i64 t.num, .string t.text, t.nv, t.iv]), (1, .int .i64 (most : Int))]) Tryd.func20 rfl rfl rfl rfl fun Q hQ hE => ?_
 have hB := Below.refl w.heap.size w
 refine Sq fun K1 hK1 => ?_
 obtain ⟨hnt, hit, hct⟩ := ht
 replace hct : RdTs n (L) w t.items := hct
 have hil0 := hit.len
 rw [List.length_map] at hil0
 have hnl0 := hnt.len
 rw [List.length_map] at hnl0
 unfold maxLen at hil0 hnl0
 refine Rg ?_
 refine Ge (dx_box rfl rfl rfl) rfl rfl ?_
 rintro _ W2 ⟨rfl, k3, b4, z5⟩
 have l6 := hB.size
 replace hnt := hnt.more b4 (Nat.le_refl _)
 replace hit := hit.more b4 (Nat.le_refl _)
 replace hct := hct.more b4 (Nat.le_refl _)
 replace hB := below_then hB b4
 replace hL := LL.more hL z5
 refine Pu rfl (Ni (hK1 (Sq fun K7 hK7 => (Rg (Va (dx_fld (o1 := 2) rfl ty_fld_25_2_2 rfl rfl) rfl rfl (Va (dx_load rfl ty_one_9 rfl (k3.cell (k := 2) rfl)) rfl rfl (Va (dx_lenT rfl Tryd.underlying9 rfl) rfl rfl ?_)))))))
 refine Pu rfl (Va (dx_min rfl rfl rfl) rfl rfl (Va (dx_add (r := 1 + (if (most : Int) < ((t.text).size : Int) then (most : Int) else ((t.text).size : Int))) rfl rfl rfl (wrap64_id (by omega))) rfl rfl (Pu rfl (Ni (hK7 (Sq fun K8 hK8 => (Sq fun K9 hK9 => ?_)))))))
 refine Rg (Pu rfl (Ni (hK9 (WC.block ?_))))
 have hz0 := (show True from trivial)
 refine WC.loop2 (fun (i : Nat) (z : Int) => [(1, .int .i64 (most : Int)), (2, .pointer (some ⟨w.heap.size, 0, none⟩)), (6, .int .i64 (i : Int)), (5, .int .i64 z)]) (fun (i : Nat) (z : Int) W => i ≤ t.names.length ∧ (1 + (i : Int) ≤ z) ∧ z ≤ 3 * (most : Int) + 3 ∧ (z ≤ (most : Int) → t.text.size ≤ most ∧ ∀ k a, k < i → t.names[k]? = some a → a.size ≤ most) ∧ Below w.heap.size w W ∧ LL (w.heap.size :: L) W ∧ RdF 1 (w.heap.size :: L) W t.nv (t.names.map eS) ∧ RdF 5 (w.heap.size :: L) W t.iv (t.items.map encT) ∧ RdTs n (w.heap.size :: L) W t.items ∧ Blk W w.heap.size [.int .i64 t.kind, .int .i64 t.num, .string t.text, t.nv, t.iv]) (fun (i : Nat) (z : Int) => t.names.length - i) 0 (1 + (if (most : Int) < ((t.text).size : Int) then (most : Int) else ((t.text).size : Int))) (by repeat first | exact trivial | exact And.intro rfl trivial | refine And.intro rfl ?_ | refine And.intro (congrArg (fun z : Int => some (Value.int .i64 z)) (by omega)) ?_) ⟨Nat.zero_le _, (by omega), (by omega), (fun hh => ⟨by omega, fun k a hk => by omega⟩), hB, hL, hnt, hit, hct, k3⟩ ?_
 clear hnt hit hct k3 hB hL
 rintro K10 i z W11 ⟨hi, hz1, hz2, hs, hB, hL, hnt, hit, hct, k3⟩ hK10
 refine Sq fun K12 hK12 => (Sq fun K13 hK13 => (Rg (Pu rfl (Va (dx_fld (o1 := 3) rfl ty_fld_25_3_3 rfl rfl) rfl rfl (Va (dx_load rfl ty_one_22 rfl (k3.cell (k := 3) rfl)) rfl rfl (Va (dx_lenFM rfl ty_slice_22 rfl hnt) rfl rfl (Va (dx_lss rfl rfl rfl) rfl rfl ?_)))))))
 refine Pu rfl ?_
 refine WL.split 19 rfl (fun g14 => ?_) (fun g14 => ?_)
 ·
  replace g14 := dT g14
  refine Pu rfl (Pu rfl (Va (dx_leq rfl rfl rfl) rfl rfl (Pu rfl (Ni (hK13 ?_)))))
  refine WC.cond rfl (fun c15 => ?_) (fun c15 => ?_)
  ·
   replace c15 := dT c15
   refine WC.skip (hK12 (Sq fun K16 hK16 => (WC.block (Rg (Pu rfl (Va (dx_add (r := z + 1) rfl rfl rfl (wrap64_id (by omega))) rfl rfl (Va (dx_fld (o1 := 3) rfl ty_fld_25_3_3 rfl rfl) rfl rfl ?_)))))))
   refine Va (dx_load rfl ty_one_22 rfl (k3.cell (k := 3) rfl)) rfl rfl (Pu rfl ?_)
   obtain ⟨r17, e18⟩ : ∃ x, t.names[i]? = some x := ⟨_, List.getElem?_eq_getElem (by omega)⟩
   refine Ge (dx_idxF i rfl ty_slice_22 rfl rfl hnt (by omega) (at_mapX e18)) rfl rfl ?_
   rintro u19 _ ⟨rfl, p20⟩
   refine Va (dx_loadP rfl ty_one_9 rfl p20) rfl rfl (Va (dx_lenT rfl Tryd.underlying9 rfl) rfl rfl (Pu rfl (Va (dx_min rfl rfl rfl) rfl rfl (Va (dx_add (r := (z + 1) + (if (most : Int) < (r17.size : Int) then (most : Int) else (r17.size : Int))) rfl rfl rfl (wrap64_id (by omega))) rfl rfl (Pu rfl (Ni (hK16 ?_)))))))
   refine Rg (Pu rfl (Va (dx_add (r := (i : Int) + 1) rfl rfl rfl (wrap64_id (by omega))) rfl rfl (Pu rfl (Ni ?_))))
   exact hK10 (i + 1) ((z + 1) + (if (most : Int) < (r17.size : Int) then (most : Int) else (r17.size : Int))) ⟨(by omega), (by omega), (by omega), (fun hh => ⟨by have := (hs (by omega)).1; omega, fun k a hk ha => by rcases Nat.lt_or_ge k i with hl | hl; exact (hs (by omega)).2 k a hl ha; obtain rfl : k = i := (by omega); rw [e18] at ha; cases ha; omega⟩), hB, hL, hnt, hit, hct, k3⟩ (by omega) (by repeat first | exact trivial | exact And.intro rfl trivial | refine And.intro rfl ?_ | refine And.intro (congrArg (fun z : Int => some (Value.int .i64 z)) (by omega)) ?_)
  ·
   replace c15 := dF c15
   refine WC.exit ?_
   refine hK8 (Sq fun K21 hK21 => (Sq fun K22 hK22 => (Rg (Pu rfl (Ni (hK22 (WC.block ?_)))))))
   have hnames : z ≤ (most : Int) → t.text.size ≤ most ∧ t.names.length ≤ most ∧ ∀ a ∈ t.names, a.size ≤ most := fun hh => by have hie : i = t.names.length := (by omega); refine ⟨(hs hh).1, by omega, fun a ha => ?_⟩; obtain ⟨k, hk⟩ := List.getElem?_of_mem ha; exact (hs hh).2 k a (by have := (List.getElem?_eq_some_iff.1 hk).1; omega) hk
   refine WC.loop2 (fun (j : Nat) (y : Int) => [(1, .int .i64 (most : Int)), (2, .pointer (some ⟨w.heap.size, 0, none⟩)), (7, .int .i64 (j : Int)), (5, .int .i64 y)]) (fun (j : Nat) (y : Int) W => j ≤ t.items.length ∧ (1 + (j : Int) ≤ y) ∧ y ≤ 3 * (most : Int) + 3 ∧ (y ≤ (most : Int) → (t.text.size ≤ most ∧ t.names.length ≤ most ∧ ∀ a ∈ t.names, a.size ≤ most) ∧ ∀ k c, k < j → t.items[k]? = some c → SzT most n c) ∧ Below w.heap.size w W ∧ LL (w.heap.size :: L) W ∧ RdF 1 (w.heap.size :: L) W t.nv (t.names.map eS) ∧ RdF 5 (w.heap.size :: L) W t.iv (t.items.map encT) ∧ RdTs n (w.heap.size :: L) W t.items ∧ Blk W w.heap.size [.int .i64 t.kind, .int .i64 t.num, .string t.text, t.nv, t.iv]) (fun (j : Nat) (y : Int) => t.items.length - j) 0 z (by repeat first | exact trivial | exact And.intro rfl trivial | refine And.intro rfl ?_ | refine And.intro (congrArg (fun z : Int => some (Value.int .i64 z)) (by omega)) ?_) ⟨Nat.zero_le _, (by omega), (by omega), (fun hh => ⟨hnames hh, fun k c hk => by omega⟩), hB, hL, hnt, hit, hct, k3⟩ ?_
   clear hnt hit hct k3 hB hL
   rintro K23 j y W24 ⟨hj, hy1, hy2, ht2, hB, hL, hnt, hit, hct, k3⟩ hK23
   refine Sq fun K25 hK25 => (Sq fun K26 hK26 => (Rg (Pu rfl (Va (dx_fld (o1 := 4) rfl ty_fld_25_4_4 rfl rfl) rfl rfl (Va (dx_load rfl ty_one_23 rfl (k3.cell (k := 4) rfl)) rfl rfl (Va (dx_lenFM rfl ty_slice_23 rfl hit) rfl rfl (Va (dx_lss rfl rfl rfl) rfl rfl ?_)))))))
   refine Pu rfl ?_
   refine WL.split 42 rfl (fun g27 => ?_) (fun g27 => ?_)
   ·
    replace g27 := dT g27
    refine Pu rfl (Pu rfl (Va (dx_leq rfl rfl rfl) rfl rfl (Pu rfl (Ni (hK26 ?_)))))
    refine WC.cond rfl (fun c28 => ?_) (fun c28 => ?_)
    ·
     replace c28 := dT c28
     refine WC.skip (hK25 (Sq fun K29 hK29 => (WC.block ?_)))
     obtain ⟨mm, hmm⟩ : ∃ k : Nat, (k : Int) = (most : Int) - y := ⟨((most : Int) - y).toNat, by omega⟩
     refine Rg (Pu rfl (Va (dx_fld (o1 := 4) rfl ty_fld_25_4_4 rfl rfl) rfl rfl (Va (dx_load rfl ty_one_23 rfl (k3.cell (k := 4) rfl)) rfl rfl (Pu rfl ?_))))
     obtain ⟨r30, e31⟩ : ∃ x, t.items[j]? = some x := ⟨_, List.getElem?_eq_getElem (by omega)⟩
     refine Ge (dx_idxF j rfl ty_slice_23 rfl rfl hit (by omega) (at_mapX e31)) rfl rfl ?_
     rintro u32 _ ⟨rfl, p33⟩
     refine Va (dx_loadPN rfl ty_agg_25_5 rfl p33 rfl) rfl rfl (Pu rfl (Pu rfl (Va (dx_sub (r := (mm : Int)) rfl rfl rfl (by rw [wrap64_id (by omega)]; omega)) rfl rfl ?_)))
     refine Ge (dx_cv rfl Tryd.func20 rfl rfl rfl (ih r30 mm W24 _ hL (hct r30 (List.mem_of_getElem? e31)) (by omega))) rfl rfl ?_
     rintro _ W35 ⟨⟨wz, rfl, hw1, hw2, hws⟩, b34⟩
     replace hnt := hnt.below b34
     replace hit := hit.below b34
     replace hct := hct.below b34
     replace k3 := k3.below b34
     replace hB := below_then hB b34
     replace hL := LL.below hL b34
     refine Va (dx_add (r := y + wz) rfl rfl rfl (wrap64_id (by omega))) rfl rfl (Pu rfl (Ni (hK29 (Rg (Pu rfl (Va (dx_add (r := (j : Int) + 1) rfl rfl rfl (wrap64_id (by omega))) rfl rfl (Pu rfl ?_)))))))
     refine Ni ?_
     exact hK23 (j + 1) (y + wz) ⟨(by omega), (by omega), (by omega), (fun hh => by obtain ⟨q1, q2⟩ := ht2 (by omega); exact ⟨q1, fun k a hk ha => by rcases Nat.lt_or_ge k j with hl | hl; exact q2 k a hl ha; obtain rfl : k = j := (by omega); rw [e31] at ha; cases ha; exact (hws (by omega)).le (by omega)⟩), hB, hL, hnt, hit, hct, k3⟩ (by omega) (by repeat first | exact trivial | exact And.intro rfl trivial | refine And.intro rfl ?_ | refine And.intro (congrArg (fun z : Int => some (Value.int .i64 z)) (by omega)) ?_)
    ·
     replace c28 := dF c28
     refine WC.exit ?_
     refine hK21 (Sq fun K36 hK36 => (Rg (Pu rfl (Pu rfl (Ni (hK36 ?_))))))
     exact WC.ret fun a_ ha_ => hQ (cv_ret1 rfl (.tmp rfl) ⟨_, rfl, by omega, by omega, fun hh => by obtain ⟨⟨q1, q2, q3⟩, q4⟩ := ht2 hh; have hje : j = t.items.length := (by omega); exact ⟨q1, q2, by omega, q3, fun c hc => by obtain ⟨k, hk⟩ := List.getElem?_of_mem hc; exact q4 k c (by have := (List.getElem?_eq_some_iff.1 hk).1; omega) hk⟩⟩ hB ha_)
   ·
    replace g27 := dF g27
    refine Of rfl (Of rfl (Of rfl (Pu rfl (Ni (hK26 (WC.condF rfl ?_))))))
    refine WC.exit ?_
    refine hK21 (Sq fun K37 hK37 => (Rg (Pu rfl (Pu rfl (Ni (hK37 ?_))))))
    exact WC.ret fun a_ ha_ => hQ (cv_ret1 rfl (.tmp rfl) ⟨_, rfl, by omega, by omega, fun hh => by obtain ⟨⟨q1, q2, q3⟩, q4⟩ := ht2 hh; have hje : j = t.items.length := (by omega); exact ⟨q1, q2, by omega, q3, fun c hc => by obtain ⟨k, hk⟩ := List.getElem?_of_mem hc; exact q4 k c (by have := (List.getElem?_eq_some_iff.1 hk).1; omega) hk⟩⟩ hB ha_)
 ·
  replace g14 := dF g14
  refine Of rfl (Of rfl (Of rfl (Pu rfl (Ni (hK13 (WC.condF rfl ?_))))))
  refine WC.exit ?_
  refine hK8 (Sq fun K38 hK38 => (Sq fun K39 hK39 => (Rg (Pu rfl (Ni (hK39 (WC.block ?_)))))))
  have hnames : z ≤ (most : Int) → t.text.size ≤ most ∧ t.names.length ≤ most ∧ ∀ a ∈ t.names, a.size ≤ most := fun hh => by have hie : i = t.names.length := (by omega); refine ⟨(hs hh).1, by omega, fun a ha => ?_⟩; obtain ⟨k, hk⟩ := List.getElem?_of_mem ha; exact (hs hh).2 k a (by have := (List.getElem?_eq_some_iff.1 hk).1; omega) hk
  refine WC.loop2 (fun (j : Nat) (y : Int) => [(1, .int .i64 (most : Int)), (2, .pointer (some ⟨w.heap.size, 0, none⟩)), (7, .int .i64 (j : Int)), (5, .int .i64 y)]) (fun (j : Nat) (y : Int) W => j ≤ t.items.length ∧ (1 + (j : Int) ≤ y) ∧ y ≤ 3 * (most : Int) + 3 ∧ (y ≤ (most : Int) → (t.text.size ≤ most ∧ t.names.length ≤ most ∧ ∀ a ∈ t.names, a.size ≤ most) ∧ ∀ k c, k < j → t.items[k]? = some c → SzT most n c) ∧ Below w.heap.size w W ∧ LL (w.heap.size :: L) W ∧ RdF 1 (w.heap.size :: L) W t.nv (t.names.map eS) ∧ RdF 5 (w.heap.size :: L) W t.iv (t.items.map encT) ∧ RdTs n (w.heap.size :: L) W t.items ∧ Blk W w.heap.size [.int .i64 t.kind, .int .i64 t.num, .string t.text, t.nv, t.iv]) (fun (j : Nat) (y : Int) => t.items.length - j) 0 z (by repeat first | exact trivial | exact And.intro rfl trivial | refine And.intro rfl ?_ | refine And.intro (congrArg (fun z : Int => some (Value.int .i64 z)) (by omega)) ?_) ⟨Nat.zero_le _, (by omega), (by omega), (fun hh => ⟨hnames hh, fun k c hk => by omega⟩), hB, hL, hnt, hit, hct, k3⟩ ?_
  clear hnt hit hct k3 hB hL
  rintro K40 j y W41 ⟨hj, hy1, hy2, ht2, hB, hL, hnt, hit, hct, k3⟩ hK40
  refine Sq fun K42 hK42 => (Sq fun K43 hK43 => (Rg (Pu rfl (Va (dx_fld (o1 := 4) rfl ty_fld_25_4_4 rfl rfl) rfl rfl (Va (dx_load rfl ty_one_23 rfl (k3.cell (k := 4) rfl)) rfl rfl (Va (dx_lenFM rfl ty_slice_23 rfl hit) rfl rfl (Va (dx_lss rfl rfl rfl) rfl rfl ?_)))))))
  refine Pu rfl ?_
  refine WL.split 42 rfl (fun g44 => ?_) (fun g44 => ?_)
  ·
   replace g44 := dT g44
   refine Pu rfl (Pu rfl (Va (dx_leq rfl rfl rfl) rfl rfl (Pu rfl (Ni (hK43 ?_)))))
   refine WC.cond rfl (fun c45 => ?_) (fun c45 => ?_)
   ·
    replace c45 := dT c45
    refine WC.skip (hK42 (Sq fun K46 hK46 => (WC.block ?_)))
    obtain ⟨mm, hmm⟩ : ∃ k : Nat, (k : Int) = (most : Int) - y := ⟨((most : Int) - y).toNat, by omega⟩
    refine Rg (Pu rfl (Va (dx_fld (o1 := 4) rfl ty_fld_25_4_4 rfl rfl) rfl rfl (Va (dx_load rfl ty_one_23 rfl (k3.cell (k := 4) rfl)) rfl rfl (Pu rfl ?_))))
    obtain ⟨r47, e48⟩ : ∃ x, t.items[j]? = some x := ⟨_, List.getElem?_eq_getElem (by omega)⟩
    refine Ge (dx_idxF j rfl ty_slice_23 rfl rfl hit (by omega) (at_mapX e48)) rfl rfl ?_
    rintro u49 _ ⟨rfl, p50⟩
    refine Va (dx_loadPN rfl ty_agg_25_5 rfl p50 rfl) rfl rfl (Pu rfl (Pu rfl (Va (dx_sub (r := (mm : Int)) rfl rfl rfl (by rw [wrap64_id (by omega)]; omega)) rfl rfl ?_)))
    refine Ge (dx_cv rfl Tryd.func20 rfl rfl rfl (ih r47 mm W41 _ hL (hct r47 (List.mem_of_getElem? e48)) (by omega))) rfl rfl ?_
    rintro _ W52 ⟨⟨wz, rfl, hw1, hw2, hws⟩, b51⟩
    replace hnt := hnt.below b51
    replace hit := hit.below b51
    replace hct := hct.below b51
    replace k3 := k3.below b51
    replace hB := below_then hB b51
    replace hL := LL.below hL b51
    refine Va (dx_add (r := y + wz) rfl rfl rfl (wrap64_id (by omega))) rfl rfl (Pu rfl (Ni (hK46 (Rg (Pu rfl (Va (dx_add (r := (j : Int) + 1) rfl rfl rfl (wrap64_id (by omega))) rfl rfl (Pu rfl ?_)))))))
    refine Ni ?_
    exact hK40 (j + 1) (y + wz) ⟨(by omega), (by omega), (by omega), (fun hh => by obtain ⟨q1, q2⟩ := ht2 (by omega); exact ⟨q1, fun k a hk ha => by rcases Nat.lt_or_ge k j with hl | hl; exact q2 k a hl ha; obtain rfl : k = j := (by omega); rw [e48] at ha; cases ha; exact (hws (by omega)).le (by omega)⟩), hB, hL, hnt, hit, hct, k3⟩ (by omega) (by repeat first | exact trivial | exact And.intro rfl trivial | refine And.intro rfl ?_ | refine And.intro (congrArg (fun z : Int => some (Value.int .i64 z)) (by omega)) ?_)
   ·
    replace c45 := dF c45
    refine WC.exit ?_
    refine hK38 (Sq fun K53 hK53 => (Rg (Pu rfl (Pu rfl (Ni (hK53 ?_))))))
    exact WC.ret fun a_ ha_ => hQ (cv_ret1 rfl (.tmp rfl) ⟨_, rfl, by omega, by omega, fun hh => by obtain ⟨⟨q1, q2, q3⟩, q4⟩ := ht2 hh; have hje : j = t.items.length := (by omega); exact ⟨q1, q2, by omega, q3, fun c hc => by obtain ⟨k, hk⟩ := List.getElem?_of_mem hc; exact q4 k c (by have := (List.getElem?_eq_some_iff.1 hk).1; omega) hk⟩⟩ hB ha_)
  ·
   replace g44 := dF g44
   refine Of rfl (Of rfl (Of rfl (Pu rfl (Ni (hK43 (WC.condF rfl ?_))))))
   refine WC.exit ?_
   refine hK38 (Sq fun K54 hK54 => (Rg (Pu rfl (Pu rfl (Ni (hK54 ?_))))))
   exact WC.ret fun a_ ha_ => hQ (cv_ret1 rfl (.tmp rfl) ⟨_, rfl, by omega, by omega, fun hh => by obtain ⟨⟨q1, q2, q3⟩, q4⟩ := ht2 hh; have hje : j = t.items.length := (by omega); exact ⟨q1, q2, by omega, q3, fun c hc => by obtain ⟨k, hk⟩ := List.getElem?_of_mem hc; exact q4 k c (by have := (List.getElem?_eq_some_iff.1 hk).1; omega) hk⟩⟩ hB ha_)

theorem weigh_all : ∀ n, WeighAt n
 | 0 => fun t _ _ _ _ h => h.elim
 | n + 1 => fun t most w L hL ht hr => weigh_step n (weigh_all n) t most w L hL ht hr
section
variable {P : Program} {ops : Array Oper} {o : Oper} {N : Nat} {f : Fl} {w : World}
end
theorem esc_hi {c : Int} (h : 128 ≤ c) : escJ c = [c] := by unfold escJ; rw [if_neg (by omega), if_neg (by omega), if_neg (by omega), if_neg (by omega), if_neg (by omega), if_neg (by omega), if_neg (by omega)]
theorem ok_low : ∀ l : List Int, (∀ x ∈ l, 0 ≤ x ∧ x < 128) → OKL l
 | [], _ => ok_nil
 | c :: l, h => by
  have h1 := ok_one (h c (.head _)).1 (h c (.head _)).2
  have := h1.app (ok_low l fun x hx => h x (.tail _ hx))
  simpa using this
theorem esc_low {c : Int} (h0 : 0 ≤ c) (h : c < 128) : ∀ x ∈ escJ c, 0 ≤ x ∧ x < 128 := by
 unfold escJ
 repeat' split
 all_goals (intro x hx; simp only [List.mem_cons, List.not_mem_nil, or_false] at hx)
 · omega
 · omega
 · omega
 · omega
 · omega
 · omega
 · unfold hexL at hx; rcases hx with h1 | h1 | h1 | h1 | h1 | h1 <;> (try split at h1) <;> omega
 · omega
theorem flat_id {l : List Int} (h : ∀ c ∈ l, escJ c = [c]) : l.flatMap escJ = l := flat_plain h
theorem ok_esc : ∀ (rs l : List Int), encS rs = some l → OKL (l.flatMap escJ)
  | [], l, h => by cases h; exact ok_nil
  | r :: t, l, h => by
    obtain ⟨hr, ts, ht, rfl⟩ := enc_split h
    rw [List.flatMap_append]
    refine OKL.app ?_ (ok_esc t ts ht)
    have hrange := isRune_range hr
    by_cases hc : r < 128
    · rw [encI1 hc, List.flatMap_cons, List.flatMap_nil, List.append_nil]
      exact ok_low _ (esc_low hrange.1 hc)
    · rw [flat_id fun c hx => esc_hi (enc_hi (by omega) c hx)]
      exact ok_rune hr
theorem ok_quo {s : ByteArray} (h : upB s = true) : OKL (quoJ s) := by
 obtain ⟨rs, hrs⟩ := ok_of_up h
 have := (ok_one (c := 34) (by decide) (by decide)).app ((ok_esc rs _ hrs).app (ok_one (c := 34) (by decide) (by decide)))
 exact this
theorem ok_num (n : Int) : OKL (numJ n) := by
  have d : ∀ u, ∀ x ∈ decL u, 0 ≤ x ∧ x < 128 := fun u x hx => by have := isDig_le ((decL_spec u).1 x hx); omega
  unfold numJ
  split
  · exact ok_low _ fun x hx => by
      rcases List.mem_cons.1 hx with rfl | hx
      · decide
      · exact d _ x hx
  · exact ok_low _ (d _)
theorem ok_comma {ps : List (List Int)} (h : ∀ p ∈ ps, OKL p) : OKL (commaJ ps) := by
 cases ps with
 | nil => exact ok_nil
 | cons x l =>
  refine OKL.app (h x (.head _)) ?_
  have : ∀ l : List (List Int), (∀ p ∈ l, OKL p) → OKL (l.flatMap fun y => 44 :: y) := fun l => by
   induction l with
   | nil => exact fun _ => ok_nil
   | cons y l ih =>
    intro hl
    rw [List.flatMap_cons]
    exact ((ok_one (c := 44) (by decide) (by decide)).app (hl y (.head _))).app (ih fun p hp => hl p (.tail _ hp))
  exact this l fun p hp => h p (.tail _ hp)
theorem ok_leaf {j : Js} (h : leafJ upB j = true) : OKL (leafP j) := by
 obtain ⟨_, _, ⟨e, _⟩ | ⟨e, _, hu⟩ | ⟨e | e | e, _⟩⟩ := leaf_cases h
 · rw [leafP_3 e]; exact ok_num _
 · rw [leafP_4 e]; exact ok_quo hu
 · rw [leafP_0 e]; exact ok_low _ (by decide)
 · rw [leafP_1 e]; exact ok_low _ (by decide)
 · rw [leafP_2 e]; exact ok_low _ (by decide)
theorem node_up {j : Js} (h : nodeJ upB j = true) (hk : j.kind = 6) : ∀ a ∈ j.names, upB a = true := by
 unfold nodeJ at h
 simp only [Bool.and_eq_true, Bool.or_eq_true, decide_eq_true_eq, List.all_eq_true] at h
 rcases h.2 with h | h
 · omega
 · exact h.2.2.2
theorem ok_pr : ∀ (n : Nat) (j : Js), rightJ upB n j = true → OKL (prJ n j)
  | 0, j, h => by rw [rightJ] at h; exact ok_leaf h
  | n + 1, j, h => by
    rw [rightJ, Bool.or_eq_true] at h
    rcases h with h | h
    · rw [leaf_pr h]; exact ok_leaf h
    · rw [Bool.and_eq_true, List.all_eq_true] at h
      have c : ∀ x : Int, 0 ≤ x → x < 128 → OKL [x] := fun x h0 h1 => ok_one h0 h1
      rcases node_kind h.1 with hk | hk
      · rw [prJ_5 hk]
        exact (c 91 (by decide) (by decide)).app ((ok_comma fun p hp => by obtain ⟨x, hx, rfl⟩ := List.mem_map.1 hp; exact ok_pr n x (h.2 x hx)).app (c 93 (by decide) (by decide)))
      · rw [prJ_6 hk]
        refine (c 123 (by decide) (by decide)).app ((ok_comma fun p hp => ?_).app (c 125 (by decide) (by decide)))
        obtain ⟨x, hx, rfl⟩ := List.mem_map.1 hp
        have hm := List.of_mem_zip hx
        exact (ok_quo (node_up h.1 hk x.1 hm.1)).app ((c 58 (by decide) (by decide)).app (ok_pr n x.2 (h.2 x.2 hm.2)))
theorem textJ_ok {j : Js} (h : rightJ upB 12 j = true) : OKL (textJ j) := ok_pr 12 j h
theorem print_parse {j : Js} (h : (prtS j).2 = 0) : rightJ upB 12 j = true ∧ (prtS j).1 = strOfNums (textJ j) ∧ parJ (prtS j).1 = .ok j := by
  unfold prtS at h ⊢
  by_cases hr : rightJ upB 12 j = true
  · rw [if_pos hr] at h ⊢
    by_cases hl : 8192 < (textJ j).length
    · rw [if_pos hl] at h; cases h
    · rw [if_neg hl]
      have ho := textJ_ok hr
      have hs : sb (strOfNums (textJ j)) = textJ j := sb_strOf ho.bytes
      exact ⟨hr, rfl, par_pr hr hs (by rw [← sb_length, hs]; omega) (up_of_ok ho)⟩
  · rw [if_neg hr] at h; cases h
theorem prt_err {j : Js} (h : ¬ (prtS j).2 = 0) : (prtS j).1 = ⟨#[]⟩ ∧ (rightJ upB 12 j = true → (prtS j).2 = 3) := by
  unfold prtS at h ⊢
  by_cases hr : rightJ upB 12 j = true
  · rw [if_pos hr] at h ⊢
    by_cases hl : 8192 < (textJ j).length
    · rw [if_pos hl]; exact ⟨rfl, fun _ => rfl⟩
    · rw [if_neg hl] at h; exact absurd rfl h
  · rw [if_neg hr]; exact ⟨rfl, fun q => absurd q hr⟩
def canS (s : ByteArray) : Bool := match parJ s with
 | .ok j => decide ((prtS j).2 = 0) && decide ((prtS j).1 = s)
 | .error _ => false
theorem can_e {s : ByteArray} {e : Int} (h : parJ s = .error e) : canS s = false := by unfold canS; rw [h]
theorem can_k {s : ByteArray} {j : Js} (h : parJ s = .ok j) : canS s = (decide ((prtS j).2 = 0) && decide ((prtS j).1 = s)) := by unfold canS; rw [h]
theorem can_p {j : Js} (h : (prtS j).2 = 0) : canS (prtS j).1 = true := by
 obtain ⟨_, _, h3⟩ := print_parse h
 rw [can_k h3, decide_eq_true h, decide_eq_true rfl]; rfl
def MkQ (x : Except Int Js) (t : Tr) (e : Int) : Prop := (e = 0 ∧ x = .ok t.er) ∨ (e ≠ 0 ∧ x = .error e ∧ t = leafT 0 0 ⟨#[]⟩)
theorem jPar_u (s : ByteArray) (w : World) (L : List Nat) (hL : LL L w) : CV Tryd.prog 16 [.string s] w fun v W => ∃ (t : Tr) (e : Int), v = .tuple #[.agg #[.int .i64 t.kind, .int .i64 t.num, .string t.text, t.nv, t.iv], .int .i64 e] ∧ MkQ (parJ s) t e ∧ RdT 13 L W t :=
 (jParse_v s w L hL).mono fun v W _ k => by
  rcases k with ⟨t, e1, e2, e3⟩ | ⟨e, e1, e0, e2⟩
  · exact ⟨t, 0, e1, .inl ⟨rfl, e2⟩, e3⟩
  · exact ⟨leafT 0 0 ⟨#[]⟩, e, e1, .inr ⟨e0, e2, rfl⟩, leaf_rd _ _ _ _ _ _⟩
theorem mkQ_0 {x : Except Int Js} {t : Tr} {e : Int} (h : MkQ x t e) (h0 : e = 0) : x = .ok t.er := by
 rcases h with ⟨_, h⟩ | ⟨h1, _⟩
 · exact h
 · exact absurd h0 h1
theorem mkQ_1 {x : Except Int Js} {t : Tr} {e : Int} (h : MkQ x t e) (h0 : ¬ e = 0) : x = .error e := by
 rcases h with ⟨h1, _⟩ | ⟨_, h, _⟩
 · exact absurd h1 h0
 · exact h
theorem sz_par {s : ByteArray} {t : Tr} (h : parJ s = .ok t.er) : SzT 1000000 13 t := szT_J.2 (par_ok h).2
theorem alikeE_v (n : Nat) (a b : Tr) (w : World) (L : List Nat) (hL : LL L w) (h1 : RdT (n + 1) L w a) (h2 : RdT (n + 1) L w b) (h : a.er = b.er) : CV Tryd.prog 17 [.agg #[.int .i64 a.kind, .int .i64 a.num, .string a.text, a.nv, a.iv], .agg #[.int .i64 b.kind, .int .i64 b.num, .string b.text, b.nv, b.iv]] w fun v W => v = .bool true := by
 have e := alike_v n a b w L hL h1 h2
 rw [eqJ_t h] at e
 exact e
set_option maxHeartbeats 1000000 in
theorem canon_v (s : ByteArray) (w : World) (L : List Nat) (hL : LL L w)   (htab : tabP w) : CV Tryd.prog 18 [.string s] w fun v W => v = .bool (canS s) := by
 refine cv_enter (N := 25) (f := [(0, .string s)]) Tryd.func18 rfl rfl rfl rfl fun Q hQ hE => ?_
 have hB := Below.refl w.heap.size w
 refine Sq fun K1 hK1 => (Rg (Pu rfl (Ni (hK1 (Sq fun K2 hK2 => (Rg (Pu rfl ?_)))))))
 refine Ge (dx_cv rfl Tryd.func16 rfl rfl rfl (jPar_u s w _ hL)) rfl rfl ?_
 rintro _ W4 ⟨⟨t, e, rfl, hte, ht⟩, b3⟩
 replace hB := below_then hB b3
 replace hL := LL.below hL b3
 refine Pu rfl (Pu rfl (Pu rfl ?_))
 refine Ge (dx_alloc rfl ty_zero_25 rfl) rfl rfl ?_
 rintro _ W5 ⟨rfl, k6, b7, z8⟩
 have l9 := hB.size
 replace ht := ht.more b7 (Nat.le_refl _)
 replace hB := below_then hB b7
 replace hL := LL.more hL z8
 refine WL.do (dx_store (cs' := [.int .i64 t.kind, .int .i64 t.num, .string t.text, t.nv, t.iv]) (vs := [.int .i64 t.kind, .int .i64 t.num, .string t.text, t.nv, t.iv]) rfl ty_size_25_5 rfl rfl rfl (oc_cons rfl (oc_cons rfl (oc_cons rfl (oc_cons (ht.1).one (oc_cons (ht.2.1).one oc_nil))))) k6 rfl (Nat.le_of_ble_eq_true rfl) rfl) rfl ?_
 rintro _ W10 ⟨k12, o11⟩
 clear k6
 replace ht := ht.only o11 (.head _)
 replace hB := o11.below hB l9
 replace hL := LL.only hL o11
 refine Pu rfl (Ni (hK2 (Sq fun K13 hK13 => (Sq fun K14 hK14 => (Rg (Pu rfl (Va (dx_neq rfl rfl rfl) rfl rfl ?_)))))))
 refine Ni (hK14 ?_)
 refine WC.cond rfl (fun c15 => ?_) (fun c15 => ?_)
 ·
  replace c15 := bnot_t c15
  replace c15 := dF c15
  refine Sq fun K16 hK16 => ?_
  have hpe := mkQ_1 hte (by first | assumption | omega)
  refine Rg (Pu rfl (Ni (hK16 ?_)))
  exact WC.ret fun a_ ha_ => hQ (cv_ret1 rfl (.tmp rfl) (by rw [can_e hpe]) hB ha_)
 ·
  replace c15 := bnot_f c15
  replace c15 := dT c15
  refine WC.skip (hK13 (Sq fun K17 hK17 => ?_))
  have hpk := mkQ_0 hte (by first | assumption | omega)
  refine Rg (Va (dx_loadN rfl ty_agg_25_5 rfl k12.range rfl) rfl rfl ?_)
  refine Ge (dx_cv rfl Tryd.func10 rfl rfl rfl (cPrint_v 12 t W10 _ hL ht (sz_par hpk) (tabP_below htab hB))) rfl rfl ?_
  rintro _ W19 ⟨rfl, b18⟩
  replace hB := below_then hB b18
  refine Pu rfl (Pu rfl (Pu rfl (Pu rfl (Pu rfl (Ni (hK17 (Sq fun K20 hK20 => ?_)))))))
  refine Rg (Pu rfl (Va (dx_eql rfl rfl rfl) rfl rfl (Pu rfl ?_)))
  refine WL.split 20 rfl (fun g21 => ?_) (fun g21 => ?_)
  ·
   replace g21 := dT g21
   refine Pu rfl (Pu rfl (Va (dx_eqlT rfl rfl rfl) rfl rfl (Pu rfl (Pu rfl (Ni (hK20 ?_))))))
   exact WC.ret fun a_ ha_ => hQ (cv_ret1 rfl (.tmp rfl) (by rw [can_k hpk, decide_eq_true (show (prtS t.er).2 = 0 by assumption)]; rfl) hB ha_)
  ·
   replace g21 := dF g21
   refine Of rfl (Of rfl (Of rfl (Pu rfl (Pu rfl (Ni (hK20 ?_))))))
   exact WC.ret fun a_ ha_ => hQ (cv_ret1 rfl (.tmp rfl) (by rw [can_k hpk, decide_eq_false (show ¬ (prtS t.er).2 = 0 by assumption)]; rfl) hB ha_)

set_option maxHeartbeats 1000000 in
theorem great_v (n : Nat) (ts : List Tr) (sv : Value) (w : World) (L : List Nat) (hL : LL L w) (h1 : RdF 5 L w sv (ts.map encT)) (hts : RdTs (n + 1) L w ts)  (hsm : ts.length ≤ 100) : CV Tryd.prog 9 [sv] w fun v W => ∃ b, v = .bool b ∧ (b = false → ∀ t ∈ ts, SzT 9000 (n + 1) t) := by
 refine cv_enter (N := 20) (f := [(0, sv)]) Tryd.func9 rfl rfl rfl rfl fun Q hQ hE => ?_
 have hB := Below.refl w.heap.size w
 have h1m : ts.length ≤ maxLen := by have := h1.len; rwa [List.length_map] at this
 unfold maxLen at h1m
 refine Sq fun K1 hK1 => (Rg (Pu rfl (Ni (hK1 (Sq fun K2 hK2 => (Rg (Pu rfl ?_)))))))
 refine Ni (hK2 (Sq fun K3 hK3 => (Sq fun K4 hK4 => (Rg (Pu rfl (Ni (hK4 ?_)))))))
 refine WC.block ?_
 refine WC.loop2 (fun (i : Nat) (z : Int) => [(0, sv), (4, .int .i64 (i : Int)), (3, .int .i64 z)]) (fun (i : Nat) (z : Int) W => i ≤ ts.length ∧ 0 ≤ z ∧ z ≤ 27003 * (i : Int) ∧ (z ≤ 9000 → ∀ k a, k < i → ts[k]? = some a → SzT 9000 (n + 1) a) ∧ Below w.heap.size w W ∧ LL (L) W ∧ RdF 5 (L) W sv (ts.map encT) ∧ RdTs (n + 1) (L) W ts) (fun (i : Nat) (z : Int) => ts.length - i) 0 0 (by repeat first | exact trivial | exact And.intro rfl trivial | refine And.intro rfl ?_ | refine And.intro (congrArg (fun z : Int => some (Value.int .i64 z)) (by omega)) ?_) ⟨Nat.zero_le _, (by omega), (by omega), (fun _ k a hk => by omega), hB, hL, h1, hts⟩ ?_
 clear h1 hts hB hL
 rintro K5 i z W6 ⟨hi, hz0, hz1, hs, hB, hL, h1, hts⟩ hK5
 refine Sq fun K7 hK7 => (Sq fun K8 hK8 => (Rg (Pu rfl (Pu rfl (Va (dx_lenFM rfl ty_slice_23 rfl h1) rfl rfl (Va (dx_lss rfl rfl rfl) rfl rfl (Ni ?_)))))))
 refine hK8 ?_
 refine WC.cond rfl (fun c9 => ?_) (fun c9 => ?_)
 ·
  replace c9 := dT c9
  refine WC.skip (hK7 (Sq fun K10 hK10 => (WC.block (Rg (Pu rfl (Pu rfl (Pu rfl ?_)))))))
  obtain ⟨r11, e12⟩ : ∃ x, ts[i]? = some x := ⟨_, List.getElem?_eq_getElem (by omega)⟩
  refine Ge (dx_idxF i rfl ty_slice_23 rfl rfl h1 (by omega) (at_mapX e12)) rfl rfl ?_
  rintro u13 _ ⟨rfl, p14⟩
  refine Va (dx_loadPN rfl ty_agg_25_5 rfl p14 rfl) rfl rfl ?_
  refine Ge (dx_cv rfl Tryd.func20 rfl rfl rfl (weigh_all (n + 1) r11 9000 W6 _ hL (hts r11 (List.mem_of_getElem? e12)) (by omega))) rfl rfl ?_
  rintro _ W16 ⟨⟨wz, rfl, hw1, hw2, hws⟩, b15⟩
  replace h1 := h1.below b15
  replace hts := hts.below b15
  replace hB := below_then hB b15
  replace hL := LL.below hL b15
  refine Va (dx_add (r := z + wz) rfl rfl rfl (wrap64_id (by omega))) rfl rfl (Pu rfl (Ni (hK10 (Rg (Pu rfl (Va (dx_add (r := (i : Int) + 1) rfl rfl rfl (wrap64_id (by omega))) rfl rfl (Pu rfl ?_)))))))
  refine Ni ?_
  exact hK5 (i + 1) (z + wz) ⟨(by omega), (by omega), (by omega), (fun hh k a hk ha => by rcases Nat.lt_or_ge k i with hl | hl; exact hs (by omega) k a hl ha; obtain rfl : k = i := (by omega); rw [e12] at ha; cases ha; exact hws (by omega)), hB, hL, h1, hts⟩ (by omega) (by repeat first | exact trivial | exact And.intro rfl trivial | refine And.intro rfl ?_ | refine And.intro (congrArg (fun z : Int => some (Value.int .i64 z)) (by omega)) ?_)
 ·
  replace c9 := dF c9
  refine WC.exit ?_
  refine hK3 (Sq fun K17 hK17 => (Rg (Pu rfl (Va (dx_gtr rfl rfl rfl) rfl rfl (Pu rfl (Ni (hK17 ?_)))))))
  exact WC.ret fun a_ ha_ => hQ (cv_ret1 rfl (.tmp rfl) ⟨_, rfl, fun hb t ht => by obtain ⟨k, hk⟩ := List.getElem?_of_mem ht; exact hs (by have := of_decide_eq_false hb; omega) k t (by have := (List.getElem?_eq_some_iff.1 hk).1; omega) hk⟩ hB ha_)

def jA : Js := .mk 6 0 ⟨#[]⟩ [⟨#[97]⟩, ⟨#[98]⟩] [.mk 4 0 ⟨#[195, 169, 47, 1]⟩ [] [], .mk 3 1 ⟨#[]⟩ [] []]
theorem pa1 : parJ { data := #[123, 34, 98, 34, 58, 49, 44, 34, 97, 34, 58, 34, 92, 117, 48, 48, 101, 57, 47, 92, 117, 48, 48, 48, 49, 34, 125] } = .ok jA := by kernel_rfl
theorem pa2 : parJ { data := #[32, 49] } = .ok (.mk 3 1 ⟨#[]⟩ [] []) := by kernel_rfl
theorem num1 : numJ 1 = [49] := by
 unfold numJ decL
 rw [if_neg (by decide), show (1 : Int).toNat = 1 from rfl, Lib.decDigits]; rfl
theorem rA : rightJ upB 12 jA = true := by kernel_rfl
theorem tA : textJ jA = [123, 34, 97, 34, 58, 34, 195, 169, 47, 92, 117, 48, 48, 48, 49, 34, 44, 34, 98, 34, 58, 49, 125] := by
 have e : textJ jA = [123, 34, 97, 34, 58, 34, 195, 169, 47, 92, 117, 48, 48, 48, 49, 34, 44, 34, 98, 34, 58] ++ (numJ 1 ++ [125]) := by
  unfold textJ jA
  rw [prJ_6 rfl]
  show 123 :: (commaJ [quoJ ⟨#[97]⟩ ++ (58 :: prJ 11 (.mk 4 0 ⟨#[195, 169, 47, 1]⟩ [] [])), quoJ ⟨#[98]⟩ ++ (58 :: prJ 11 (.mk 3 1 ⟨#[]⟩ [] []))] ++ [125]) = _
  rw [pr_leaf (j := .mk 4 0 _ _ _) (by show ¬ (4 : Int) = 5; decide) (by show ¬ (4 : Int) = 6; decide), leafP_4 rfl, pr_leaf (j := .mk 3 1 _ _ _) (by show ¬ (3 : Int) = 5; decide) (by show ¬ (3 : Int) = 6; decide), leafP_3 rfl]
  show 123 :: (commaJ [quoJ ⟨#[97]⟩ ++ (58 :: quoJ ⟨#[195, 169, 47, 1]⟩), quoJ ⟨#[98]⟩ ++ (58 :: numJ 1)] ++ [125]) = _
  rw [num1]; kernel_rfl
 rw [e, num1]; rfl
theorem prA : prtS jA = ({ data := #[123, 34, 97, 34, 58, 34, 195, 169, 47, 92, 117, 48, 48, 48, 49, 34, 44, 34, 98, 34, 58, 49, 125] }, 0) := by
 unfold prtS
 rw [if_pos rA, tA, if_neg (by decide)]; kernel_rfl
theorem canB : canS { data := #[123, 34, 97, 34, 58, 34, 195, 169, 47, 92, 117, 48, 48, 48, 49, 34, 44, 34, 98, 34, 58, 49, 125] } = true := by
 have h0 : (prtS jA).2 = 0 := by rw [prA]
 have := can_p h0
 rwa [prA] at this
theorem canD : canS { data := #[32, 49] } = false := by
 rw [can_k pa2]
 have e : textJ (.mk 3 1 ⟨#[]⟩ [] []) = [49] := by
  unfold textJ
  rw [pr_leaf (j := .mk 3 1 ⟨#[]⟩ [] []) (by show ¬ (3 : Int) = 5; decide) (by show ¬ (3 : Int) = 6; decide), leafP_3 rfl]; exact num1
 have r1 : rightJ upB 12 (.mk 3 1 ⟨#[]⟩ [] []) = true := by kernel_rfl
 have h : prtS (.mk 3 1 ⟨#[]⟩ [] []) = (strOfNums [49], 0) := by
  unfold prtS
  rw [if_pos r1, e, if_neg (by decide)]
 rw [h]
 show (decide ((0 : Int) = 0) && decide (strOfNums [49] = { data := #[32, 49] })) = false
 kernel_rfl
theorem alP_v (w : World) (L : List Nat) (hL : LL L w) : CV Tryd.prog 16 [.string { data := #[123, 34, 98, 34, 58, 49, 44, 34, 97, 34, 58, 34, 92, 117, 48, 48, 101, 57, 47, 92, 117, 48, 48, 48, 49, 34, 125] }] w fun v W => ∃ t, v = .tuple #[.agg #[.int .i64 t.kind, .int .i64 t.num, .string t.text, t.nv, t.iv], .int .i64 0] ∧ t.er = jA ∧ RdT 13 L W t :=
  (jParse_v { data := #[123, 34, 98, 34, 58, 49, 44, 34, 97, 34, 58, 34, 92, 117, 48, 48, 101, 57, 47, 92, 117, 48, 48, 48, 49, 34, 125] } w L hL).mono fun v W _ h => by
    rcases h with ⟨t, rfl, h1, h2⟩ | ⟨e, rfl, h0, h1⟩
    · rw [pa1] at h1
      exact ⟨t, rfl, (Except.ok.inj h1).symm, h2⟩
    · rw [pa1] at h1; cases h1
theorem alQ_v (t : Tr) (w : World) (L : List Nat) (hL : LL L w) (ht : RdT 13 L w t) (he : t.er = jA) (htab : tabP w) : CV Tryd.prog 10 [.agg #[.int .i64 t.kind, .int .i64 t.num, .string t.text, t.nv, t.iv]] w fun v W => v = .tuple #[.string { data := #[123, 34, 97, 34, 58, 34, 195, 169, 47, 92, 117, 48, 48, 48, 49, 34, 44, 34, 98, 34, 58, 49, 125] }, .int .i64 0] := by
 have := cPrint_v 12 t w L hL ht (szT_J.2 (by rw [he]; exact (par_ok pa1).2)) htab
 rw [he, prA] at this
 exact this
theorem alC_v (s : ByteArray) (b : Bool) (h : canS s = b) (w : World) (L : List Nat) (hL : LL L w) (htab : tabP w) : CV Tryd.prog 18 [.string s] w fun v W => v = .bool b := h ▸ canon_v s w L hL htab
set_option maxHeartbeats 1000000 in
theorem alive_v  (w : World) (L : List Nat) (hL : LL L w)   (htab : tabP w) : CV Tryd.prog 8 [] w fun v W => v = .bool true := by
 refine cv_enter (N := 32) (f := []) Tryd.func8 rfl rfl rfl rfl fun Q hQ hE => ?_
 have hB := Below.refl w.heap.size w
 refine Sq fun K1 hK1 => (Rg (Pu rfl (Ni (hK1 (Sq fun K2 hK2 => (Rg ?_))))))
 refine Ge (dx_cv rfl Tryd.func16 rfl rfl rfl (alP_v w _ hL)) rfl rfl ?_
 rintro _ W4 ⟨⟨t, rfl, hte, ht⟩, b3⟩
 replace hB := below_then hB b3
 replace hL := LL.below hL b3
 refine Pu rfl (Pu rfl (Pu rfl ?_))
 refine Ge (dx_alloc rfl ty_zero_25 rfl) rfl rfl ?_
 rintro _ W5 ⟨rfl, k6, b7, z8⟩
 have l9 := hB.size
 replace ht := ht.more b7 (Nat.le_refl _)
 replace hB := below_then hB b7
 replace hL := LL.more hL z8
 refine WL.do (dx_store (cs' := [.int .i64 t.kind, .int .i64 t.num, .string t.text, t.nv, t.iv]) (vs := [.int .i64 t.kind, .int .i64 t.num, .string t.text, t.nv, t.iv]) rfl ty_size_25_5 rfl rfl rfl (oc_cons rfl (oc_cons rfl (oc_cons rfl (oc_cons (ht.1).one (oc_cons (ht.2.1).one oc_nil))))) k6 rfl (Nat.le_of_ble_eq_true rfl) rfl) rfl ?_
 rintro _ W10 ⟨k12, o11⟩
 clear k6
 replace ht := ht.only o11 (.head _)
 replace hB := o11.below hB l9
 replace hL := LL.only hL o11
 refine Pu rfl (Ni (hK2 (Sq fun K13 hK13 => (Rg (Va (dx_loadN rfl ty_agg_25_5 rfl k12.range rfl) rfl rfl ?_)))))
 refine Ge (dx_cv rfl Tryd.func10 rfl rfl rfl (alQ_v t W10 _ hL ht hte (tabP_below htab hB))) rfl rfl ?_
 rintro _ W15 ⟨rfl, b14⟩
 replace hB := below_then hB b14
 replace hL := LL.below hL b14
 refine Pu rfl (Pu rfl (Pu rfl (Pu rfl (Pu rfl (Ni (hK13 (Sq fun K16 hK16 => ?_)))))))
 refine Rg (Pu rfl (Va (dx_eql rfl rfl rfl) rfl rfl (Pu rfl (Pu rfl (Va (dx_eql rfl rfl rfl) rfl rfl (Pu rfl (Pu rfl ?_)))))))
 refine Pu rfl (Va (dv_T (dx_eqlT rfl rfl rfl) rfl) rfl rfl (Pu rfl (Pu rfl (Pu rfl ?_))))
 refine Ge (dx_cv rfl Tryd.func18 rfl rfl rfl (alC_v ({ data := #[123, 34, 97, 34, 58, 34, 195, 169, 47, 92, 117, 48, 48, 48, 49, 34, 44, 34, 98, 34, 58, 49, 125] }) true canB W15 _ hL (tabP_below htab hB))) rfl rfl ?_
 rintro _ W18 ⟨rfl, b17⟩
 replace hB := below_then hB b17
 replace hL := LL.below hL b17
 refine Pu rfl (Pu rfl ?_)
 refine Ge (dx_cv rfl Tryd.func18 rfl rfl rfl (alC_v ({ data := #[32, 49] }) false canD W18 _ hL (tabP_below htab hB))) rfl rfl ?_
 rintro _ W20 ⟨rfl, b19⟩
 replace hB := below_then hB b19
 refine Va (dx_not rfl rfl) rfl rfl (Pu rfl (Pu rfl (Ni (hK16 ?_))))
 exact WC.ret fun a_ ha_ => hQ (cv_ret1 rfl (.tmp rfl) rfl hB ha_)

set_option maxHeartbeats 1000000 in
theorem CanonBack_v (n : Nat) (p : Tr) (s : ByteArray) (w : World) (L : List Nat) (hL : LL L w) (htp : RdT (n + 1) L w p)  (htab : tabP w) : CV Tryd.prog 4 [.agg #[.int .i64 p.kind, .int .i64 p.num, .string p.text, p.nv, p.iv], .string s] w fun v W => v = .bool true := by
 refine cv_enter (N := 78) (f := [(0, .agg #[.int .i64 p.kind, .int .i64 p.num, .string p.text, p.nv, p.iv]), (1, .string s)]) Tryd.func4 rfl rfl rfl rfl fun Q hQ hE => ?_
 have hB := Below.refl w.heap.size w
 refine Sq fun K1 hK1 => ?_
 obtain ⟨hnp, hip, hcp⟩ := htp
 replace hcp : RdTs n (L) w p.items := hcp
 refine Rg ?_
 refine Ge (dx_box rfl rfl rfl) rfl rfl ?_
 rintro _ W2 ⟨rfl, k3, b4, z5⟩
 have l6 := hB.size
 replace hnp := hnp.more b4 (Nat.le_refl _)
 replace hip := hip.more b4 (Nat.le_refl _)
 replace hcp := hcp.more b4 (Nat.le_refl _)
 replace hB := below_then hB b4
 replace hL := LL.more hL z5
 refine Pu rfl (Ni (hK1 (Sq fun K7 hK7 => (Sq fun K8 hK8 => (Rg ?_)))))
 refine Ge (dx_cv rfl Tryd.func8 rfl rfl rfl (alive_v W2 _ hL (tabP_below htab hB))) rfl rfl ?_
 rintro _ W10 ⟨rfl, b9⟩
 replace hnp := hnp.below b9
 replace hip := hip.below b9
 replace hcp := hcp.below b9
 replace k3 := k3.below b9
 replace hB := below_then hB b9
 replace hL := LL.below hL b9
 refine Va (dx_not rfl rfl) rfl rfl (Ni (hK8 (WC.condF rfl (WC.skip (hK7 (Sq fun K11 hK11 => (Sq fun K12 hK12 => ?_)))))))
 refine Rg (Va (dx_loadN rfl ty_agg_25_5 rfl k3.range rfl) rfl rfl ?_)
 refine Ge (dx_lit1 (r := [.int .i64 p.kind, .int .i64 p.num, .string p.text, p.nv, p.iv]) rfl ty_ap_23 (by decide) (by decide) rfl rfl rfl) rfl rfl ?_
 rintro u17 W13 ⟨k14, b15, z16⟩
 have l19 := hB.size
 replace hnp := hnp.more b15 (Nat.le_refl _)
 replace hip := hip.more b15 (Nat.le_refl _)
 replace hcp := hcp.more b15 (Nat.le_refl _)
 replace k3 := k3.below b15
 replace hB := below_then hB b15
 replace hL := LL.more hL z16
 refine Ge (dx_cv rfl Tryd.func9 rfl rfl rfl (great_v n [p] _ W13 [] (LL.nil _) (k14.rd (L := []) (by simp)) (fun c hc => by rw [List.mem_singleton.1 hc]; exact (RdT.less (show RdT (n + 1) (W10.heap.size :: w.heap.size :: L) W13 p from ⟨hnp, hip, hcp⟩) (fun x hx => by cases hx))) (by simp))) rfl rfl ?_
 rintro _ W21 ⟨⟨gb, rfl, hgs⟩, b20⟩
 replace hnp := hnp.below b20
 replace hip := hip.below b20
 replace hcp := hcp.below b20
 replace k3 := k3.below b20
 replace hB := below_then hB b20
 replace hL := LL.below hL b20
 refine Pu rfl ?_
 refine WL.split 18 rfl (fun g22 => ?_) (fun g22 => ?_)
 ·
  refine Of rfl (Of rfl (Of rfl (Pu rfl (Ni (hK12 (WC.condT rfl (Sq fun K23 hK23 => ?_)))))))
  refine Rg (Pu rfl (Ni (hK23 ?_)))
  exact WC.ret fun a_ ha_ => hQ (cv_ret1 rfl (.tmp rfl) rfl hB ha_)
 ·
  replace g22 := bvar_f g22
  refine Pu rfl (Va (dx_lenT rfl Tryd.underlying9 rfl) rfl rfl (Va (dx_gtr rfl rfl rfl) rfl rfl (Pu rfl (Ni (hK12 ?_)))))
  refine WC.cond rfl (fun c24 => ?_) (fun c24 => ?_)
  ·
   replace c24 := dT c24
   refine Sq fun K25 hK25 => (Rg (Pu rfl (Ni (hK25 ?_))))
   exact WC.ret fun a_ ha_ => hQ (cv_ret1 rfl (.tmp rfl) rfl hB ha_)
  ·
   replace c24 := dF c24
   refine WC.skip (hK11 (Sq fun K26 hK26 => ?_))
   have hzp := (hgs (by first | assumption | exact Bool.eq_false_iff.2 (by assumption) | simp_all) p (.head _)).le (show 9000 ≤ 1000000 by omega)
   refine Rg (Va (dx_loadN rfl ty_agg_25_5 rfl k3.range rfl) rfl rfl ?_)
   refine Ge (dx_cv rfl Tryd.func10 rfl rfl rfl (cPrint_v n p W21 _ hL (show RdT (n + 1) (W10.heap.size :: w.heap.size :: L) W21 p from ⟨hnp, hip, hcp⟩) hzp (tabP_below htab hB))) rfl rfl ?_
   rintro _ W28 ⟨rfl, b27⟩
   replace hnp := hnp.below b27
   replace hip := hip.below b27
   replace hcp := hcp.below b27
   replace k3 := k3.below b27
   replace hB := below_then hB b27
   replace hL := LL.below hL b27
   refine Pu rfl (Pu rfl (Pu rfl (Pu rfl (Pu rfl (Ni (hK26 (Sq fun K29 hK29 => ?_)))))))
   refine Sq fun K30 hK30 => (Rg (Pu rfl (Va (dx_eql rfl rfl rfl) rfl rfl (Ni (hK30 ?_)))))
   refine WC.cond rfl (fun c31 => ?_) (fun c31 => ?_)
   ·
    replace c31 := dT c31
    refine Sq fun K32 hK32 => ?_
    have hp0 : (prtS p.er).2 = 0 := by assumption
    obtain ⟨-, -, hpp⟩ := print_parse hp0
    refine Rg (Pu rfl ?_)
    refine Ge (dx_cv rfl Tryd.func16 rfl rfl rfl (jPar_u ((prtS p.er).1) W28 _ hL)) rfl rfl ?_
    rintro _ W34 ⟨⟨t, e, rfl, hte, ht⟩, b33⟩
    replace hnp := hnp.below b33
    replace hip := hip.below b33
    replace hcp := hcp.below b33
    replace k3 := k3.below b33
    replace hB := below_then hB b33
    replace hL := LL.below hL b33
    refine Pu rfl (Pu rfl (Pu rfl ?_))
    refine Ge (dx_alloc rfl ty_zero_25 rfl) rfl rfl ?_
    rintro _ W35 ⟨rfl, k36, b37, z38⟩
    have n39 : w.heap.size ≠ W34.heap.size := Nat.ne_of_lt k3.lt
    have l41 := hB.size
    replace hnp := hnp.more b37 (Nat.le_refl _)
    replace hip := hip.more b37 (Nat.le_refl _)
    replace hcp := hcp.more b37 (Nat.le_refl _)
    replace ht := ht.more b37 (Nat.le_refl _)
    replace k3 := k3.below b37
    replace hB := below_then hB b37
    replace hL := LL.more hL z38
    refine WL.do (dx_store (cs' := [.int .i64 t.kind, .int .i64 t.num, .string t.text, t.nv, t.iv]) (vs := [.int .i64 t.kind, .int .i64 t.num, .string t.text, t.nv, t.iv]) rfl ty_size_25_5 rfl rfl rfl (oc_cons rfl (oc_cons rfl (oc_cons rfl (oc_cons (ht.1).one (oc_cons (ht.2.1).one oc_nil))))) k36 rfl (Nat.le_of_ble_eq_true rfl) rfl) rfl ?_
    rintro _ W42 ⟨k44, o43⟩
    replace k3 := k3.other o43 n39
    clear k36
    replace hnp := hnp.only o43 (.head _)
    replace hip := hip.only o43 (.head _)
    replace hcp := hcp.only o43 (.head _)
    replace ht := ht.only o43 (.head _)
    replace hB := o43.below hB l41
    replace hL := LL.only hL o43
    refine Pu rfl (Ni (hK32 (Sq fun K45 hK45 => ?_)))
    have he0 : e = 0 ∧ t.er = p.er := by rw [hpp] at hte; rcases hte with ⟨h0_, h_⟩ | ⟨_, h_, _⟩; exact ⟨h0_, (Except.ok.inj h_).symm⟩; cases h_
    refine Rg (Pu rfl (Va (dv_Fz (dx_neq rfl rfl rfl) he0.1) rfl rfl (Pu rfl (Va (dx_loadN rfl ty_agg_25_5 rfl k3.range rfl) rfl rfl (Va (dx_loadN rfl ty_agg_25_5 rfl k44.range rfl) rfl rfl ?_)))))
    refine Ge (dx_cv rfl Tryd.func17 rfl rfl rfl (alikeE_v (n + 12) p t W42 _ hL ((show RdT (n + 1) (W34.heap.size :: W10.heap.size :: w.heap.size :: L) W42 p from ⟨hnp, hip, hcp⟩).le (by omega)) (ht.le (by omega)) he0.2.symm)) rfl rfl ?_
    rintro _ W47 ⟨rfl, b46⟩
    replace hB := below_then hB b46
    replace hL := LL.below hL b46
    refine Va (dx_not rfl rfl) rfl rfl (Pu rfl (Pu rfl (Pu rfl ?_)))
    refine Ge (dx_cv rfl Tryd.func18 rfl rfl rfl (alC_v ((prtS p.er).1) true (can_p hp0) W47 _ hL (tabP_below htab hB))) rfl rfl ?_
    rintro _ W49 ⟨rfl, b48⟩
    replace hB := below_then hB b48
    replace hL := LL.below hL b48
    refine Va (dx_not rfl rfl) rfl rfl (Pu rfl (Ni (hK45 (WC.condF rfl (WC.skip (hK29 (Sq fun K50 hK50 => ?_)))))))
    refine Rg (Pu rfl ?_)
    refine Ge (dx_cv rfl Tryd.func16 rfl rfl rfl (jPar_u s W49 _ hL)) rfl rfl ?_
    rintro _ W52 ⟨⟨u, f, rfl, hue, hu⟩, b51⟩
    replace hB := below_then hB b51
    replace hL := LL.below hL b51
    refine Pu rfl (Pu rfl (Pu rfl ?_))
    refine Ge (dx_alloc rfl ty_zero_25 rfl) rfl rfl ?_
    rintro _ W53 ⟨rfl, k54, b55, z56⟩
    have l60 := hB.size
    replace hu := hu.more b55 (Nat.le_refl _)
    replace hB := below_then hB b55
    replace hL := LL.more hL z56
    refine WL.do (dx_store (cs' := [.int .i64 u.kind, .int .i64 u.num, .string u.text, u.nv, u.iv]) (vs := [.int .i64 u.kind, .int .i64 u.num, .string u.text, u.nv, u.iv]) rfl ty_size_25_5 rfl rfl rfl (oc_cons rfl (oc_cons rfl (oc_cons rfl (oc_cons (hu.1).one (oc_cons (hu.2.1).one oc_nil))))) k54 rfl (Nat.le_of_ble_eq_true rfl) rfl) rfl ?_
    rintro _ W61 ⟨k63, o62⟩
    clear k54
    replace hu := hu.only o62 (.head _)
    replace hB := o62.below hB l60
    replace hL := LL.only hL o62
    refine Pu rfl (Ni (hK50 (Sq fun K64 hK64 => (Sq fun K65 hK65 => (Rg (Pu rfl (Va (dx_neq rfl rfl rfl) rfl rfl ?_)))))))
    refine Ni (hK65 ?_)
    refine WC.cond rfl (fun c66 => ?_) (fun c66 => ?_)
    ·
     replace c66 := bnot_t c66
     replace c66 := dF c66
     refine Sq fun K67 hK67 => (Rg (Pu rfl ?_))
     refine Ge (dx_cv rfl Tryd.func18 rfl rfl rfl (alC_v s false (can_e (mkQ_1 hue (by assumption))) W61 _ hL (tabP_below htab hB))) rfl rfl ?_
     rintro _ W69 ⟨rfl, b68⟩
     replace hB := below_then hB b68
     refine Va (dx_not rfl rfl) rfl rfl (Pu rfl (Ni (hK67 ?_)))
     exact WC.ret fun a_ ha_ => hQ (cv_ret1 rfl (.tmp rfl) rfl hB ha_)
    ·
     replace c66 := bnot_f c66
     replace c66 := dT c66
     refine WC.skip (hK64 (Sq fun K70 hK70 => ?_))
     have hpk := mkQ_0 hue (by first | assumption | exact Classical.not_not.1 (by assumption))
     refine Rg (Va (dx_loadN rfl ty_agg_25_5 rfl k63.range rfl) rfl rfl ?_)
     refine Ge (dx_cv rfl Tryd.func10 rfl rfl rfl (cPrint_v 12 u W61 _ hL hu (sz_par hpk) (tabP_below htab hB))) rfl rfl ?_
     rintro _ W72 ⟨rfl, b71⟩
     replace hB := below_then hB b71
     replace hL := LL.below hL b71
     refine Pu rfl (Pu rfl (Pu rfl (Pu rfl (Pu rfl (Ni (hK70 (Sq fun K73 hK73 => ?_)))))))
     refine Sq fun K74 hK74 => (Rg (Pu rfl (Va (dx_neq rfl rfl rfl) rfl rfl (Ni (hK74 ?_)))))
     refine WC.cond rfl (fun c75 => ?_) (fun c75 => ?_)
     ·
      replace c75 := bnot_t c75
      replace c75 := dF c75
      refine Sq fun K76 hK76 => ?_
      have hg0 : ¬ (prtS u.er).2 = 0 := by assumption
      refine Rg (Pu rfl (Va (dv_T (dx_eql rfl rfl rfl) ((prt_err hg0).2 (par_ok hpk).1)) rfl rfl (Pu rfl (Pu rfl ?_))))
      refine Ge (dx_cv rfl Tryd.func18 rfl rfl rfl (alC_v s false (by rw [can_k hpk, decide_eq_false hg0]; rfl) W72 _ hL (tabP_below htab hB))) rfl rfl ?_
      rintro _ W78 ⟨rfl, b77⟩
      replace hB := below_then hB b77
      refine Va (dx_not rfl rfl) rfl rfl (Pu rfl (Pu rfl (Ni (hK76 ?_))))
      exact WC.ret fun a_ ha_ => hQ (cv_ret1 rfl (.tmp rfl) rfl hB ha_)
     ·
      replace c75 := bnot_f c75
      replace c75 := dT c75
      refine WC.skip (hK73 (Sq fun K79 hK79 => (Rg (Pu rfl (Pu rfl (Va (dx_eqlT rfl rfl rfl) rfl rfl (Pu rfl ?_)))))))
      refine Ge (dx_cv rfl Tryd.func18 rfl rfl rfl (canon_v s W72 _ hL (tabP_below htab hB))) rfl rfl ?_
      rintro _ W81 ⟨rfl, b80⟩
      replace hB := below_then hB b80
      refine Va (dx_eqB rfl Tryd.underlying4 rfl rfl) rfl rfl (Pu rfl (Ni (hK79 ?_)))
      exact WC.ret fun a_ ha_ => hQ (cv_ret1 rfl (.tmp rfl) (by rw [can_k hpk, decide_eq_true (show (prtS u.er).2 = 0 by first | assumption | exact Classical.not_not.1 (by assumption))]; exact congrArg Value.bool (decide_eq_true rfl)) hB ha_)
   ·
    replace c31 := dF c31
    refine WC.skip (hK29 (Sq fun K82 hK82 => (Rg (Pu rfl ?_))))
    refine Ge (dx_cv rfl Tryd.func16 rfl rfl rfl (jPar_u s W28 _ hL)) rfl rfl ?_
    rintro _ W84 ⟨⟨u, f, rfl, hue, hu⟩, b83⟩
    replace hB := below_then hB b83
    replace hL := LL.below hL b83
    refine Pu rfl (Pu rfl (Pu rfl ?_))
    refine Ge (dx_alloc rfl ty_zero_25 rfl) rfl rfl ?_
    rintro _ W85 ⟨rfl, k86, b87, z88⟩
    have l91 := hB.size
    replace hu := hu.more b87 (Nat.le_refl _)
    replace hB := below_then hB b87
    replace hL := LL.more hL z88
    refine WL.do (dx_store (cs' := [.int .i64 u.kind, .int .i64 u.num, .string u.text, u.nv, u.iv]) (vs := [.int .i64 u.kind, .int .i64 u.num, .string u.text, u.nv, u.iv]) rfl ty_size_25_5 rfl rfl rfl (oc_cons rfl (oc_cons rfl (oc_cons rfl (oc_cons (hu.1).one (oc_cons (hu.2.1).one oc_nil))))) k86 rfl (Nat.le_of_ble_eq_true rfl) rfl) rfl ?_
    rintro _ W92 ⟨k94, o93⟩
    clear k86
    replace hu := hu.only o93 (.head _)
    replace hB := o93.below hB l91
    replace hL := LL.only hL o93
    refine Pu rfl (Ni (hK82 (Sq fun K95 hK95 => (Sq fun K96 hK96 => (Rg (Pu rfl (Va (dx_neq rfl rfl rfl) rfl rfl ?_)))))))
    refine Ni (hK96 ?_)
    refine WC.cond rfl (fun c97 => ?_) (fun c97 => ?_)
    ·
     replace c97 := bnot_t c97
     replace c97 := dF c97
     refine Sq fun K98 hK98 => (Rg (Pu rfl ?_))
     refine Ge (dx_cv rfl Tryd.func18 rfl rfl rfl (alC_v s false (can_e (mkQ_1 hue (by assumption))) W92 _ hL (tabP_below htab hB))) rfl rfl ?_
     rintro _ W100 ⟨rfl, b99⟩
     replace hB := below_then hB b99
     refine Va (dx_not rfl rfl) rfl rfl (Pu rfl (Ni (hK98 ?_)))
     exact WC.ret fun a_ ha_ => hQ (cv_ret1 rfl (.tmp rfl) rfl hB ha_)
    ·
     replace c97 := bnot_f c97
     replace c97 := dT c97
     refine WC.skip (hK95 (Sq fun K101 hK101 => ?_))
     have hpk := mkQ_0 hue (by first | assumption | exact Classical.not_not.1 (by assumption))
     refine Rg (Va (dx_loadN rfl ty_agg_25_5 rfl k94.range rfl) rfl rfl ?_)
     refine Ge (dx_cv rfl Tryd.func10 rfl rfl rfl (cPrint_v 12 u W92 _ hL hu (sz_par hpk) (tabP_below htab hB))) rfl rfl ?_
     rintro _ W103 ⟨rfl, b102⟩
     replace hB := below_then hB b102
     replace hL := LL.below hL b102
     refine Pu rfl (Pu rfl (Pu rfl (Pu rfl (Pu rfl (Ni (hK101 (Sq fun K104 hK104 => ?_)))))))
     refine Sq fun K105 hK105 => (Rg (Pu rfl (Va (dx_neq rfl rfl rfl) rfl rfl (Ni (hK105 ?_)))))
     refine WC.cond rfl (fun c106 => ?_) (fun c106 => ?_)
     ·
      replace c106 := bnot_t c106
      replace c106 := dF c106
      refine Sq fun K107 hK107 => ?_
      have hg0 : ¬ (prtS u.er).2 = 0 := by assumption
      refine Rg (Pu rfl (Va (dv_T (dx_eql rfl rfl rfl) ((prt_err hg0).2 (par_ok hpk).1)) rfl rfl (Pu rfl (Pu rfl ?_))))
      refine Ge (dx_cv rfl Tryd.func18 rfl rfl rfl (alC_v s false (by rw [can_k hpk, decide_eq_false hg0]; rfl) W103 _ hL (tabP_below htab hB))) rfl rfl ?_
      rintro _ W109 ⟨rfl, b108⟩
      replace hB := below_then hB b108
      refine Va (dx_not rfl rfl) rfl rfl (Pu rfl (Pu rfl (Ni (hK107 ?_))))
      exact WC.ret fun a_ ha_ => hQ (cv_ret1 rfl (.tmp rfl) rfl hB ha_)
     ·
      replace c106 := bnot_f c106
      replace c106 := dT c106
      refine WC.skip (hK104 (Sq fun K110 hK110 => (Rg (Pu rfl (Pu rfl (Va (dx_eqlT rfl rfl rfl) rfl rfl (Pu rfl ?_)))))))
      refine Ge (dx_cv rfl Tryd.func18 rfl rfl rfl (canon_v s W103 _ hL (tabP_below htab hB))) rfl rfl ?_
      rintro _ W112 ⟨rfl, b111⟩
      replace hB := below_then hB b111
      refine Va (dx_eqB rfl Tryd.underlying4 rfl rfl) rfl rfl (Pu rfl (Ni (hK110 ?_)))
      exact WC.ret fun a_ ha_ => hQ (cv_ret1 rfl (.tmp rfl) (by rw [can_k hpk, decide_eq_true (show (prtS u.er).2 = 0 by first | assumption | exact Classical.not_not.1 (by assumption))]; exact congrArg Value.bool (decide_eq_true rfl)) hB ha_)

end Go.Proofs.YtghpdnfdbhjmpaaDoor
