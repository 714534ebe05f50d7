/- What is printed is read as it was. Calls that change a printer alone. The printer: full, escape, text. DERIVED: THE SHELF's CONTRACTS AT THIS DUMP, IN -/
import Derived.Lib.ItoaNum
import Derived.Shelf.Strings.Builder1
import Derived.Shelf.Strconv.Itoa0
import Derived.Shelf.Strconv.Itoa1
import Derived.Shelf.LaysM
import Derived.Shelf.Strconv.Itoa2
import Derived.Shelf.Strconv.Itoa3
import Derived.Ground.Names2Prog
import Derived.Shelf.Slices.ReverseS
import Derived.Shelf.Slices.Cells
import Derived.Test.YtghpdnfdbhjmpaaDoorProg
import Derived.Lib.AppendIntMem
import Derived.Test.YtghpdnfdbhjmpaaDoorRows
import Derived.Lib.LaidTab
import Derived.ChangeSame
import Derived.Stop.LaidErr
import Derived.MakeChecks
import Derived.Test.YtghpdnfdbhjmpaaDoorXD
namespace Go.Proofs.YtghpdnfdbhjmpaaDoor
open Go.RowKit
set_option linter.unusedVariables false
set_option linter.unusedSimpArgs false
set_option maxRecDepth 8000
set_option maxHeartbeats 2000000

theorem leaf_kind {up : ByteArray → Bool} {j : Js} (h : leafJ up j = true) : ¬ (j.kind = 5 ∨ j.kind = 6) := by
 unfold leafJ at h
 rintro (e | e) <;> rw [e] at h <;> simp at h
theorem node_kind {up : ByteArray → Bool} {j : Js} (h : nodeJ up j = true) : j.kind = 5 ∨ j.kind = 6 := by
 unfold nodeJ at h
 simp only [Bool.and_eq_true, Bool.or_eq_true, decide_eq_true_eq] at h
 rcases h.2 with h | h
 · exact .inl h.1
 · exact .inr h.1
theorem rises_of_J : ∀ {l : List ByteArray}, risesJ l = true → Rises l
 | [], _ => List.Pairwise.nil
 | [a], _ => List.pairwise_singleton _ _
 | a :: b :: l, h => by
  unfold risesJ at h
  rw [Bool.and_eq_true] at h
  have ih := rises_of_J (l := b :: l) h.2
  refine List.Pairwise.cons (fun c hc => ?_) ih
  rcases List.mem_cons.1 hc with rfl | hc
  · exact h.1
  · exact sless_trans _ _ _ h.1 ((List.pairwise_cons.1 ih).1 c hc)
def hexL (c : Int) : Int := if c < 10 then 48 + c else 87 + c
def escJ (c : Int) : List Int :=
 if c = 34 ∨ c = 92 then [92, c] else if c = 8 then [92, 98] else if c = 9 then [92, 116] else if c = 10 then [92, 110] else if c = 12 then [92, 102] else if c = 13 then [92, 114]
 else if c < 32 then [92, 117, 48, 48, hexL (c / 16), hexL (c % 16)] else [c]
def quoJ (s : ByteArray) : List Int := 34 :: ((sb s).flatMap escJ ++ [34])
def decL (u : Nat) : List Int := (Lib.decDigits u).map fun c => (c.toNat : Int)
def numJ (n : Int) : List Int := if n < 0 then 45 :: decL n.natAbs else decL n.toNat
def commaJ : List (List Int) → List Int
 | [] => []
 | x :: l => x ++ l.flatMap fun y => 44 :: y
def leafP (j : Js) : List Int := if j.kind = 1 then [116, 114, 117, 101] else if j.kind = 2 then [102, 97, 108, 115, 101] else if j.kind = 3 then numJ j.num else if j.kind = 4 then quoJ j.text else [110, 117, 108, 108]
def prJ : Nat → Js → List Int
 | 0, j => leafP j
 | n + 1, j => if j.kind = 5 then 91 :: (commaJ (j.items.map (prJ n)) ++ [93]) else if j.kind = 6 then 123 :: (commaJ ((j.names.zip j.items).map fun p => quoJ p.1 ++ (58 :: prJ n p.2)) ++ [125]) else leafP j
def Rem (s : ByteArray) (k : Nat) (r : List Int) : Prop := k ≤ s.size ∧ (sb s).drop k = r
section
variable {s : ByteArray} {k : Nat} {c : Int} {r l : List Int}
theorem Rem.cons (h : Rem s k (c :: r)) : k < s.size ∧ atS s k = c ∧ Rem s (k + 1) r := by
 obtain ⟨h1, h2⟩ := h
 have hlt : k < s.size := by
  rcases Nat.lt_or_ge k s.size with h3 | h3
  · exact h3
  · rw [List.drop_eq_nil_of_le (by rw [sb_length]; omega)] at h2; cases h2
 have e := sb_at hlt
 rw [List.drop_eq_getElem_cons (by rw [sb_length]; exact hlt)] at h2
 rw [List.getElem?_eq_getElem (by rw [sb_length]; exact hlt)] at e
 have e1 := List.cons.inj h2
 exact ⟨hlt, by rw [← Option.some.inj e]; exact e1.1, hlt, e1.2⟩
theorem Rem.nil (h : Rem s k []) : k = s.size := by
 have := congrArg List.length h.2
 rw [List.length_drop, sb_length, List.length_nil] at this
 have := h.1; omega
theorem Rem.app : ∀ {l : List Int} {k : Nat}, Rem s k (l ++ r) → Rem s (k + l.length) r
 | [], k, h => h
 | c :: l, k, h => by
  have := Rem.app (l := l) (h.cons.2.2)
  rw [List.length_cons, show k + (l.length + 1) = k + 1 + l.length by omega]; exact this
theorem Rem.take (h : Rem s k (c :: r)) (d : Int) : takeS s k d = decide (c = d) := by
 obtain ⟨h1, h2, _⟩ := h.cons
 unfold takeS; rw [decide_eq_true h1, h2]; rfl
theorem Rem.blank (h : Rem s k (c :: r)) (hc : isBlank c = false) : blankS s k = k := blank_stop fun ⟨_, q⟩ => by rw [h.cons.2.1, hc] at q; cases q
theorem Rem.blank0 (h : Rem s k []) : blankS s k = k := blank_stop fun ⟨q, _⟩ => by have := h.nil; omega
end
def Tail (r : List Int) : Prop := r = [] ∨ ∃ c l, r = c :: l ∧ (c = 44 ∨ c = 93 ∨ c = 125)
-- texts
theorem hexD_L {c : Int} (h0 : 0 ≤ c) (h : c < 16) : hexD (hexL c) = c := by
 unfold hexL
 split
 · unfold hexD; rw [if_pos (by omega)]; omega
 · unfold hexD; rw [if_neg (by omega), if_pos (by omega)]; omega
theorem Rem.four {s : ByteArray} {k : Nat} {a b c d : Int} {r : List Int} (h : Rem s k (hexL a :: hexL b :: hexL c :: hexL d :: r)) (ha : 0 ≤ a ∧ a < 16) (hb : 0 ≤ b ∧ b < 16) (hc : 0 ≤ c ∧ c < 16) (hd : 0 ≤ d ∧ d < 16) : fourS s k = some (((a * 16 + b) * 16 + c) * 16 + d) := by
 obtain ⟨q1, q2, h⟩ := h.cons
 obtain ⟨q3, q4, h⟩ := h.cons
 obtain ⟨q5, q6, h⟩ := h.cons
 obtain ⟨q7, q8, h⟩ := h.cons
 have e1 := hexD_L ha.1 ha.2
 have e2 := hexD_L hb.1 hb.2
 have e3 := hexD_L hc.1 hc.2
 have e4 := hexD_L hd.1 hd.2
 unfold fourS
 rw [four_go q1 (by rw [q2, e1]; exact ha.1), four_go q3 (by rw [q4, e2]; exact hb.1), four_go q5 (by rw [q6, e3]; exact hc.1), four_go q7 (by rw [q8, e4]; exact hd.1), q2, q4, q6, q8, e1, e2, e3, e4, fourN]
 congr 1; omega
theorem Rem.esc1 {s : ByteArray} {k : Nat} {c v : Int} {r : List Int} (h : Rem s k (c :: r)) (hc : (c = 34 ∧ v = 34) ∨ (c = 92 ∧ v = 92) ∨ (c = 98 ∧ v = 8) ∨ (c = 102 ∧ v = 12) ∨ (c = 110 ∧ v = 10) ∨ (c = 114 ∧ v = 13) ∨ (c = 116 ∧ v = 9)) : escB s k = some ([v], k + 1) := by
 obtain ⟨h1, h2, _⟩ := h.cons
 unfold escB
 rw [h.take, decide_eq_false (by omega), if_neg (by decide), if_pos h1, h2]
 rcases hc with ⟨rfl, rfl⟩ | ⟨rfl, rfl⟩ | ⟨rfl, rfl⟩ | ⟨rfl, rfl⟩ | ⟨rfl, rfl⟩ | ⟨rfl, rfl⟩ | ⟨rfl, rfl⟩ <;> rfl
theorem Rem.escU {s : ByteArray} {k : Nat} {c : Int} {r : List Int} (h : Rem s k (117 :: 48 :: 48 :: hexL (c / 16) :: hexL (c % 16) :: r)) (h0 : 0 ≤ c) (hc : c < 32) : escB s k = some ([c], k + 5) := by
 have h2 := (h.cons).2.2
 have hf : fourS s (k + 1) = some c := by
  have := Rem.four (a := 0) (b := 0) (c := c / 16) (d := c % 16) h2 (by omega) (by omega) (by omega) (by omega)
  rw [this]; congr 1; omega
 unfold escB
 rw [h.take, decide_eq_true rfl, if_pos rfl]
 unfold escR
 rw [hf]
 dsimp only
 rw [if_pos (by omega)]
 dsimp only
 rw [if_pos (by unfold isRuneB; simp; omega), encI1 (by omega)]
theorem Rem.qNs {s : ByteArray} : ∀ (l : List Int) (f k : Nat) (out r : List Int), (∀ c ∈ l, 0 ≤ c) → Rem s k (l.flatMap escJ ++ (34 :: r)) → s.size - k < f → ∃ k', qN s f k out = some (out ++ l, k') ∧ Rem s k' r
  | _, 0, _, _, _, _, _, hf => by omega
  | [], f + 1, k, out, r, _, h, hf => by
    obtain ⟨h1, h2, h3⟩ := Rem.cons (show Rem s k (34 :: r) from h)
    exact ⟨k + 1, by rw [qN_q h1 h2.symm (by decide) rfl rfl, List.append_nil], h3⟩
  | c :: l, f + 1, k, out, r, hp, h, hf => by
    have h0 := hp c (.head _)
    have hl : ∀ x ∈ l, 0 ≤ x := fun x hx => hp x (.tail _ hx)
    rw [List.flatMap_cons, List.append_assoc] at h
    have step : ∀ {e : List Int} {v : Int} {m : Nat}, Rem s k (92 :: (e ++ (l.flatMap escJ ++ (34 :: r)))) → e.length = m → escB s (k + 1) = some ([v], k + 1 + m) → v = c → ∃ k', qN s (f + 1) k out = some (out ++ c :: l, k') ∧ Rem s k' r := by
      intro e v m hr he hb hv
      subst hv he
      obtain ⟨q1, q2, q3⟩ := hr.cons
      have q4 := q3.app
      obtain ⟨k', e1, e2⟩ := Rem.qNs l f (k + 1 + e.length) (out ++ [v]) r hl q4 (by omega)
      exact ⟨k', by rw [qN_e1 q1 q2.symm (by decide) (by decide) rfl rfl hb, e1, List.append_assoc]; rfl, e2⟩
    unfold escJ at h
    split at h
    · rename_i hc
      exact step (e := [c]) h rfl ((Rem.cons h).2.2.esc1 (v := c) (by omega)) rfl
    split at h
    · rename_i _ hc; exact step (e := [98]) h rfl ((Rem.cons h).2.2.esc1 (v := 8) (by omega)) hc.symm
    split at h
    · rename_i _ _ hc; exact step (e := [116]) h rfl ((Rem.cons h).2.2.esc1 (v := 9) (by omega)) hc.symm
    split at h
    · rename_i _ _ _ hc; exact step (e := [110]) h rfl ((Rem.cons h).2.2.esc1 (v := 10) (by omega)) hc.symm
    split at h
    · rename_i _ _ _ _ hc; exact step (e := [102]) h rfl ((Rem.cons h).2.2.esc1 (v := 12) (by omega)) hc.symm
    split at h
    · rename_i _ _ _ _ _ hc; exact step (e := [114]) h rfl ((Rem.cons h).2.2.esc1 (v := 13) (by omega)) hc.symm
    split at h
    · rename_i _ _ _ _ _ _ hc
      exact step (e := [117, 48, 48, hexL (c / 16), hexL (c % 16)]) h rfl ((Rem.cons h).2.2.escU h0 hc) rfl
    · rename_i n1 _ _ _ _ _ n7
      obtain ⟨q1, q2, q3⟩ := Rem.cons (show Rem s k (c :: (l.flatMap escJ ++ (34 :: r))) from h)
      obtain ⟨k', e1, e2⟩ := Rem.qNs l f (k + 1) (out ++ [c]) r hl q3 (by omega)
      exact ⟨k', by rw [qN_d q1 q2.symm (by omega) (by omega) (by omega) rfl, e1, List.append_assoc]; rfl, e2⟩
theorem Rem.quo {s : ByteArray} {k : Nat} {t : ByteArray} {r : List Int} (h : Rem s k (quoJ t ++ r)) : takeS s k 34 = true ∧ ∃ k', quoS s k = some (sb t, k') ∧ Rem s k' r := by
 unfold quoJ at h
 rw [List.cons_append, List.append_assoc] at h
 refine ⟨by rw [h.take]; rfl, ?_⟩
 have := Rem.qNs (s := s) (sb t) (s.size + 1) (k + 1) [] r (fun c hc => (sb_bytes t c hc).1) h.cons.2.2 (by omega)
 exact this
-- numbers
def valL : List Int → Int
 | [] => 0
 | c :: l => (c - 48) * 10 ^ l.length + valL l
theorem valL_app (l : List Int) (d : Int) : valL (l ++ [d]) = valL l * 10 + (d - 48) := by
 induction l with
 | nil => simp [valL]
 | cons c l ih =>
  simp only [List.cons_append, valL, ih, List.length_append, List.length_singleton, Int.pow_succ, Int.add_mul, Int.mul_assoc]
  omega
theorem dig_u {u : Nat} (h : u < 10) : ((UInt8.ofNat (48 + u)).toNat : Int) = 48 + u := by
 rw [UInt8.toNat_ofNat']
 omega
theorem decL_spec (u : Nat) : (∀ c ∈ decL u, isDig c = true) ∧ valL (decL u) = u ∧ ∃ c l, decL u = c :: l ∧ (c = 48 → u = 0 ∧ l = []) := by
  induction u using Nat.strongRecOn with
  | _ u ih =>
    have dg : ∀ n : Nat, n < 10 → isDig (48 + (n : Int)) = true := fun n hn => by unfold isDig; rw [decide_eq_true (by omega), decide_eq_true (by omega)]; rfl
    by_cases h : u < 10
    · have e : decL u = [48 + (u : Int)] := by unfold decL; rw [Lib.decDigits, dif_pos h, List.map_cons, dig_u h]; rfl
      rw [e]
      refine ⟨fun c hc => ?_, ?_, _, _, rfl, fun hc => ⟨by omega, rfl⟩⟩
      · rw [List.mem_singleton.1 hc]; exact dg u h
      · simp [valL]; omega
    · have e : decL u = decL (u / 10) ++ [48 + ((u % 10 : Nat) : Int)] := by
        unfold decL
        rw [Lib.decDigits, dif_neg h, List.map_append, List.map_cons, dig_u (Nat.mod_lt _ (by decide))]; rfl
      obtain ⟨h1, h2, c, l, h3, h4⟩ := ih (u / 10) (by omega)
      rw [e]
      refine ⟨fun x hx => ?_, ?_, c, l ++ [48 + ((u % 10 : Nat) : Int)], by rw [h3]; rfl, fun hc => ?_⟩
      · rcases List.mem_append.1 hx with hx | hx
        · exact h1 x hx
        · rw [List.mem_singleton.1 hx]; exact dg _ (Nat.mod_lt _ (by decide))
      · rw [valL_app, h2]; omega
      · have := (h4 hc).1; omega
theorem Rem.dig {s : ByteArray} {r : List Int} (hr : Tail r) : ∀ (l : List Int) (k : Nat), (∀ c ∈ l, isDig c = true) → Rem s k (l ++ r) → digS s k = k + l.length
  | [], k, _, h => by
    refine dig_stop fun ⟨q1, q2⟩ => ?_
    rcases hr with rfl | ⟨c, l, rfl, hc⟩
    · have := Rem.nil h; omega
    · rw [(Rem.cons h).2.1] at q2
      rcases hc with rfl | rfl | rfl <;> revert q2 <;> decide
  | c :: l, k, hl, h => by
    obtain ⟨h1, h2, h3⟩ := Rem.cons h
    rw [dig_go h1 (by rw [h2]; exact hl c (.head _)), Rem.dig hr l (k + 1) (fun x hx => hl x (.tail _ hx)) h3, List.length_cons]; omega
theorem isDig_le {c : Int} (h : isDig c = true) : 48 ≤ c ∧ c ≤ 57 := by
 unfold isDig at h
 rw [Bool.and_eq_true, decide_eq_true_eq, decide_eq_true_eq] at h
 exact h
theorem valL_nn : ∀ l : List Int, (∀ c ∈ l, isDig c = true) → 0 ≤ valL l
 | [], _ => Int.le_refl _
 | c :: l, h => by
  have h1 := valL_nn l fun x hx => h x (.tail _ hx)
  have h2 := isDig_le (h c (.head _))
  have h3 : (0 : Int) ≤ 10 ^ l.length := Int.le_of_lt (Int.pow_pos (by decide))
  have := Int.mul_nonneg (a := c - 48) (by omega) h3
  unfold valL; omega
theorem Rem.acc {s : ByteArray} {r : List Int} : ∀ (l : List Int) (k : Nat) (n : Int), (∀ c ∈ l, isDig c = true) → Rem s k (l ++ r) → 0 ≤ n → n * 10 ^ l.length + valL l ≤ 9007199254740991 → accN s l.length k n = some (n * 10 ^ l.length + valL l)
 | [], k, n, _, _, _, _ => by simp [accN, valL]
 | c :: l, k, n, hl, h, hn, hm => by
  obtain ⟨h1, h2, h3⟩ := Rem.cons h
  have hd := isDig_le (hl c (.head _))
  have hl2 : ∀ x ∈ l, isDig x = true := fun x hx => hl x (.tail _ hx)
  have hp : (1 : Int) ≤ 10 ^ l.length := Int.pow_pos (by decide)
  have e : n * 10 ^ (c :: l).length + valL (c :: l) = (n * 10 + (c - 48)) * 10 ^ l.length + valL l := by
   simp only [List.length_cons, Int.pow_succ, valL, Int.add_mul, Int.mul_assoc]
   rw [Int.mul_comm 10]; omega
  have hv := valL_nn l hl2
  rw [e] at hm ⊢
  have hn2 : 0 ≤ n * 10 + (c - 48) := by omega
  have hle : n * 10 + (c - 48) ≤ (n * 10 + (c - 48)) * 10 ^ l.length := by
   have := Int.mul_le_mul_of_nonneg_left hp hn2
   omega
  rw [List.length_cons, accN, h2, if_neg (by omega)]
  exact Rem.acc l (k + 1) _ hl2 h3 hn2 hm
theorem Rem.numTs {s : ByteArray} {r : List Int} (hr : Tail r) (m : Bool) (u k : Nat) (hu : u ≤ 9007199254740991) (hm : m = true → u ≠ 0) (h : Rem s k (decL u ++ r)) : ∃ k', numT s m k = .ok (if m = true then -(u : Int) else u, k') ∧ Rem s k' r := by
  obtain ⟨d1, d2, c, l, d3, d4⟩ := decL_spec u
  have hc := d1 c (by rw [d3]; exact .head _)
  have hh : Rem s k (c :: (l ++ r)) := by rw [d3] at h; exact h
  obtain ⟨q1, q2, q3⟩ := hh.cons
  by_cases h48 : c = 48
  · obtain ⟨rfl, rfl⟩ := d4 h48
    cases m with
    | true => exact absurd rfl (hm rfl)
    | false => exact ⟨k + 1, numT_z ⟨q1, by rw [q2]; exact h48⟩ rfl, q3⟩
  · have hd := Rem.dig hr _ k d1 h
    have hl : 0 < (decL u).length := by rw [d3]; exact Nat.succ_pos _
    have ha := Rem.acc (decL u) k 0 d1 h (Int.le_refl _) (by rw [d2]; omega)
    rw [d2] at ha
    exact ⟨digS s k, numT_s (fun ⟨_, q⟩ => h48 (by rw [← q2]; exact q)) (by omega) (by rw [hd, Nat.add_sub_cancel_left, ha, Int.zero_mul, Int.zero_add]), by rw [hd]; exact h.app⟩
theorem Rem.num {s : ByteArray} {r : List Int} (hr : Tail r) (n : Int) (k : Nat) (h0 : -9007199254740991 ≤ n) (h1 : n ≤ 9007199254740991) (h : Rem s k (numJ n ++ r)) : ∃ k', numR s k = .ok (leafS 3 n ⟨#[]⟩, k') ∧ Rem s k' r := by
  have q : ∃ k', numS s k = .ok (n, k') ∧ Rem s k' r := by
    unfold numJ at h
    split at h
    · rename_i hn
      have ht : takeS s k 45 = true := by rw [Rem.take h]; rfl
      obtain ⟨k', e1, e2⟩ := Rem.numTs hr true n.natAbs (k + 1) (by omega) (fun _ => by omega) (Rem.cons h).2.2
      exact ⟨k', by rw [numS_t ht rfl, e1, if_pos rfl]; congr 2; omega, e2⟩
    · rename_i hn
      obtain ⟨k', e1, e2⟩ := Rem.numTs hr false n.toNat k (by omega) (fun q => by cases q) h
      obtain ⟨d1, _, c, l, d3, _⟩ := decL_spec n.toNat
      have ht : takeS s k 45 = false := by
        rw [d3] at h
        rw [Rem.take h]
        exact decide_eq_false fun e => by have := isDig_le (d1 c (by rw [d3]; exact .head _)); omega
      exact ⟨k', by rw [numS_f ht, e1, if_neg (by decide)]; congr 2; omega, e2⟩
  obtain ⟨k', e1, e2⟩ := q
  exact ⟨k', by unfold numR; rw [e1], e2⟩
-- words
theorem Rem.word {s : ByteArray} {k : Nat} {r : List Int} (w : ByteArray) (h : Rem s k (sb w ++ r)) : wordS s w k = true ∧ Rem s (k + w.size) r := by
  constructor
  · unfold wordS
    rw [List.all_eq_true]
    intro i hi
    rw [List.mem_range] at hi
    have e : sb w ++ r = (sb w).take i ++ (atS w i :: ((sb w).drop (i + 1) ++ r)) := by
      have e1 := sb_at hi
      have hl : i < (sb w).length := by rw [sb_length]; exact hi
      rw [List.getElem?_eq_getElem hl] at e1
      rw [← List.cons_append, ← Option.some.inj e1, ← List.drop_eq_getElem_cons hl, ← List.append_assoc, List.take_append_drop]
    rw [e] at h
    have := h.app
    rw [List.length_take, sb_length, Nat.min_eq_left (by omega)] at this
    rw [this.take]; exact decide_eq_true rfl
  · have := h.app; rw [sb_length] at this; exact this
-- values
def Goods (c : Int) : Prop := isBlank c = false ∧ c ≠ 93 ∧ c ≠ 125 ∧ c ≠ 44
theorem head_leaf (j : Js) : ∃ c l, leafP j = c :: l ∧ Goods c := by
  unfold leafP
  split
  · exact ⟨_, _, rfl, by unfold Goods; decide⟩
  split
  · exact ⟨_, _, rfl, by unfold Goods; decide⟩
  split
  · unfold numJ
    split
    · exact ⟨_, _, rfl, by unfold Goods; decide⟩
    · obtain ⟨d1, _, c, l, d3, _⟩ := decL_spec j.num.toNat
      obtain ⟨h1, h2⟩ := isDig_le (d1 c (by rw [d3]; exact .head _))
      exact ⟨c, l, d3, by unfold isBlank; rw [decide_eq_false (by omega), decide_eq_false (by omega), decide_eq_false (by omega), decide_eq_false (by omega)]; rfl, by omega, by omega, by omega⟩
  split
  · exact ⟨_, _, rfl, by unfold Goods; decide⟩
  · exact ⟨_, _, rfl, by unfold Goods; decide⟩
theorem head_pr (n : Nat) (j : Js) : ∃ c l, prJ n j = c :: l ∧ Goods c := by
 cases n with
 | zero => exact head_leaf j
 | succ n =>
  unfold prJ
  split
  · exact ⟨_, _, rfl, by unfold Goods; decide⟩
  split
  · exact ⟨_, _, rfl, by unfold Goods; decide⟩
  · exact head_leaf j
theorem leaf_cases {j : Js} (h : leafJ upB j = true) : j.names = [] ∧ j.items = [] ∧ ((j.kind = 3 ∧ j.text = ⟨#[]⟩ ∧ -9007199254740991 ≤ j.num ∧ j.num ≤ 9007199254740991) ∨ (j.kind = 4 ∧ j.num = 0 ∧ upB j.text = true) ∨ ((j.kind = 0 ∨ j.kind = 1 ∨ j.kind = 2) ∧ j.num = 0 ∧ j.text = ⟨#[]⟩)) := by
  unfold leafJ at h
  rw [Bool.and_eq_true, Bool.and_eq_true, decide_eq_true_eq, decide_eq_true_eq] at h
  refine ⟨h.1.1, h.1.2, ?_⟩
  replace h := h.2
  split at h
  · rename_i h3
    simp only [Bool.and_eq_true, decide_eq_true_eq] at h
    exact .inl ⟨h3, h.1, h.2.1, h.2.2⟩
  split at h
  · rename_i _ h4
    simp only [Bool.and_eq_true, decide_eq_true_eq] at h
    exact .inr (.inl ⟨h4, h.1, h.2⟩)
  · simp only [Bool.and_eq_true, Bool.or_eq_true, decide_eq_true_eq] at h
    exact .inr (.inr ⟨by rcases h.2 with (h | h) | h <;> simp [h], h.1.1, h.1.2⟩)
theorem node_cases {j : Js} (h : nodeJ upB j = true) : j.num = 0 ∧ j.text = ⟨#[]⟩ ∧ ((j.kind = 5 ∧ j.names = []) ∨ (j.kind = 6 ∧ j.names.length = j.items.length ∧ risesJ j.names = true)) := by
 unfold nodeJ at h
 simp only [Bool.and_eq_true, Bool.or_eq_true, decide_eq_true_eq] at h
 exact ⟨h.1.1, h.1.2, h.2.imp (fun q => q) (fun q => ⟨q.1, q.2.1, q.2.2.1⟩)⟩
theorem js_eta {j : Js} {k n : Int} {t : ByteArray} {ns : List ByteArray} {l : List Js} (h1 : j.kind = k) (h2 : j.num = n) (h3 : j.text = t) (h4 : j.names = ns) (h5 : j.items = l) : j = .mk k n t ns l := by
 subst h1 h2 h3 h4 h5; cases j; rfl
section
variable {j : Js}
theorem leafP_0 (h : j.kind = 0) : leafP j = [110, 117, 108, 108] := by unfold leafP; rw [if_neg (by omega), if_neg (by omega), if_neg (by omega), if_neg (by omega)]
theorem leafP_1 (h : j.kind = 1) : leafP j = [116, 114, 117, 101] := by unfold leafP; rw [if_pos h]
theorem leafP_2 (h : j.kind = 2) : leafP j = [102, 97, 108, 115, 101] := by unfold leafP; rw [if_neg (by omega), if_pos h]
theorem leafP_3 (h : j.kind = 3) : leafP j = numJ j.num := by unfold leafP; rw [if_neg (by omega), if_neg (by omega), if_pos h]
theorem leafP_4 (h : j.kind = 4) : leafP j = quoJ j.text := by unfold leafP; rw [if_neg (by omega), if_neg (by omega), if_neg (by omega), if_pos h]
theorem prJ_5 {n : Nat} (h : j.kind = 5) : prJ (n + 1) j = 91 :: (commaJ (j.items.map (prJ n)) ++ [93]) := by rw [prJ, if_pos h]
theorem prJ_6 {n : Nat} (h : j.kind = 6) : prJ (n + 1) j = 123 :: (commaJ ((j.names.zip j.items).map fun p => quoJ p.1 ++ (58 :: prJ n p.2)) ++ [125]) := by rw [prJ, if_neg (by omega), if_pos h]
end
theorem leaf_val {s : ByteArray} {k : Nat} {r : List Int} (hr : Tail r) {j : Js} (hj : leafJ upB j = true) (dp : Nat) (rl ro : Except Int (Js × Nat)) (h : Rem s k (leafP j ++ r)) : ∃ k', valB s dp rl ro k = .ok (j, k') ∧ Rem s k' r := by
  have val : ∀ {c : Int} {l : List Int}, Rem s k (c :: l) → valB s dp rl ro k = valC s dp rl ro k c := fun {c l} q => by
    obtain ⟨q1, q2, _⟩ := q.cons
    exact valB_c (fun _ => q2.symm) (fun q3 => by omega)
  have word : ∀ (w : ByteArray) (kd : Int), Rem s k (sb w ++ r) → ∃ k', wordR s w kd k = .ok (leafS kd 0 ⟨#[]⟩, k') ∧ Rem s k' r := fun w kd q => by
    obtain ⟨q1, q2⟩ := Rem.word w q
    exact ⟨_, by unfold wordR; rw [q1, if_pos rfl], q2⟩
  obtain ⟨hn, hi, ⟨h3, ht, h4, h5⟩ | ⟨h3, h4, hu⟩ | ⟨hk, h4, ht⟩⟩ := leaf_cases hj
  · rw [leafP_3 h3] at h
    obtain ⟨k', e1, e2⟩ := Rem.num hr j.num k h4 h5 h
    have hd : ∃ c l, numJ j.num ++ r = c :: l ∧ (c = 45 ∨ (48 ≤ c ∧ c ≤ 57)) := by
      unfold numJ
      split
      · exact ⟨_, _, rfl, .inl rfl⟩
      · obtain ⟨d1, _, c, l, d3, _⟩ := decL_spec j.num.toNat
        exact ⟨c, l ++ r, by rw [d3]; rfl, .inr (isDig_le (d1 c (by rw [d3]; exact .head _)))⟩
    obtain ⟨c, l, e3, e4⟩ := hd
    refine ⟨k', ?_, e2⟩
    rw [val (e3 ▸ h), valC_n e4, e1, js_eta h3 rfl ht hn hi]; rfl
  · rw [leafP_4 h3] at h
    obtain ⟨e0, k', e1, e2⟩ := Rem.quo h
    refine ⟨k', ?_, e2⟩
    rw [val (show Rem s k (34 :: ((sb j.text).flatMap escJ ++ [34] ++ r)) from by unfold quoJ at h; exact h), valC_q rfl]
    unfold quoR
    rw [e1]
    show Except.ok (leafS 4 0 (strOfNums (sb j.text)), k') = _
    rw [strOf_sb, show leafS 4 0 j.text = j from (js_eta h3 h4 rfl hn hi).symm]
  · rcases hk with h3 | h3 | h3
    · rw [leafP_0 h3] at h
      obtain ⟨k', e1, e2⟩ := word ⟨#[110, 117, 108, 108]⟩ 0 h
      exact ⟨k', by rw [val (c := 110) (l := 117 :: 108 :: 108 :: r) h, valC_w0 rfl, e1, show leafS 0 0 ⟨#[]⟩ = j from (js_eta h3 h4 ht hn hi).symm], e2⟩
    · rw [leafP_1 h3] at h
      obtain ⟨k', e1, e2⟩ := word ⟨#[116, 114, 117, 101]⟩ 1 h
      exact ⟨k', by rw [val (c := 116) (l := 114 :: 117 :: 101 :: r) h, valC_w1 rfl, e1, show leafS 1 0 ⟨#[]⟩ = j from (js_eta h3 h4 ht hn hi).symm], e2⟩
    · rw [leafP_2 h3] at h
      obtain ⟨k', e1, e2⟩ := word ⟨#[102, 97, 108, 115, 101]⟩ 2 h
      exact ⟨k', by rw [val (c := 102) (l := 97 :: 108 :: 115 :: 101 :: r) h, valC_w2 rfl, e1, show leafS 2 0 ⟨#[]⟩ = j from (js_eta h3 h4 ht hn hi).symm], e2⟩
abbrev ReadsP (s : ByteArray) (vs : Nat → Except Int (Js × Nat)) (pr : Js → List Int) (ok : Js → Prop) : Prop := ∀ (j : Js) (k : Nat) (r : List Int), ok j → Tail r → Rem s k (pr j ++ r) → ∃ k', vs k = .ok (j, k') ∧ Rem s k' r
theorem tail_c {l : List Int} {c : Int} (h : c = 44 ∨ c = 93 ∨ c = 125) : Tail (c :: l) := .inr ⟨c, l, rfl, h⟩
theorem Rem.items {s : ByteArray} {vs : Nat → Except Int (Js × Nat)} {pr : Js → List Int} {ok : Js → Prop} (hv : ReadsP s vs pr ok) (hh : ∀ j, ∃ c l, pr j = c :: l ∧ Goods c) : ∀ (x : Js) (l : List Js) (f k : Nat) (st : List Js) (r : List Int), ok x → (∀ y ∈ l, ok y) → Rem s k (commaJ ((x :: l).map pr) ++ (93 :: r)) → s.size - k < f → ∃ k', memL s (oneL vs) 93 f k st = .ok (st ++ x :: l, k') ∧ Rem s k' r
 | _, _, 0, _, _, _, _, _, _, hf => by omega
 | x, l, f + 1, k, st, r, hx, hl, h, hf => by
  obtain ⟨c, e, h1, h2⟩ := hh x
  have hb : blankS s k = k := by
   rw [List.map_cons, commaJ, h1, List.cons_append, List.cons_append] at h
   exact h.blank h2.1
  rw [List.map_cons, commaJ, List.append_assoc] at h
  cases l with
  | nil =>
   obtain ⟨k', e1, e2⟩ := hv x k (93 :: r) hx (tail_c (by decide)) h
   refine ⟨k' + 1, memL_0 hb.symm (st' := st ++ [x]) (k2 := k') (by unfold oneL; rw [e1]) (e2.blank (by decide)).symm (by rw [e2.take]; rfl) rfl, e2.cons.2.2⟩
  | cons y l =>
   rw [List.map_cons, List.flatMap_cons, List.append_assoc, List.cons_append] at h
   obtain ⟨k', e1, e2⟩ := hv x k _ hx (tail_c (by decide)) h
   obtain ⟨p1, p2, p3⟩ := e2.cons
   have hk : k < k' := by
    have e4 := (Rem.cons (show Rem s k (c :: (e ++ _)) from by rw [h1, List.cons_append] at h; exact h)).1
    have l1 := congrArg List.length h.2
    have l2 := congrArg List.length e2.2
    rw [List.length_drop, sb_length] at l1 l2
    rw [List.length_append, h1, List.length_cons] at l1
    omega
   obtain ⟨k2, e3, e4⟩ := Rem.items hv hh y l f (k' + 1) (st ++ [x]) r (hl y (.head _)) (fun z hz => hl z (.tail _ hz)) (by rw [List.map_cons, commaJ, List.append_assoc]; exact p3) (by omega)
   exact ⟨k2, by rw [memL_c hb.symm (st' := st ++ [x]) (k2 := k') (by unfold oneL; rw [e1]) (e2.blank (by decide)).symm (by rw [e2.take]; rfl) (by rw [e2.take]; rfl) rfl, e3, List.append_assoc]; rfl, e4⟩
theorem Rem.list {s : ByteArray} {vs : Nat → Except Int (Js × Nat)} {pr : Js → List Int} {ok : Js → Prop} (hv : ReadsP s vs pr ok) (hh : ∀ j, ∃ c l, pr j = c :: l ∧ Goods c) (l : List Js) (k : Nat) (r : List Int) (hl : ∀ y ∈ l, ok y) (h : Rem s k (91 :: (commaJ (l.map pr) ++ [93]) ++ r)) : ∃ k', listS s vs k = .ok (.mk 5 0 ⟨#[]⟩ [] l, k') ∧ Rem s k' r := by
 rw [List.cons_append, List.append_assoc] at h
 obtain ⟨q1, q2, q3⟩ := h.cons
 have : ∃ k', memS s (oneL vs) 93 k [] = .ok (l, k') ∧ Rem s k' r := by
  cases l with
  | nil => exact ⟨k + 1 + 1, memS_0 rfl (Rem.blank q3 (by decide)).symm (by rw [Rem.take q3]; rfl) rfl, (Rem.cons q3).2.2⟩
  | cons x l =>
   obtain ⟨c, e, h1, h2⟩ := hh x
   have q4 : Rem s (k + 1) (c :: (e ++ ((l.map pr).flatMap (fun y => 44 :: y) ++ (93 :: r)))) := by
    rw [List.map_cons, commaJ, h1, List.cons_append, List.cons_append, List.append_assoc] at q3; exact q3
   obtain ⟨k', e1, e2⟩ := Rem.items hv hh x l (s.size + 1) (k + 1) [] r (hl x (.head _)) (fun y hy => hl y (.tail _ hy)) q3 (by omega)
   exact ⟨k', by rw [memS_1 rfl (q4.blank h2.1).symm (by rw [q4.take]; exact decide_eq_false h2.2.1), e1]; rfl, e2⟩
 obtain ⟨k', e1, e2⟩ := this
 exact ⟨k', by unfold listS; rw [e1], e2⟩
theorem lbT_end {x : ByteArray} {l : List ByteArray} (h : ∀ a ∈ l, sless a x = true) : lbT x l = l.length := lbT_eq (Nat.le_refl _) (fun q a _ hq => h a (List.mem_of_getElem? hq)) (fun a ha => by rw [List.getElem?_eq_none (Nat.le_refl _)] at ha; cases ha)
theorem insA_end {α : Type} (x : α) (l : List α) : insA l.length x l = l ++ [x] := by unfold insA; simp
theorem Rem.pairs {s : ByteArray} {vs : Nat → Except Int (Js × Nat)} {pr : Js → List Int} {ok : Js → Prop} (hv : ReadsP s vs pr ok) (hh : ∀ j, ∃ c l, pr j = c :: l ∧ Goods c) : ∀ (x : ByteArray × Js) (l : List (ByteArray × Js)) (f k : Nat) (st : StO) (r : List Int), st.1.length = st.2.length → ok x.2 → (∀ y ∈ l, ok y.2) → Rises (st.1 ++ (x :: l).map Prod.fst) → Rem s k (commaJ ((x :: l).map fun p => quoJ p.1 ++ (58 :: pr p.2)) ++ (125 :: r)) → s.size - k < f → ∃ k', memL s (pairS s vs) 125 f k st = .ok ((st.1 ++ (x :: l).map Prod.fst, st.2 ++ (x :: l).map Prod.snd), k') ∧ Rem s k' r
 | _, _, 0, _, _, _, _, _, _, _, _, hf => by omega
 | x, l, f + 1, k, st, r, hsl, hx, hl, hr, h, hf => by
  obtain ⟨c, e, h1, h2⟩ := hh x.2
  have hb : blankS s k = k := by
   rw [List.map_cons, commaJ, quoJ, List.cons_append, List.cons_append, List.cons_append] at h
   exact h.blank (by decide)
  rw [List.map_cons, commaJ, List.append_assoc, List.append_assoc, List.cons_append] at h
  obtain ⟨p1, k1, p2, p3⟩ := Rem.quo h
  obtain ⟨p4, p5, p6⟩ := p3.cons
  have hlt : ∀ a ∈ st.1, sless a x.1 = true := fun a ha => (List.pairwise_append.1 hr).2.2 a ha x.1 (.head _)
  have hn : ¬ st.1[st.1.length]? = some x.1 := by rw [List.getElem?_eq_none (Nat.le_refl _)]; intro q; cases q
  have hb4 : blankS s (k1 + 1) = k1 + 1 := by
   rw [h1, List.cons_append] at p6; exact p6.blank h2.1
  have pair : ∀ {k5 : Nat}, vs (k1 + 1) = .ok (x.2, k5) → pairS s vs k st = .ok ((st.1 ++ [x.1], st.2 ++ [x.2]), k5) := fun {k5} q => by
   rw [pairS_n p1 p2 (nm := x.1) (strOf_sb _).symm, pairN_k (lbT_end hlt).symm hn (p3.blank (by decide)).symm (by rw [p3.take]; rfl) rfl hb4.symm q, insA_end, hsl, insA_end]
  have hkk : k < k1 + 1 := by
   have l1 := congrArg List.length h.2
   have l2 := congrArg List.length p3.2
   rw [List.length_drop, sb_length] at l1 l2
   rw [List.length_append] at l1
   omega
  cases l with
  | nil =>
   obtain ⟨k', e1, e2⟩ := hv x.2 (k1 + 1) (125 :: r) hx (tail_c (by decide)) p6
   exact ⟨k' + 1, memL_0 hb.symm (pair e1) (e2.blank (by decide)).symm (by rw [e2.take]; rfl) rfl, e2.cons.2.2⟩
  | cons y l =>
   rw [List.map_cons, List.flatMap_cons, List.append_assoc, List.cons_append] at p6
   obtain ⟨k', e1, e2⟩ := hv x.2 (k1 + 1) _ hx (tail_c (by decide)) p6
   obtain ⟨q1, q2, q3⟩ := e2.cons
   have hk : k1 + 1 ≤ k' := by
    have l1 := congrArg List.length p6.2
    have l2 := congrArg List.length e2.2
    rw [List.length_drop, sb_length] at l1 l2
    rw [List.length_append] at l1
    omega
   obtain ⟨k2, e3, e4⟩ := Rem.pairs hv hh y l f (k' + 1) (st.1 ++ [x.1], st.2 ++ [x.2]) r (by simp [hsl]) (hl y (.head _)) (fun z hz => hl z (.tail _ hz)) (by simpa using hr) (by rw [List.map_cons, commaJ, List.append_assoc]; exact q3) (by omega)
   refine ⟨k2, ?_, e4⟩
   rw [memL_c hb.symm (pair e1) (e2.blank (by decide)).symm (by rw [e2.take]; rfl) (by rw [e2.take]; rfl) rfl, e3]
   simp
theorem Rem.obj {s : ByteArray} {vs : Nat → Except Int (Js × Nat)} {pr : Js → List Int} {ok : Js → Prop} (hv : ReadsP s vs pr ok) (hh : ∀ j, ∃ c l, pr j = c :: l ∧ Goods c) (l : List (ByteArray × Js)) (k : Nat) (r : List Int) (hl : ∀ y ∈ l, ok y.2) (hr : Rises (l.map Prod.fst)) (h : Rem s k (123 :: (commaJ (l.map fun p => quoJ p.1 ++ (58 :: pr p.2)) ++ [125]) ++ r)) : ∃ k', objS s vs k = .ok (.mk 6 0 ⟨#[]⟩ (l.map Prod.fst) (l.map Prod.snd), k') ∧ Rem s k' r := by
 rw [List.cons_append, List.append_assoc] at h
 obtain ⟨q1, q2, q3⟩ := h.cons
 have : ∃ k', memS s (pairS s vs) 125 k ([], []) = .ok ((l.map Prod.fst, l.map Prod.snd), k') ∧ Rem s k' r := by
  cases l with
  | nil => exact ⟨k + 1 + 1, memS_0 rfl (Rem.blank q3 (by decide)).symm (by rw [Rem.take q3]; rfl) rfl, (Rem.cons q3).2.2⟩
  | cons x l =>
   have q4 : ∃ e, Rem s (k + 1) (34 :: e) := by
    rw [List.map_cons, commaJ, quoJ, List.cons_append, List.cons_append, List.cons_append] at q3; exact ⟨_, q3⟩
   obtain ⟨e, q4⟩ := q4
   obtain ⟨k', e1, e2⟩ := Rem.pairs hv hh x l (s.size + 1) (k + 1) ([], []) r rfl (hl x (.head _)) (fun y hy => hl y (.tail _ hy)) (by simpa using hr) q3 (by omega)
   exact ⟨k', by rw [memS_1 rfl (q4.blank (by decide)).symm (by rw [q4.take]; rfl), e1]; rfl, e2⟩
 obtain ⟨k', e1, e2⟩ := this
 exact ⟨k', by unfold objS; rw [e1], e2⟩
theorem leaf_pr {n : Nat} {j : Js} (h : leafJ upB j = true) : prJ n j = leafP j := by
 have := leaf_kind h
 cases n with
 | zero => rfl
 | succ n => unfold prJ; rw [if_neg (fun q => this (.inl q)), if_neg (fun q => this (.inr q))]
theorem read_pr (s : ByteArray) : ∀ m, m ≤ 12 → ReadsP s (valD s m) (prJ m) (fun j => rightJ upB m j = true)
  | 0, _ => fun j k r hj hr h => leaf_val hr hj 12 _ _ h
  | m + 1, hm => fun j k r hj hr h => by
    have ih := read_pr s m (by omega)
    replace hj : rightJ upB (m + 1) j = true := hj
    rw [rightJ, Bool.or_eq_true] at hj
    rcases hj with hj | hj
    · rw [leaf_pr hj] at h; exact leaf_val hr hj _ _ _ h
    · rw [Bool.and_eq_true, List.all_eq_true] at hj
      obtain ⟨hn, hi⟩ := hj
      have hd : ¬ 12 - (m + 1) = 12 := by omega
      have val : ∀ {c : Int} {l : List Int} (rl ro : Except Int (Js × Nat)), Rem s k (c :: l) → valB s (12 - (m + 1)) rl ro k = valC s (12 - (m + 1)) rl ro k c := fun {c l} rl ro q => by
        obtain ⟨q1, q2, _⟩ := q.cons
        exact valB_c (fun _ => q2.symm) (fun q3 => by omega)
      obtain ⟨h0, ht, ⟨hk, hns⟩ | ⟨hk, hlen, hri⟩⟩ := node_cases hn
      · rw [prJ_5 hk] at h
        obtain ⟨k', e1, e2⟩ := Rem.list ih (head_pr m) j.items k r hi h
        refine ⟨k', ?_, e2⟩
        show valB s _ _ _ k = _
        rw [val _ _ (show Rem s k (91 :: (commaJ (j.items.map (prJ m)) ++ [93] ++ r)) from h), valC_l rfl]
        unfold nestS
        rw [if_neg hd, e1, ← js_eta hk h0 ht hns rfl]
      · rw [prJ_6 hk] at h
        have z1 : (j.names.zip j.items).map Prod.fst = j.names := List.map_fst_zip (by omega)
        have z2 : (j.names.zip j.items).map Prod.snd = j.items := List.map_snd_zip (by omega)
        obtain ⟨k', e1, e2⟩ := Rem.obj ih (head_pr m) (j.names.zip j.items) k r (fun y hy => hi y.2 (List.of_mem_zip hy).2) (by rw [z1]; exact rises_of_J hri) h
        rw [z1, z2] at e1
        refine ⟨k', ?_, e2⟩
        show valB s _ _ _ k = _
        rw [val _ _ (show Rem s k (123 :: (commaJ ((j.names.zip j.items).map fun p => quoJ p.1 ++ (58 :: prJ m p.2)) ++ [125] ++ r)) from h), valC_o rfl]
        unfold nestS
        rw [if_neg hd, e1, ← js_eta hk h0 ht rfl rfl]
def textJ (j : Js) : List Int := prJ 12 j
theorem par_pr {s : ByteArray} {j : Js} (hj : rightJ upB 12 j = true) (hs : sb s = textJ j) (hz : s.size ≤ 8192) (hu : upB s = true) : parJ s = .ok j := by
 have h0 : Rem s 0 (textJ j ++ []) := ⟨Nat.zero_le _, by rw [List.append_nil, ← hs]; rfl⟩
 obtain ⟨k', e1, e2⟩ := read_pr s 12 (Nat.le_refl _) j 0 [] hj (.inl rfl) h0
 obtain ⟨c, l, h1, h2⟩ := head_pr 12 j
 have hb : blankS s 0 = 0 := by
  unfold textJ at h0
  rw [h1] at h0
  exact h0.blank h2.1
 have hk := e2.nil
 exact parS_t (by omega) hu rfl hb.symm e1 rfl (by rw [e2.blank0, hk]; exact Nat.le_refl _)

def CB (P : Program) (F : FuncId) (args : List Value) (w w1 : World) (R : Value → World → Prop) : Prop := Calls P F args.toArray w1 fun e w' => ∃ v, e = .returned v ∧ R v w' ∧ Below w.heap.size w w'
theorem cb_enter {P : Program} {F : FuncId} {fn : Func} {body : Code} {w w1 : World} {R : Value → World → Prop} {N : Nat} {vs : List Value} (hf : P.funcs[F]? = some fn) (hb : fn.body = some body) (hn : fn.ntmps = N) (hN : decide (vs.length ≤ N) = true) {f : Fl}
  (hfr : (vs.zipIdx.map fun p => (p.2, p.1)) = f) (h : ∀ Q : Exit → Act → World → Prop, (∀ {a W}, finV P fn R w a W → Q .ret a W) → (∀ {a W}, finV P fn R w a W → Q .normal a W) → WC P N body Q f w1) : CB P F vs w w1 R :=
 calls_sx vs f hf hb hn hN hfr.symm (h _ (fun {a W} ⟨h1, v, h2, h3, h4⟩ => ⟨h1, v, h2, v, rfl, h3, h4⟩) (fun {a W} ⟨h1, v, h2, h3, h4⟩ => ⟨h1, v, h2, v, rfl, h3, h4⟩))
theorem CB.mono {P : Program} {F : FuncId} {args : List Value} {w w1 : World} {R R' : Value → World → Prop} (h : CB P F args w w1 R) (hr : ∀ v w', Below w.heap.size w w' → R v w' → R' v w') : CB P F args w w1 R' :=
 Calls.mono h fun e w' ⟨v, he, hR, hb⟩ => ⟨v, he, hr v w' hb hR, hb⟩
section
variable {P : Program} {ops : Array Oper} {o : Oper} {N : Nat} {f : Fl} {w w0 : World} {R : Value → World → Prop} {fn : Func}
theorem cv_ret0 (h : fn.results = #[]) (hR : R (.tuple #[]) w) (hb : Below w0.heap.size w0 w) {a : Act} (ha : Fr N a f) : finV P fn R w0 a w := by
 obtain ⟨x, v, hv, v', he, h1, h2⟩ := fn0 (P := P) (Rr := fun e w' => ∃ v, e = .returned v ∧ R v w' ∧ Below w0.heap.size w0 w') h ⟨_, rfl, hR, hb⟩ ha
 cases he
 exact ⟨x, _, hv, h1, h2⟩
theorem dx_cb {F : FuncId} {fn : Func} {xs : List Operand} {ts : Array TypeId} {vs : List Value} (ho : o.op = .call { callee := .value (.func F), args := xs.toArray, argTypes := ts }) (hf : P.funcs[F]? = some fn) (hn : (fn.name == "runtime.NumGoroutine") = false) (hb : fn.body.isNone = false)
  (hx : evl f xs = some vs) (hc : CB P F vs w0 w R) (hw : wantF ops o f = some true := by rfl) : DR P ops o N f w fun v W => R v W ∧ Below w0.heap.size w0 W :=
 dx_call (cap := #[]) ho rfl hf hn hb hx (by rw [Array.append_empty]; exact Calls.mono hc fun e w' ⟨v, he, h⟩ => ⟨v, he, h⟩) hw
end
theorem EmbAt.below {b P : Nat} {p : Value} {bs : List Value} {m : Int} {w w' : World} (h : EmbAt b P p bs m w) (k : Below w.heap.size w w') : EmbAt b P p bs m w' := by
 obtain ⟨hB, v, hb, hown, hne⟩ := h
 refine ⟨hB, v, (k.block P (emb_lt hb)).trans hb, ?_, hne⟩
 exact hown.kept (row := none) ⟨k.os, k.tape, k.output, k.size, fun i hi _ => k.block i hi⟩ (by
  rcases hv : v.ownBlock with _ | q
  · exact .inl rfl
  · exact .inr (by simp))
theorem PrS.below {b P : Nat} {l : List Int} {m : Int} {w w' : World} (h : PrS b P l m w) (k : Below w.heap.size w w') : PrS b P l m w' := ⟨h.1, h.2.imp (·.below k) (·.below k)⟩
theorem PrS.blk {b P : Nat} {l : List Int} {m : Int} {w : World} (h : PrS b P l m w) : ∃ p v, Blk w P [p, v, .int .i64 m] ∧ p.oneCell' = true ∧ v.oneCell' = true := by
 rcases h.2 with ⟨_, v, hb, hown, _⟩ | ⟨_, v, hb, hown, _⟩
 all_goals
  have hv : v.oneCell' = true := by
   rcases hown.2 with ⟨rfl, _⟩ | ⟨g, cap, cur, rfl, _⟩ <;> rfl
  exact ⟨_, v, ⟨46, hb⟩, rfl, hv⟩
theorem wbyte_v (P : Nat) (l : List Int) (m c : Int) (w w1 : World) (hB : Below w.heap.size w w1) (h : PrS w.heap.size P l m w1) (hl : l.length ≤ 1000000000000) (h0 : 0 ≤ c) (h1 : c ≤ 255) : CB Tryd.prog 44 [selfP P, .int .u8 c] w w1 fun v W => v = .nilIface ∧ PrS w.heap.size P (l ++ [c]) m W :=
 (wbyte_e c h.2 (by rw [List.length_map]; omega) hB.size).mono fun e w' ⟨he, h2, h3⟩ => ⟨_, he, ⟨rfl, h.1.append (fun x hx => by rw [List.mem_singleton.1 hx]; exact ⟨h0, h1⟩), .inr (by rw [List.map_append]; exact h2)⟩, hB.trans h3⟩
theorem strCells_sb (s : ByteArray) : Lib.strCells s = (sb s).map fun n => Value.int .u8 n := by
 unfold Lib.strCells sb
 rw [List.map_map]; rfl
theorem wstr_v (P : Nat) (l : List Int) (m : Int) (s : ByteArray) (w w1 : World) (hB : Below w.heap.size w w1) (h : PrS w.heap.size P l m w1) (hl : l.length ≤ 1000000000000) (hs : s.size ≤ 1000000000000) : CB Tryd.prog 38 [selfP P, .string s] w w1 fun v W => v = .tuple #[.int .i64 (s.size : Int), .nilIface] ∧ PrS w.heap.size P (l ++ sb s) m W :=
 (wstr_e s h.2 (by rw [List.length_map]; omega) hB.size).mono fun e w' ⟨he, h2, h3⟩ => ⟨_, he, ⟨rfl, h.1.append (sb_bytes s), .inr (by rw [List.map_append, ← strCells_sb]; exact h2)⟩, hB.trans h3⟩
theorem blen_v (b P : Nat) (l : List Int) (m : Int) (w : World) (h : PrS b P l m w) : CV Tryd.prog 31 [selfP P] w fun v W => v = .int .i64 (l.length : Int) := by
 have e : ∀ p, EmbAt b P p (l.map fun n => Value.int .u8 n) m w → CV Tryd.prog 31 [selfP P] w fun v W => v = .int .i64 (l.length : Int) := fun p k =>
  (blen_e k).mono fun e w' ⟨he, hw⟩ => ⟨_, he, by rw [List.length_map], by rw [hw]; exact Below.refl _ _⟩
 exact h.2.elim (e _) (e _)
theorem bstr_v (P : Nat) (l : List Int) (m : Int) (w w1 : World) (hB : Below w.heap.size w w1) (h : PrS w.heap.size P l m w1) (h0 : l ≠ []) : CB Tryd.prog 24 [selfP P] w w1 fun v W => v = .string (strOfNums l) := by
 have hl : (l.map fun n => Value.int .u8 n) = Lib.byteCells (sb (strOfNums l) |>.map fun n => UInt8.ofNat n.toNat) := by
  rw [sb_strOf h.1]
  unfold Lib.byteCells
  rw [List.map_map]
  refine List.map_congr_left fun n hn => ?_
  have := h.1 n hn
  simp only [Function.comp]
  rw [show (UInt8.ofNat n.toNat).toNat = n.toNat from by rw [UInt8.toNat_ofNat']; omega]
  congr 1; omega
 have hs : (⟨((sb (strOfNums l)).map fun n => UInt8.ofNat n.toNat).toArray⟩ : ByteArray) = strOfNums l := by
  apply sb_inj
  rw [show sb ⟨((sb (strOfNums l)).map fun n => UInt8.ofNat n.toNat).toArray⟩ = ((sb (strOfNums l)).map fun n => UInt8.ofNat n.toNat).map (fun c => (c.toNat : Int)) from by simp [sb], List.map_map]
  conv => rhs; rw [← List.map_id (sb (strOfNums l))]
  refine List.map_congr_left fun n hn => ?_
  have := sb_bytes _ n hn
  simp only [Function.comp, id]
  rw [UInt8.toNat_ofNat']; omega
 have hne : ((sb (strOfNums l)).map fun n => UInt8.ofNat n.toNat) ≠ [] := by
  rw [sb_strOf h.1]
  cases l with
  | nil => exact absurd rfl h0
  | cons a b => simp
 have e : ∀ p, EmbAt w.heap.size P p (l.map fun n => Value.int .u8 n) m w1 → CB Tryd.prog 24 [selfP P] w w1 fun v W => v = .string (strOfNums l) := fun p k => by
  rw [hl] at k
  exact (bstr_e _ k hne).mono fun e w' ⟨he, hw⟩ => ⟨_, he, by rw [hs], hB.trans hw⟩
 exact h.2.elim (e _) (e _)
def PrK (most K : Int) (b x b' : List Int) : Prop := ((((b.length : Int) + x.length ≤ most) ∧ b' = b ++ x) ∨ (most < (b.length : Int) + x.length ∧ most < (b'.length : Int))) ∧ (b'.length : Int) ≤ max (b.length : Int) most + K
section
variable {most K K2 : Int} {b x y b1 b2 : List Int}
theorem prK_exact (h : b1 = b ++ x) (hk : (x.length : Int) ≤ K) : PrK most K b x b1 := by
 subst h
 refine ⟨?_, by rw [List.length_append]; omega⟩
 by_cases h : (b.length : Int) + x.length ≤ most
 · exact .inl ⟨h, rfl⟩
 · exact .inr ⟨by omega, by rw [List.length_append]; omega⟩
theorem prK_then (h : PrK most K b x b1) (k : PrK most K2 b1 y b2) (h0 : 0 ≤ K) (h2 : 0 ≤ K2) : PrK most (K + K2) b (x ++ y) b2 := by
  obtain ⟨h1, hb⟩ := h
  obtain ⟨k1, kb⟩ := k
  refine ⟨?_, by omega⟩
  rw [List.length_append]
  rcases h1 with ⟨a, rfl⟩ | ⟨a, a2⟩
  · rw [List.length_append] at k1
    rcases k1 with ⟨c, rfl⟩ | ⟨c, c2⟩
    · exact .inl ⟨by omega, by rw [List.append_assoc]⟩
    · exact .inr ⟨by omega, c2⟩
  · rcases k1 with ⟨c, rfl⟩ | ⟨c, c2⟩
    · exact .inr ⟨by omega, by rw [List.length_append]; omega⟩
    · exact .inr ⟨by omega, c2⟩
theorem prK_stop (h : PrK most K b x b1) (hf : most < (b1.length : Int)) : PrK most K b (x ++ y) b1 := by
 obtain ⟨h1, hb⟩ := h
 refine ⟨.inr ⟨?_, hf⟩, hb⟩
 rw [List.length_append]
 rcases h1 with ⟨a, rfl⟩ | ⟨a, a2⟩
 · rw [List.length_append] at hf; omega
 · omega
theorem prK_go (h : PrK most K b x b1) (hf : ¬ most < (b1.length : Int)) : b1 = b ++ x ∧ (b.length : Int) + x.length ≤ most := by
 rcases h.1 with ⟨a, rfl⟩ | ⟨a, a2⟩
 · exact ⟨rfl, a⟩
 · exact absurd a2 hf
theorem prK_pre (e : b1 = b ++ x) (hm : (b1.length : Int) ≤ most) (k : PrK most K b1 y b2) : PrK most K b (x ++ y) b2 := by
 subst e
 obtain ⟨k1, kb⟩ := k
 rw [List.length_append] at *
 refine ⟨?_, by omega⟩
 rw [List.length_append]
 rcases k1 with ⟨c, rfl⟩ | ⟨c, c2⟩
 · exact .inl ⟨by omega, by rw [List.append_assoc]⟩
 · exact .inr ⟨by omega, c2⟩
theorem prK_le (h : PrK most K b x b1) (hk : K ≤ K2) : PrK most K2 b x b1 := ⟨h.1, by have := h.2; omega⟩
end
theorem ty_fld_46_0_0 : fldB Tryd.prog 46 0 0 = true := by kernel_rfl
theorem ty_fld_46_1_2 : fldB Tryd.prog 46 1 2 = true := by kernel_rfl
set_option maxHeartbeats 1000000 in
theorem full_v (P : Nat) (l : List Int) (m : Int) (w w1 : World) (hB : Below w.heap.size w w1) (hst : PrS w.heap.size P l m w1)  : CB Tryd.prog 23 [.pointer (some ⟨P, 0, none⟩)] w w1 fun v W => v = .bool (decide (m < (l.length : Int))) ∧ PrS w.heap.size P l m W := by
 refine cb_enter (N := 12) (f := [(0, .pointer (some ⟨P, 0, none⟩))]) Tryd.func23 rfl rfl rfl rfl fun Q hQ hE => ?_
 have hL := LL.nil w1
 refine Sq fun K1 hK1 => (Rg (Pu rfl (Ni (hK1 (Sq fun K2 hK2 => ?_)))))
 obtain ⟨p_, v_, hbk, hp_, hv_⟩ := hst.blk
 refine WC.drawM 8 [(some 3, .is (.pointer (some ⟨P, 0, none⟩))), (some 4, .is (.pointer (some ⟨P, 0, none⟩))), (some 5, .is (.pointer (some ⟨P, 0, none⟩))), (some 6, .is (.int .i64 (l.length : Int))), (some 7, .is (.pointer (some ⟨P, 0, none⟩))), (some 8, .is (.pointer (some ⟨P, 0, none⟩))), (some 9, .is (.pointer (some ⟨P, 2, none⟩))), (some 10, .is (.int .i64 m))] [[], [0], [1], [2], [], [4], [5], [6]] (by kernel_rfl) (by kernel_rfl) (by kernel_rfl) (by kernel_rfl) (by kernel_rfl) (by kernel_rfl) (by kernel_rfl) (by exact trivial) ?_ ?_
 ·
  refine Dc (fun Wd hd => ?_) ?_
  ·
   exact Dd (dx_move rfl rfl) rfl
  refine Dc (fun Wd hd => ?_) ?_
  ·
   exact Dd (dx_nilCheck rfl rfl) rfl
  refine Dc (fun Wd hd => ?_) ?_
  ·
   exact Dd (dx_fld (o1 := 0) rfl ty_fld_46_0_0 rfl rfl) rfl
  refine Dc (fun Wd hd => ?_) ?_
  ·
   have hst := hst.below hd
   exact DR.mono (dx_cv rfl Tryd.func31 rfl rfl rfl (blen_v w.heap.size P l m Wd hst)) (fun v W' ⟨h, hb⟩ => ⟨hb, (by rw [h]; exact rfl)⟩)
  refine Dc (fun Wd hd => ?_) ?_
  ·
   exact Dd (dx_move rfl rfl) rfl
  refine Dc (fun Wd hd => ?_) ?_
  ·
   exact Dd (dx_nilCheck rfl rfl) rfl
  refine Dc (fun Wd hd => ?_) ?_
  ·
   exact Dd (dx_fld (o1 := 2) rfl ty_fld_46_1_2 rfl rfl) rfl
  refine Dc (fun Wd hd => ?_) ?_
  ·
   have hbk := hbk.below hd
   exact Dd (dx_load rfl ty_one_3 rfl (hbk.cell (k := 2) rfl)) rfl
  exact trivial
 ·
  intro W3 b4
  replace hst := hst.below b4
  replace hB := below_then hB b4
  refine Va (dx_gtr rfl rfl rfl) rfl rfl (Pu rfl (Ni (hK2 ?_)))
  exact WC.ret fun a_ ha_ => hQ (cv_ret1 rfl (.tmp rfl) ⟨rfl, hst⟩ hB ha_)

theorem hex_at {c : Int} (h0 : 0 ≤ c) (h : c < 16) : atS ⟨#[48, 49, 50, 51, 52, 53, 54, 55, 56, 57, 97, 98, 99, 100, 101, 102]⟩ c.toNat = hexL c := by
 obtain ⟨n, rfl⟩ : ∃ n : Nat, c = (n : Int) := ⟨c.toNat, by omega⟩
 have hn : n < 16 := by omega
 rw [Int.toNat_natCast]
 match n, hn with
 | 0, _ => rfl | 1, _ => rfl | 2, _ => rfl | 3, _ => rfl | 4, _ => rfl | 5, _ => rfl | 6, _ => rfl | 7, _ => rfl | 8, _ => rfl | 9, _ => rfl | 10, _ => rfl | 11, _ => rfl | 12, _ => rfl | 13, _ => rfl | 14, _ => rfl | 15, _ => rfl
theorem hexL_le {c : Int} (h0 : 0 ≤ c) (h : c < 16) : 0 ≤ hexL c ∧ hexL c ≤ 255 := by unfold hexL; split <;> omega
section
variable {c : Int}
theorem esc_q (h : c = 34 ∨ c = 92) : escJ c = [92, c] := by unfold escJ; rw [if_pos h]
theorem esc_8 (h : c = 8) : escJ c = [92, 98] := by subst h; rfl
theorem esc_9 (h : c = 9) : escJ c = [92, 116] := by subst h; rfl
theorem esc_10 (h : c = 10) : escJ c = [92, 110] := by subst h; rfl
theorem esc_12 (h : c = 12) : escJ c = [92, 102] := by subst h; rfl
theorem esc_13 (h : c = 13) : escJ c = [92, 114] := by subst h; rfl
theorem esc_u (h1 : ¬ c = 34) (h2 : ¬ c = 92) (h3 : ¬ c = 8) (h4 : ¬ c = 9) (h5 : ¬ c = 10) (h6 : ¬ c = 12) (h7 : ¬ c = 13) (h : c < 32) : escJ c = [92, 117, 48, 48, hexL (c / 16), hexL (c % 16)] := by
 unfold escJ; rw [if_neg (by omega), if_neg h3, if_neg h4, if_neg h5, if_neg h6, if_neg h7, if_pos h]
theorem esc_p (h1 : 32 ≤ c) (h2 : ¬ c = 34) (h3 : ¬ c = 92) : escJ c = [c] := by
 unfold escJ; rw [if_neg (by omega), if_neg (by omega), if_neg (by omega), if_neg (by omega), if_neg (by omega), if_neg (by omega), if_neg (by omega)]
theorem esc_len : (escJ c).length ≤ 6 := by unfold escJ; (repeat' split) <;> simp
end
theorem u8_and_15 {c : Int} (h0 : 0 ≤ c) (h : c ≤ 255) : bits BinOp.and .u8 c 15 = c % 16 := by
 have q : ∀ n : Fin 256, bits BinOp.and .u8 (n.val : Int) 15 = (n.val : Int) % 16 := by decide +kernel
 have := q ⟨c.toNat, by omega⟩
 simp only at this
 rwa [Int.toNat_of_nonneg h0] at this
theorem dv_e {P : Program} {ops : Array Oper} {o : Oper} {N : Nat} {f : Fl} {w : World} {u v : Value} (h : DV P ops o N f w u) (e : u = v) : DV P ops o N f w v := e ▸ h
set_option maxHeartbeats 1000000 in
theorem pesc_v (P : Nat) (l : List Int) (m c : Int) (w w1 : World) (hB : Below w.heap.size w w1) (hst : PrS w.heap.size P l m w1) (hlen : l.length ≤ 10000000000) (hc0 : 0 ≤ c) (hc : c < 32 ∨ c = 34 ∨ c = 92) : CB Tryd.prog 45 [.pointer (some ⟨P, 0, none⟩), .int .u8 c] w w1 fun v W => v = .tuple #[] ∧ PrS w.heap.size P (l ++ escJ c) m W := by
 refine cb_enter (N := 65) (f := [(0, .pointer (some ⟨P, 0, none⟩)), (1, .int .u8 c)]) Tryd.func45 rfl rfl rfl rfl fun Q hQ hE => ?_
 have hL := LL.nil w1
 refine Sq fun K1 hK1 => (Rg (Pu rfl (Va (dx_nilCheck rfl rfl) rfl rfl (Va (dx_fld (o1 := 0) rfl ty_fld_46_0_0 rfl rfl) rfl rfl ?_))))
 refine Ge (dx_cb rfl Tryd.func44 rfl rfl rfl (wbyte_v P l m 92 w w1 hB hst (by (try simp only [List.length_append, List.length_cons, List.length_nil]); omega) (by omega) (by omega))) rfl rfl ?_
 rintro _ W2 ⟨⟨rfl, hst⟩, hB⟩
 have hL := LL.nil W2
 refine Ni (hK1 (Sq fun K3 hK3 => (Rg (Pu rfl (Ni (hK3 (WC.block ?_)))))))
 refine Sq fun K4 hK4 => (Sq fun K5 hK5 => (Rg (Va (dx_eql rfl rfl rfl) rfl rfl (Pu rfl (Ni (hK5 ?_))))))
 refine WC.cond rfl (fun c6 => ?_) (fun c6 => ?_)
 ·
  replace c6 := dT c6
  refine WC.skip (hK4 ?_)
  refine WC.cond rfl (fun c7 => ?_) (fun c7 => ?_)
  ·
   replace c7 := dT c7
   refine Rg (Pu rfl (Va (dx_nilCheck rfl rfl) rfl rfl (Va (dx_fld (o1 := 0) rfl ty_fld_46_0_0 rfl rfl) rfl rfl (Pu rfl ?_))))
   refine Ge (dx_cb rfl Tryd.func44 rfl rfl rfl (wbyte_v P (l ++ [92]) m c w W2 hB hst (by (try simp only [List.length_append, List.length_cons, List.length_nil]); omega) (by omega) (by omega))) rfl rfl ?_
   rintro _ W8 ⟨⟨rfl, hst⟩, hB⟩
   have hL := LL.nil W8
   refine Ni ?_
   intro a_ ha_
   exact hE (cv_ret0 rfl  ⟨rfl, (show l ++ escJ c = (l ++ [92]) ++ [c] from by first | (rw [esc_q (by first | assumption | omega)]; simp; done) | (rw [esc_8 (by first | assumption | omega)]; simp; done) | (rw [esc_9 (by first | assumption | omega)]; simp; done) | (rw [esc_10 (by first | assumption | omega)]; simp; done) | (rw [esc_12 (by first | assumption | omega)]; simp; done) | (rw [esc_13 (by first | assumption | omega)]; simp; done) | (rw [esc_u (by first | assumption | omega) (by first | assumption | omega) (by first | assumption | omega) (by first | assumption | omega) (by first | assumption | omega) (by first | assumption | omega) (by first | assumption | omega) (by first | assumption | omega)]; simp [sb]; done)) ▸ hst⟩ hB ha_)
  ·
   replace c7 := dF c7
   refine Sq fun K9 hK9 => (Rg (Va (dx_eql rfl rfl rfl) rfl rfl (Pu rfl (Ni (hK9 ?_)))))
   refine WC.cond rfl (fun c10 => ?_) (fun c10 => ?_)
   ·
    replace c10 := dT c10
    refine Rg (Pu rfl (Va (dx_nilCheck rfl rfl) rfl rfl (Va (dx_fld (o1 := 0) rfl ty_fld_46_0_0 rfl rfl) rfl rfl ?_)))
    refine Ge (dx_cb rfl Tryd.func44 rfl rfl rfl (wbyte_v P (l ++ [92]) m 98 w W2 hB hst (by (try simp only [List.length_append, List.length_cons, List.length_nil]); omega) (by omega) (by omega))) rfl rfl ?_
    rintro _ W11 ⟨⟨rfl, hst⟩, hB⟩
    have hL := LL.nil W11
    refine Ni ?_
    intro a_ ha_
    exact hE (cv_ret0 rfl  ⟨rfl, (show l ++ escJ c = (l ++ [92]) ++ [98] from by first | (rw [esc_q (by first | assumption | omega)]; simp; done) | (rw [esc_8 (by first | assumption | omega)]; simp; done) | (rw [esc_9 (by first | assumption | omega)]; simp; done) | (rw [esc_10 (by first | assumption | omega)]; simp; done) | (rw [esc_12 (by first | assumption | omega)]; simp; done) | (rw [esc_13 (by first | assumption | omega)]; simp; done) | (rw [esc_u (by first | assumption | omega) (by first | assumption | omega) (by first | assumption | omega) (by first | assumption | omega) (by first | assumption | omega) (by first | assumption | omega) (by first | assumption | omega) (by first | assumption | omega)]; simp [sb]; done)) ▸ hst⟩ hB ha_)
   ·
    replace c10 := dF c10
    refine Sq fun K12 hK12 => (Rg (Va (dx_eql rfl rfl rfl) rfl rfl (Pu rfl (Ni (hK12 ?_)))))
    refine WC.cond rfl (fun c13 => ?_) (fun c13 => ?_)
    ·
     replace c13 := dT c13
     refine Rg (Pu rfl (Va (dx_nilCheck rfl rfl) rfl rfl (Va (dx_fld (o1 := 0) rfl ty_fld_46_0_0 rfl rfl) rfl rfl ?_)))
     refine Ge (dx_cb rfl Tryd.func44 rfl rfl rfl (wbyte_v P (l ++ [92]) m 116 w W2 hB hst (by (try simp only [List.length_append, List.length_cons, List.length_nil]); omega) (by omega) (by omega))) rfl rfl ?_
     rintro _ W14 ⟨⟨rfl, hst⟩, hB⟩
     have hL := LL.nil W14
     refine Ni ?_
     intro a_ ha_
     exact hE (cv_ret0 rfl  ⟨rfl, (show l ++ escJ c = (l ++ [92]) ++ [116] from by first | (rw [esc_q (by first | assumption | omega)]; simp; done) | (rw [esc_8 (by first | assumption | omega)]; simp; done) | (rw [esc_9 (by first | assumption | omega)]; simp; done) | (rw [esc_10 (by first | assumption | omega)]; simp; done) | (rw [esc_12 (by first | assumption | omega)]; simp; done) | (rw [esc_13 (by first | assumption | omega)]; simp; done) | (rw [esc_u (by first | assumption | omega) (by first | assumption | omega) (by first | assumption | omega) (by first | assumption | omega) (by first | assumption | omega) (by first | assumption | omega) (by first | assumption | omega) (by first | assumption | omega)]; simp [sb]; done)) ▸ hst⟩ hB ha_)
    ·
     replace c13 := dF c13
     refine Sq fun K15 hK15 => (Rg (Va (dx_eql rfl rfl rfl) rfl rfl (Pu rfl (Ni (hK15 ?_)))))
     refine WC.cond rfl (fun c16 => ?_) (fun c16 => ?_)
     ·
      replace c16 := dT c16
      refine Rg (Pu rfl (Va (dx_nilCheck rfl rfl) rfl rfl (Va (dx_fld (o1 := 0) rfl ty_fld_46_0_0 rfl rfl) rfl rfl ?_)))
      refine Ge (dx_cb rfl Tryd.func44 rfl rfl rfl (wbyte_v P (l ++ [92]) m 110 w W2 hB hst (by (try simp only [List.length_append, List.length_cons, List.length_nil]); omega) (by omega) (by omega))) rfl rfl ?_
      rintro _ W17 ⟨⟨rfl, hst⟩, hB⟩
      have hL := LL.nil W17
      refine Ni ?_
      intro a_ ha_
      exact hE (cv_ret0 rfl  ⟨rfl, (show l ++ escJ c = (l ++ [92]) ++ [110] from by first | (rw [esc_q (by first | assumption | omega)]; simp; done) | (rw [esc_8 (by first | assumption | omega)]; simp; done) | (rw [esc_9 (by first | assumption | omega)]; simp; done) | (rw [esc_10 (by first | assumption | omega)]; simp; done) | (rw [esc_12 (by first | assumption | omega)]; simp; done) | (rw [esc_13 (by first | assumption | omega)]; simp; done) | (rw [esc_u (by first | assumption | omega) (by first | assumption | omega) (by first | assumption | omega) (by first | assumption | omega) (by first | assumption | omega) (by first | assumption | omega) (by first | assumption | omega) (by first | assumption | omega)]; simp [sb]; done)) ▸ hst⟩ hB ha_)
     ·
      replace c16 := dF c16
      refine Sq fun K18 hK18 => (Rg (Va (dx_eql rfl rfl rfl) rfl rfl (Pu rfl (Ni (hK18 ?_)))))
      refine WC.cond rfl (fun c19 => ?_) (fun c19 => ?_)
      ·
       replace c19 := dT c19
       refine Rg (Pu rfl (Va (dx_nilCheck rfl rfl) rfl rfl (Va (dx_fld (o1 := 0) rfl ty_fld_46_0_0 rfl rfl) rfl rfl ?_)))
       refine Ge (dx_cb rfl Tryd.func44 rfl rfl rfl (wbyte_v P (l ++ [92]) m 102 w W2 hB hst (by (try simp only [List.length_append, List.length_cons, List.length_nil]); omega) (by omega) (by omega))) rfl rfl ?_
       rintro _ W20 ⟨⟨rfl, hst⟩, hB⟩
       have hL := LL.nil W20
       refine Ni ?_
       intro a_ ha_
       exact hE (cv_ret0 rfl  ⟨rfl, (show l ++ escJ c = (l ++ [92]) ++ [102] from by first | (rw [esc_q (by first | assumption | omega)]; simp; done) | (rw [esc_8 (by first | assumption | omega)]; simp; done) | (rw [esc_9 (by first | assumption | omega)]; simp; done) | (rw [esc_10 (by first | assumption | omega)]; simp; done) | (rw [esc_12 (by first | assumption | omega)]; simp; done) | (rw [esc_13 (by first | assumption | omega)]; simp; done) | (rw [esc_u (by first | assumption | omega) (by first | assumption | omega) (by first | assumption | omega) (by first | assumption | omega) (by first | assumption | omega) (by first | assumption | omega) (by first | assumption | omega) (by first | assumption | omega)]; simp [sb]; done)) ▸ hst⟩ hB ha_)
      ·
       replace c19 := dF c19
       refine Sq fun K21 hK21 => (Rg (Va (dx_eql rfl rfl rfl) rfl rfl (Pu rfl (Ni (hK21 ?_)))))
       refine WC.cond rfl (fun c22 => ?_) (fun c22 => ?_)
       ·
        replace c22 := dT c22
        refine Rg (Pu rfl (Va (dx_nilCheck rfl rfl) rfl rfl (Va (dx_fld (o1 := 0) rfl ty_fld_46_0_0 rfl rfl) rfl rfl ?_)))
        refine Ge (dx_cb rfl Tryd.func44 rfl rfl rfl (wbyte_v P (l ++ [92]) m 114 w W2 hB hst (by (try simp only [List.length_append, List.length_cons, List.length_nil]); omega) (by omega) (by omega))) rfl rfl ?_
        rintro _ W23 ⟨⟨rfl, hst⟩, hB⟩
        have hL := LL.nil W23
        refine Ni ?_
        intro a_ ha_
        exact hE (cv_ret0 rfl  ⟨rfl, (show l ++ escJ c = (l ++ [92]) ++ [114] from by first | (rw [esc_q (by first | assumption | omega)]; simp; done) | (rw [esc_8 (by first | assumption | omega)]; simp; done) | (rw [esc_9 (by first | assumption | omega)]; simp; done) | (rw [esc_10 (by first | assumption | omega)]; simp; done) | (rw [esc_12 (by first | assumption | omega)]; simp; done) | (rw [esc_13 (by first | assumption | omega)]; simp; done) | (rw [esc_u (by first | assumption | omega) (by first | assumption | omega) (by first | assumption | omega) (by first | assumption | omega) (by first | assumption | omega) (by first | assumption | omega) (by first | assumption | omega) (by first | assumption | omega)]; simp [sb]; done)) ▸ hst⟩ hB ha_)
       ·
        replace c22 := dF c22
        refine Sq fun K24 hK24 => (Rg (Pu rfl (Va (dx_nilCheck rfl rfl) rfl rfl (Va (dx_fld (o1 := 0) rfl ty_fld_46_0_0 rfl rfl) rfl rfl ?_))))
        refine Ge (dx_cb rfl Tryd.func38 rfl rfl rfl (wstr_v P (l ++ [92]) m ({ data := #[117, 48, 48] }) w W2 hB hst (by (try simp only [List.length_append, List.length_cons, List.length_nil]); omega) (by decide))) rfl rfl ?_
        rintro _ W25 ⟨⟨rfl, hst⟩, hB⟩
        have hL := LL.nil W25
        refine Ni (hK24 (Sq fun K26 hK26 => ?_))
        have hq3_ : (sb ({ data := #[117, 48, 48] } : ByteArray)).length = 3 := rfl
        have hx1_ := hexL_le (c := c / 16) (by omega) (by omega)
        have hx2_ := hexL_le (c := c % 16) (by omega) (by omega)
        refine WC.drawM 6 [(some 13, .is (.pointer (some ⟨P, 0, none⟩))), (some 14, .is (.pointer (some ⟨P, 0, none⟩))), (some 15, .is (.pointer (some ⟨P, 0, none⟩))), (some 16, .is (.int .u8 c)), (some 17, .is (.int .u8 (c / 16))), (some 18, .is (.int .u8 (hexL (c / 16))))] [[], [0], [1], [], [3], [4]] (by kernel_rfl) (by kernel_rfl) (by kernel_rfl) (by kernel_rfl) (by kernel_rfl) (by kernel_rfl) (by kernel_rfl) (by exact trivial) ?_ ?_
        ·
         refine Dc (fun Wd hd => ?_) ?_
         ·
          exact Dd (dx_move rfl rfl) rfl
         refine Dc (fun Wd hd => ?_) ?_
         ·
          exact Dd (dx_nilCheck rfl rfl) rfl
         refine Dc (fun Wd hd => ?_) ?_
         ·
          exact Dd (dx_fld (o1 := 0) rfl ty_fld_46_0_0 rfl rfl) rfl
         refine Dc (fun Wd hd => ?_) ?_
         ·
          exact Dd (dx_move rfl rfl) rfl
         refine Dc (fun Wd hd => ?_) ?_
         ·
          exact Dd (dx_shr (r := c / 16) rfl rfl rfl (by decide) (by decide) (by show c / 2 ^ 4 = _; rfl)) rfl
         refine Dc (fun Wd hd => ?_) ?_
         ·
          exact Dd (dv_e (dx_at (c / 16).toNat rfl Tryd.underlying9 rfl rfl (by omega) (by show (c / 16).toNat < 16; omega)) (congrArg (Value.int .u8) (hex_at (c := c / 16) (by omega) (by omega)))) rfl
         exact trivial
        ·
         intro W27 b28
         replace hst := hst.below b28
         replace hB := below_then hB b28
         replace hL := LL.below hL b28
         refine Ge (dx_cb rfl Tryd.func44 rfl rfl rfl (wbyte_v P ((l ++ [92]) ++ sb ({ data := #[117, 48, 48] })) m (hexL (c / 16)) w W27 hB hst (by (try simp only [List.length_append, List.length_cons, List.length_nil]); omega) (by omega) (by omega))) rfl rfl ?_
         rintro _ W29 ⟨⟨rfl, hst⟩, hB⟩
         have hL := LL.nil W29
         refine Ni (hK26 ?_)
         have hq3_ : (sb ({ data := #[117, 48, 48] } : ByteArray)).length = 3 := rfl
         have hx1_ := hexL_le (c := c / 16) (by omega) (by omega)
         have hx2_ := hexL_le (c := c % 16) (by omega) (by omega)
         refine WC.drawM 6 [(some 20, .is (.pointer (some ⟨P, 0, none⟩))), (some 21, .is (.pointer (some ⟨P, 0, none⟩))), (some 22, .is (.pointer (some ⟨P, 0, none⟩))), (some 23, .is (.int .u8 c)), (some 24, .is (.int .u8 (c % 16))), (some 25, .is (.int .u8 (hexL (c % 16))))] [[], [0], [1], [], [3], [4]] (by kernel_rfl) (by kernel_rfl) (by kernel_rfl) (by kernel_rfl) (by kernel_rfl) (by kernel_rfl) (by kernel_rfl) (by exact trivial) ?_ ?_
         ·
          refine Dc (fun Wd hd => ?_) ?_
          ·
           exact Dd (dx_move rfl rfl) rfl
          refine Dc (fun Wd hd => ?_) ?_
          ·
           exact Dd (dx_nilCheck rfl rfl) rfl
          refine Dc (fun Wd hd => ?_) ?_
          ·
           exact Dd (dx_fld (o1 := 0) rfl ty_fld_46_0_0 rfl rfl) rfl
          refine Dc (fun Wd hd => ?_) ?_
          ·
           exact Dd (dx_move rfl rfl) rfl
          refine Dc (fun Wd hd => ?_) ?_
          ·
           exact Dd (dx_and_i (r := c % 16) rfl rfl rfl (u8_and_15 hc0 (by omega))) rfl
          refine Dc (fun Wd hd => ?_) ?_
          ·
           exact Dd (dv_e (dx_at (c % 16).toNat rfl Tryd.underlying9 rfl rfl (by omega) (by show (c % 16).toNat < 16; omega)) (congrArg (Value.int .u8) (hex_at (c := c % 16) (by omega) (by omega)))) rfl
          exact trivial
         ·
          intro W30 b31
          replace hst := hst.below b31
          replace hB := below_then hB b31
          replace hL := LL.below hL b31
          refine Ge (dx_cb rfl Tryd.func44 rfl rfl rfl (wbyte_v P (((l ++ [92]) ++ sb ({ data := #[117, 48, 48] })) ++ [hexL (c / 16)]) m (hexL (c % 16)) w W30 hB hst (by (try simp only [List.length_append, List.length_cons, List.length_nil]); omega) (by omega) (by omega))) rfl rfl ?_
          rintro _ W32 ⟨⟨rfl, hst⟩, hB⟩
          have hL := LL.nil W32
          refine Ni ?_
          intro a_ ha_
          exact hE (cv_ret0 rfl  ⟨rfl, (show l ++ escJ c = (((l ++ [92]) ++ sb ({ data := #[117, 48, 48] })) ++ [hexL (c / 16)]) ++ [hexL (c % 16)] from by first | (rw [esc_q (by first | assumption | omega)]; simp; done) | (rw [esc_8 (by first | assumption | omega)]; simp; done) | (rw [esc_9 (by first | assumption | omega)]; simp; done) | (rw [esc_10 (by first | assumption | omega)]; simp; done) | (rw [esc_12 (by first | assumption | omega)]; simp; done) | (rw [esc_13 (by first | assumption | omega)]; simp; done) | (rw [esc_u (by first | assumption | omega) (by first | assumption | omega) (by first | assumption | omega) (by first | assumption | omega) (by first | assumption | omega) (by first | assumption | omega) (by first | assumption | omega) (by first | assumption | omega)]; simp [sb]; done)) ▸ hst⟩ hB ha_)
 ·
  replace c6 := dF c6
  refine Rg (Va (dx_eql rfl rfl rfl) rfl rfl (Pu rfl (Ni (hK4 ?_))))
  refine WC.cond rfl (fun c33 => ?_) (fun c33 => ?_)
  ·
   replace c33 := dT c33
   refine Rg (Pu rfl (Va (dx_nilCheck rfl rfl) rfl rfl (Va (dx_fld (o1 := 0) rfl ty_fld_46_0_0 rfl rfl) rfl rfl (Pu rfl ?_))))
   refine Ge (dx_cb rfl Tryd.func44 rfl rfl rfl (wbyte_v P (l ++ [92]) m c w W2 hB hst (by (try simp only [List.length_append, List.length_cons, List.length_nil]); omega) (by omega) (by omega))) rfl rfl ?_
   rintro _ W34 ⟨⟨rfl, hst⟩, hB⟩
   have hL := LL.nil W34
   refine Ni ?_
   intro a_ ha_
   exact hE (cv_ret0 rfl  ⟨rfl, (show l ++ escJ c = (l ++ [92]) ++ [c] from by first | (rw [esc_q (by first | assumption | omega)]; simp; done) | (rw [esc_8 (by first | assumption | omega)]; simp; done) | (rw [esc_9 (by first | assumption | omega)]; simp; done) | (rw [esc_10 (by first | assumption | omega)]; simp; done) | (rw [esc_12 (by first | assumption | omega)]; simp; done) | (rw [esc_13 (by first | assumption | omega)]; simp; done) | (rw [esc_u (by first | assumption | omega) (by first | assumption | omega) (by first | assumption | omega) (by first | assumption | omega) (by first | assumption | omega) (by first | assumption | omega) (by first | assumption | omega) (by first | assumption | omega)]; simp [sb]; done)) ▸ hst⟩ hB ha_)
  ·
   replace c33 := dF c33
   refine Sq fun K35 hK35 => (Rg (Va (dx_eql rfl rfl rfl) rfl rfl (Pu rfl (Ni (hK35 ?_)))))
   refine WC.cond rfl (fun c36 => ?_) (fun c36 => ?_)
   ·
    replace c36 := dT c36
    refine Rg (Pu rfl (Va (dx_nilCheck rfl rfl) rfl rfl (Va (dx_fld (o1 := 0) rfl ty_fld_46_0_0 rfl rfl) rfl rfl ?_)))
    refine Ge (dx_cb rfl Tryd.func44 rfl rfl rfl (wbyte_v P (l ++ [92]) m 98 w W2 hB hst (by (try simp only [List.length_append, List.length_cons, List.length_nil]); omega) (by omega) (by omega))) rfl rfl ?_
    rintro _ W37 ⟨⟨rfl, hst⟩, hB⟩
    have hL := LL.nil W37
    refine Ni ?_
    intro a_ ha_
    exact hE (cv_ret0 rfl  ⟨rfl, (show l ++ escJ c = (l ++ [92]) ++ [98] from by first | (rw [esc_q (by first | assumption | omega)]; simp; done) | (rw [esc_8 (by first | assumption | omega)]; simp; done) | (rw [esc_9 (by first | assumption | omega)]; simp; done) | (rw [esc_10 (by first | assumption | omega)]; simp; done) | (rw [esc_12 (by first | assumption | omega)]; simp; done) | (rw [esc_13 (by first | assumption | omega)]; simp; done) | (rw [esc_u (by first | assumption | omega) (by first | assumption | omega) (by first | assumption | omega) (by first | assumption | omega) (by first | assumption | omega) (by first | assumption | omega) (by first | assumption | omega) (by first | assumption | omega)]; simp [sb]; done)) ▸ hst⟩ hB ha_)
   ·
    replace c36 := dF c36
    refine Sq fun K38 hK38 => (Rg (Va (dx_eql rfl rfl rfl) rfl rfl (Pu rfl (Ni (hK38 ?_)))))
    refine WC.cond rfl (fun c39 => ?_) (fun c39 => ?_)
    ·
     replace c39 := dT c39
     refine Rg (Pu rfl (Va (dx_nilCheck rfl rfl) rfl rfl (Va (dx_fld (o1 := 0) rfl ty_fld_46_0_0 rfl rfl) rfl rfl ?_)))
     refine Ge (dx_cb rfl Tryd.func44 rfl rfl rfl (wbyte_v P (l ++ [92]) m 116 w W2 hB hst (by (try simp only [List.length_append, List.length_cons, List.length_nil]); omega) (by omega) (by omega))) rfl rfl ?_
     rintro _ W40 ⟨⟨rfl, hst⟩, hB⟩
     have hL := LL.nil W40
     refine Ni ?_
     intro a_ ha_
     exact hE (cv_ret0 rfl  ⟨rfl, (show l ++ escJ c = (l ++ [92]) ++ [116] from by first | (rw [esc_q (by first | assumption | omega)]; simp; done) | (rw [esc_8 (by first | assumption | omega)]; simp; done) | (rw [esc_9 (by first | assumption | omega)]; simp; done) | (rw [esc_10 (by first | assumption | omega)]; simp; done) | (rw [esc_12 (by first | assumption | omega)]; simp; done) | (rw [esc_13 (by first | assumption | omega)]; simp; done) | (rw [esc_u (by first | assumption | omega) (by first | assumption | omega) (by first | assumption | omega) (by first | assumption | omega) (by first | assumption | omega) (by first | assumption | omega) (by first | assumption | omega) (by first | assumption | omega)]; simp [sb]; done)) ▸ hst⟩ hB ha_)
    ·
     replace c39 := dF c39
     refine Sq fun K41 hK41 => (Rg (Va (dx_eql rfl rfl rfl) rfl rfl (Pu rfl (Ni (hK41 ?_)))))
     refine WC.cond rfl (fun c42 => ?_) (fun c42 => ?_)
     ·
      replace c42 := dT c42
      refine Rg (Pu rfl (Va (dx_nilCheck rfl rfl) rfl rfl (Va (dx_fld (o1 := 0) rfl ty_fld_46_0_0 rfl rfl) rfl rfl ?_)))
      refine Ge (dx_cb rfl Tryd.func44 rfl rfl rfl (wbyte_v P (l ++ [92]) m 110 w W2 hB hst (by (try simp only [List.length_append, List.length_cons, List.length_nil]); omega) (by omega) (by omega))) rfl rfl ?_
      rintro _ W43 ⟨⟨rfl, hst⟩, hB⟩
      have hL := LL.nil W43
      refine Ni ?_
      intro a_ ha_
      exact hE (cv_ret0 rfl  ⟨rfl, (show l ++ escJ c = (l ++ [92]) ++ [110] from by first | (rw [esc_q (by first | assumption | omega)]; simp; done) | (rw [esc_8 (by first | assumption | omega)]; simp; done) | (rw [esc_9 (by first | assumption | omega)]; simp; done) | (rw [esc_10 (by first | assumption | omega)]; simp; done) | (rw [esc_12 (by first | assumption | omega)]; simp; done) | (rw [esc_13 (by first | assumption | omega)]; simp; done) | (rw [esc_u (by first | assumption | omega) (by first | assumption | omega) (by first | assumption | omega) (by first | assumption | omega) (by first | assumption | omega) (by first | assumption | omega) (by first | assumption | omega) (by first | assumption | omega)]; simp [sb]; done)) ▸ hst⟩ hB ha_)
     ·
      replace c42 := dF c42
      refine Sq fun K44 hK44 => (Rg (Va (dx_eql rfl rfl rfl) rfl rfl (Pu rfl (Ni (hK44 ?_)))))
      refine WC.cond rfl (fun c45 => ?_) (fun c45 => ?_)
      ·
       replace c45 := dT c45
       refine Rg (Pu rfl (Va (dx_nilCheck rfl rfl) rfl rfl (Va (dx_fld (o1 := 0) rfl ty_fld_46_0_0 rfl rfl) rfl rfl ?_)))
       refine Ge (dx_cb rfl Tryd.func44 rfl rfl rfl (wbyte_v P (l ++ [92]) m 102 w W2 hB hst (by (try simp only [List.length_append, List.length_cons, List.length_nil]); omega) (by omega) (by omega))) rfl rfl ?_
       rintro _ W46 ⟨⟨rfl, hst⟩, hB⟩
       have hL := LL.nil W46
       refine Ni ?_
       intro a_ ha_
       exact hE (cv_ret0 rfl  ⟨rfl, (show l ++ escJ c = (l ++ [92]) ++ [102] from by first | (rw [esc_q (by first | assumption | omega)]; simp; done) | (rw [esc_8 (by first | assumption | omega)]; simp; done) | (rw [esc_9 (by first | assumption | omega)]; simp; done) | (rw [esc_10 (by first | assumption | omega)]; simp; done) | (rw [esc_12 (by first | assumption | omega)]; simp; done) | (rw [esc_13 (by first | assumption | omega)]; simp; done) | (rw [esc_u (by first | assumption | omega) (by first | assumption | omega) (by first | assumption | omega) (by first | assumption | omega) (by first | assumption | omega) (by first | assumption | omega) (by first | assumption | omega) (by first | assumption | omega)]; simp [sb]; done)) ▸ hst⟩ hB ha_)
      ·
       replace c45 := dF c45
       refine Sq fun K47 hK47 => (Rg (Va (dx_eql rfl rfl rfl) rfl rfl (Pu rfl (Ni (hK47 ?_)))))
       refine WC.cond rfl (fun c48 => ?_) (fun c48 => ?_)
       ·
        replace c48 := dT c48
        refine Rg (Pu rfl (Va (dx_nilCheck rfl rfl) rfl rfl (Va (dx_fld (o1 := 0) rfl ty_fld_46_0_0 rfl rfl) rfl rfl ?_)))
        refine Ge (dx_cb rfl Tryd.func44 rfl rfl rfl (wbyte_v P (l ++ [92]) m 114 w W2 hB hst (by (try simp only [List.length_append, List.length_cons, List.length_nil]); omega) (by omega) (by omega))) rfl rfl ?_
        rintro _ W49 ⟨⟨rfl, hst⟩, hB⟩
        have hL := LL.nil W49
        refine Ni ?_
        intro a_ ha_
        exact hE (cv_ret0 rfl  ⟨rfl, (show l ++ escJ c = (l ++ [92]) ++ [114] from by first | (rw [esc_q (by first | assumption | omega)]; simp; done) | (rw [esc_8 (by first | assumption | omega)]; simp; done) | (rw [esc_9 (by first | assumption | omega)]; simp; done) | (rw [esc_10 (by first | assumption | omega)]; simp; done) | (rw [esc_12 (by first | assumption | omega)]; simp; done) | (rw [esc_13 (by first | assumption | omega)]; simp; done) | (rw [esc_u (by first | assumption | omega) (by first | assumption | omega) (by first | assumption | omega) (by first | assumption | omega) (by first | assumption | omega) (by first | assumption | omega) (by first | assumption | omega) (by first | assumption | omega)]; simp [sb]; done)) ▸ hst⟩ hB ha_)
       ·
        replace c48 := dF c48
        refine Sq fun K50 hK50 => (Rg (Pu rfl (Va (dx_nilCheck rfl rfl) rfl rfl (Va (dx_fld (o1 := 0) rfl ty_fld_46_0_0 rfl rfl) rfl rfl ?_))))
        refine Ge (dx_cb rfl Tryd.func38 rfl rfl rfl (wstr_v P (l ++ [92]) m ({ data := #[117, 48, 48] }) w W2 hB hst (by (try simp only [List.length_append, List.length_cons, List.length_nil]); omega) (by decide))) rfl rfl ?_
        rintro _ W51 ⟨⟨rfl, hst⟩, hB⟩
        have hL := LL.nil W51
        refine Ni (hK50 (Sq fun K52 hK52 => ?_))
        have hq3_ : (sb ({ data := #[117, 48, 48] } : ByteArray)).length = 3 := rfl
        have hx1_ := hexL_le (c := c / 16) (by omega) (by omega)
        have hx2_ := hexL_le (c := c % 16) (by omega) (by omega)
        refine WC.drawM 6 [(some 13, .is (.pointer (some ⟨P, 0, none⟩))), (some 14, .is (.pointer (some ⟨P, 0, none⟩))), (some 15, .is (.pointer (some ⟨P, 0, none⟩))), (some 16, .is (.int .u8 c)), (some 17, .is (.int .u8 (c / 16))), (some 18, .is (.int .u8 (hexL (c / 16))))] [[], [0], [1], [], [3], [4]] (by kernel_rfl) (by kernel_rfl) (by kernel_rfl) (by kernel_rfl) (by kernel_rfl) (by kernel_rfl) (by kernel_rfl) (by exact trivial) ?_ ?_
        ·
         refine Dc (fun Wd hd => ?_) ?_
         ·
          exact Dd (dx_move rfl rfl) rfl
         refine Dc (fun Wd hd => ?_) ?_
         ·
          exact Dd (dx_nilCheck rfl rfl) rfl
         refine Dc (fun Wd hd => ?_) ?_
         ·
          exact Dd (dx_fld (o1 := 0) rfl ty_fld_46_0_0 rfl rfl) rfl
         refine Dc (fun Wd hd => ?_) ?_
         ·
          exact Dd (dx_move rfl rfl) rfl
         refine Dc (fun Wd hd => ?_) ?_
         ·
          exact Dd (dx_shr (r := c / 16) rfl rfl rfl (by decide) (by decide) (by show c / 2 ^ 4 = _; rfl)) rfl
         refine Dc (fun Wd hd => ?_) ?_
         ·
          exact Dd (dv_e (dx_at (c / 16).toNat rfl Tryd.underlying9 rfl rfl (by omega) (by show (c / 16).toNat < 16; omega)) (congrArg (Value.int .u8) (hex_at (c := c / 16) (by omega) (by omega)))) rfl
         exact trivial
        ·
         intro W53 b54
         replace hst := hst.below b54
         replace hB := below_then hB b54
         replace hL := LL.below hL b54
         refine Ge (dx_cb rfl Tryd.func44 rfl rfl rfl (wbyte_v P ((l ++ [92]) ++ sb ({ data := #[117, 48, 48] })) m (hexL (c / 16)) w W53 hB hst (by (try simp only [List.length_append, List.length_cons, List.length_nil]); omega) (by omega) (by omega))) rfl rfl ?_
         rintro _ W55 ⟨⟨rfl, hst⟩, hB⟩
         have hL := LL.nil W55
         refine Ni (hK52 ?_)
         have hq3_ : (sb ({ data := #[117, 48, 48] } : ByteArray)).length = 3 := rfl
         have hx1_ := hexL_le (c := c / 16) (by omega) (by omega)
         have hx2_ := hexL_le (c := c % 16) (by omega) (by omega)
         refine WC.drawM 6 [(some 20, .is (.pointer (some ⟨P, 0, none⟩))), (some 21, .is (.pointer (some ⟨P, 0, none⟩))), (some 22, .is (.pointer (some ⟨P, 0, none⟩))), (some 23, .is (.int .u8 c)), (some 24, .is (.int .u8 (c % 16))), (some 25, .is (.int .u8 (hexL (c % 16))))] [[], [0], [1], [], [3], [4]] (by kernel_rfl) (by kernel_rfl) (by kernel_rfl) (by kernel_rfl) (by kernel_rfl) (by kernel_rfl) (by kernel_rfl) (by exact trivial) ?_ ?_
         ·
          refine Dc (fun Wd hd => ?_) ?_
          ·
           exact Dd (dx_move rfl rfl) rfl
          refine Dc (fun Wd hd => ?_) ?_
          ·
           exact Dd (dx_nilCheck rfl rfl) rfl
          refine Dc (fun Wd hd => ?_) ?_
          ·
           exact Dd (dx_fld (o1 := 0) rfl ty_fld_46_0_0 rfl rfl) rfl
          refine Dc (fun Wd hd => ?_) ?_
          ·
           exact Dd (dx_move rfl rfl) rfl
          refine Dc (fun Wd hd => ?_) ?_
          ·
           exact Dd (dx_and_i (r := c % 16) rfl rfl rfl (u8_and_15 hc0 (by omega))) rfl
          refine Dc (fun Wd hd => ?_) ?_
          ·
           exact Dd (dv_e (dx_at (c % 16).toNat rfl Tryd.underlying9 rfl rfl (by omega) (by show (c % 16).toNat < 16; omega)) (congrArg (Value.int .u8) (hex_at (c := c % 16) (by omega) (by omega)))) rfl
          exact trivial
         ·
          intro W56 b57
          replace hst := hst.below b57
          replace hB := below_then hB b57
          replace hL := LL.below hL b57
          refine Ge (dx_cb rfl Tryd.func44 rfl rfl rfl (wbyte_v P (((l ++ [92]) ++ sb ({ data := #[117, 48, 48] })) ++ [hexL (c / 16)]) m (hexL (c % 16)) w W56 hB hst (by (try simp only [List.length_append, List.length_cons, List.length_nil]); omega) (by omega) (by omega))) rfl rfl ?_
          rintro _ W58 ⟨⟨rfl, hst⟩, hB⟩
          have hL := LL.nil W58
          refine Ni ?_
          intro a_ ha_
          exact hE (cv_ret0 rfl  ⟨rfl, (show l ++ escJ c = (((l ++ [92]) ++ sb ({ data := #[117, 48, 48] })) ++ [hexL (c / 16)]) ++ [hexL (c % 16)] from by first | (rw [esc_q (by first | assumption | omega)]; simp; done) | (rw [esc_8 (by first | assumption | omega)]; simp; done) | (rw [esc_9 (by first | assumption | omega)]; simp; done) | (rw [esc_10 (by first | assumption | omega)]; simp; done) | (rw [esc_12 (by first | assumption | omega)]; simp; done) | (rw [esc_13 (by first | assumption | omega)]; simp; done) | (rw [esc_u (by first | assumption | omega) (by first | assumption | omega) (by first | assumption | omega) (by first | assumption | omega) (by first | assumption | omega) (by first | assumption | omega) (by first | assumption | omega) (by first | assumption | omega)]; simp [sb]; done)) ▸ hst⟩ hB ha_)

theorem ext_at {s : ByteArray} {i j : Nat} : sb (s.extract i j) = ((sb s).take j).drop i := by
 rw [Lib.extract_eq]
 simp [sb, List.map_take, List.map_drop, List.drop_take]
def txtL (s : ByteArray) (a : Nat) : List Int := 34 :: ((sb s).take a).flatMap escJ
theorem txt_0 (s : ByteArray) : txtL s 0 = [34] := rfl
section
variable {s : ByteArray} {a i : Nat}
theorem flat_plain : ∀ {l : List Int}, (∀ c ∈ l, escJ c = [c]) → l.flatMap escJ = l
 | [], _ => rfl
 | c :: l, h => by rw [List.flatMap_cons, h c (.head _), flat_plain fun x hx => h x (.tail _ hx)]; rfl
theorem plain_in {j : Nat} (h : ∀ q, a ≤ q → q < j → escJ (atS s q) = [atS s q]) (hj : j ≤ s.size) : ∀ c ∈ ((sb s).take j).drop a, escJ c = [c] := fun c hc => by
  obtain ⟨k, hk⟩ := List.mem_iff_getElem?.1 hc
  rw [List.getElem?_drop, List.getElem?_take] at hk
  split at hk
  · rename_i hlt
    rw [sb_at (by omega)] at hk
    rw [← Option.some.inj hk]; exact h _ (by omega) hlt
  · cases hk
theorem txt_step (ha : a ≤ i) (hi : i < s.size) (h : ∀ q, a ≤ q → q < i → escJ (atS s q) = [atS s q]) : txtL s (i + 1) = txtL s a ++ (sb (s.extract a i) ++ escJ (atS s i)) := by
 unfold txtL
 have e : (sb s).take (i + 1) = (sb s).take a ++ (((sb s).take i).drop a ++ [atS s i]) := by
  rw [List.take_add_one, sb_at hi, ← List.append_assoc]
  congr 1
  rw [show (sb s).take a = ((sb s).take i).take a from by rw [List.take_take, Nat.min_eq_left ha], List.take_append_drop]
 rw [e, List.flatMap_append, List.flatMap_append, flat_plain (plain_in h (by omega)), ext_at]
 simp
theorem txt_end (ha : a ≤ s.size) (h : ∀ q, a ≤ q → q < s.size → escJ (atS s q) = [atS s q]) : quoJ s = txtL s a ++ (sb (s.extract a s.size) ++ [34]) := by
 unfold txtL quoJ
 have e0 : (sb s).take s.size = sb s := List.take_of_length_le (by rw [sb_length]; exact Nat.le_refl _)
 have e : sb s = (sb s).take a ++ ((sb s).take s.size).drop a := by
  rw [e0, List.take_append_drop]
 have e2 : (sb s).flatMap escJ = ((sb s).take a).flatMap escJ ++ ((sb s).take s.size).drop a := by
  conv => lhs; rw [e]
  rw [List.flatMap_append, flat_plain (plain_in h (Nat.le_refl _))]
 rw [e2, ext_at]
 simp
theorem fesc_len : ∀ l : List Int, (l.flatMap escJ).length ≤ 6 * l.length
 | [] => Nat.zero_le _
 | c :: l => by rw [List.flatMap_cons, List.length_append, List.length_cons]; have := fesc_len l; have := esc_len (c := c); omega
theorem txt_len : (txtL s a).length ≤ 6 * s.size + 1 := by
 unfold txtL
 have := fesc_len ((sb s).take a)
 rw [List.length_take, sb_length] at this
 rw [List.length_cons]; omega
theorem quo_len (s : ByteArray) : (quoJ s).length ≤ 6 * s.size + 2 := by
 unfold quoJ
 have := fesc_len (sb s)
 rw [sb_length] at this
 rw [List.length_cons, List.length_append, List.length_singleton]; omega
theorem txt_pre (hi : i ≤ s.size) : ∃ y, quoJ s = txtL s i ++ y := ⟨((sb s).drop i).flatMap escJ ++ [34], by
 unfold quoJ txtL
 conv => lhs; rw [← List.take_append_drop i (sb s), List.flatMap_append]
 simp⟩
theorem extr_size {j : Nat} : (s.extract a j).size ≤ s.size := by rw [← sb_length, ext_at, List.length_drop, List.length_take, sb_length]; omega
end
set_option maxHeartbeats 1000000 in
theorem ptext_v (P : Nat) (l : List Int) (m : Int) (s : ByteArray) (w w1 : World) (hB : Below w.heap.size w w1) (hst : PrS w.heap.size P l m w1) (hlen : l.length ≤ 1000000000) (hs : s.size ≤ 1000000) : CB Tryd.prog 28 [.pointer (some ⟨P, 0, none⟩), .string s] w w1 fun v W => v = .tuple #[] ∧ ∃ l', PrK m 6000002 l (quoJ s) l' ∧ PrS w.heap.size P l' m W := by
 refine cb_enter (N := 56) (f := [(0, .pointer (some ⟨P, 0, none⟩)), (1, .string s)]) Tryd.func28 rfl rfl rfl rfl fun Q hQ hE => ?_
 have hL := LL.nil w1
 refine Sq fun K1 hK1 => (Rg (Pu rfl (Va (dx_nilCheck rfl rfl) rfl rfl (Va (dx_fld (o1 := 0) rfl ty_fld_46_0_0 rfl rfl) rfl rfl ?_))))
 refine Ge (dx_cb rfl Tryd.func44 rfl rfl rfl (wbyte_v P l m 34 w w1 hB hst (by (try simp only [List.length_append, List.length_cons, List.length_nil]); omega) (by omega) (by omega))) rfl rfl ?_
 rintro _ W2 ⟨⟨rfl, hst⟩, hB⟩
 have hL := LL.nil W2
 refine Ni (hK1 (Sq fun K3 hK3 => (Rg (Pu rfl (Ni (hK3 (Sq fun K4 hK4 => ?_)))))))
 refine Sq fun K5 hK5 => (Rg (Pu rfl (Va (dx_lenT rfl Tryd.underlying9 rfl) rfl rfl (Pu rfl (Ni (hK5 (WC.block ?_)))))))
 rw [← txt_0 s] at hst
 refine WC.loop2 (fun (i : Nat) (a : Nat) => [(0, .pointer (some ⟨P, 0, none⟩)), (1, .string s), (11, .string s), (12, .int .i64 (s.size : Int)), (13, .int .i64 (i : Int)), (4, .int .i64 (a : Int))]) (fun (i : Nat) (a : Nat) W => i ≤ s.size ∧ a ≤ i ∧ (∀ q, a ≤ q → q < i → escJ (atS s q) = [atS s q]) ∧ Below w.heap.size w W ∧ LL ([]) W ∧ PrS w.heap.size P (l ++ txtL s a) m W) (fun (i : Nat) (a : Nat) => s.size - i) 0 0 (by repeat first | exact trivial | exact And.intro rfl trivial | refine And.intro rfl ?_ | refine And.intro (congrArg (fun z : Int => some (Value.int .i64 z)) (by omega)) ?_) ⟨Nat.zero_le _, Nat.le_refl _, (fun q h1 h2 => by omega), hB, hL, hst⟩ ?_
 clear hst hB hL
 rintro K6 i a W7 ⟨hi, ha, hpl, hB, hL, hst⟩ hK6
 refine Sq fun K8 hK8 => (Rg (Va (dx_lss rfl rfl rfl) rfl rfl (Ni (hK8 (Sq fun K9 hK9 => ?_)))))
 refine WC.cond rfl (fun c10 => ?_) (fun c10 => ?_)
 ·
  replace c10 := dT c10
  refine WC.skip (hK9 (Sq fun K11 hK11 => (WC.block (Sq fun K12 hK12 => (Rg (Pu rfl (Pu rfl ?_)))))))
  refine Ni (hK12 (Sq fun K13 hK13 => (Rg (Pu rfl (Pu rfl (Va (dx_at i rfl Tryd.underlying9 rfl rfl (by omega) (by omega)) rfl rfl (Pu rfl ?_)))))))
  refine Ni (hK13 (Sq fun K14 hK14 => (Sq fun K15 hK15 => (Rg (Pu rfl (Va (dx_geq rfl rfl rfl) rfl rfl (Pu rfl ?_)))))))
  refine WL.split 21 rfl (fun g16 => ?_) (fun g16 => ?_)
  ·
   replace g16 := dT g16
   refine Pu rfl (Va (dx_neq rfl rfl rfl) rfl rfl (Pu rfl (Pu rfl ?_)))
   refine WL.split 25 rfl (fun g17 => ?_) (fun g17 => ?_)
   ·
    replace g17 := bnot_t g17
    replace g17 := dF g17
    refine Pu rfl (Va (dx_neq rfl rfl rfl) rfl rfl (Pu rfl (Ni (hK15 ?_))))
    refine WC.cond rfl (fun c18 => ?_) (fun c18 => ?_)
    ·
     replace c18 := bnot_t c18
     replace c18 := dF c18
     refine WC.exit ?_
     refine hK11 (Rg (Va (dx_add (r := (i : Int) + 1) rfl rfl rfl (wrap64_id (by omega))) rfl rfl (Pu rfl (Ni ?_))))
     exact hK6 (i + 1) a ⟨(by omega), (by omega), (fun q h1 h2 => by rcases Nat.lt_or_ge q i with h_ | h_; exact hpl q h1 h_; obtain rfl : q = i := (by omega); exact esc_p (by omega) (by first | assumption | omega) (by first | assumption | omega)), hB, hL, hst⟩ (by omega) (by repeat first | exact trivial | exact And.intro rfl trivial | refine And.intro rfl ?_ | refine And.intro (congrArg (fun z : Int => some (Value.int .i64 z)) (by omega)) ?_)
    ·
     replace c18 := bnot_f c18
     replace c18 := dT c18
     refine WC.skip (hK14 (Sq fun K19 hK19 => ?_))
     have hesc : atS s i < 32 ∨ atS s i = 34 ∨ atS s i = 92 := by first | omega | (simp_all; omega)
     have hc2 := atS_lo s i
     refine WC.drawM 7 [(some 29, .is (.pointer (some ⟨P, 0, none⟩))), (some 30, .is (.pointer (some ⟨P, 0, none⟩))), (some 31, .is (.pointer (some ⟨P, 0, none⟩))), (some 32, .is (.string s)), (some 33, .is (.int .i64 (a : Int))), (some 34, .is (.int .i64 (i : Int))), (some 35, .is (.string ((s).extract a i)))] [[], [0], [1], [], [], [], [3, 4, 5]] (by kernel_rfl) (by kernel_rfl) (by kernel_rfl) (by kernel_rfl) (by kernel_rfl) (by kernel_rfl) (by kernel_rfl) (by exact trivial) ?_ ?_
     ·
      refine Dc (fun Wd hd => ?_) ?_
      ·
       exact Dd (dx_move rfl rfl) rfl
      refine Dc (fun Wd hd => ?_) ?_
      ·
       exact Dd (dx_nilCheck rfl rfl) rfl
      refine Dc (fun Wd hd => ?_) ?_
      ·
       exact Dd (dx_fld (o1 := 0) rfl ty_fld_46_0_0 rfl rfl) rfl
      refine Dc (fun Wd hd => ?_) ?_
      ·
       exact Dd (dx_move rfl rfl) rfl
      refine Dc (fun Wd hd => ?_) ?_
      ·
       exact Dd (dx_move rfl rfl) rfl
      refine Dc (fun Wd hd => ?_) ?_
      ·
       exact Dd (dx_move rfl rfl) rfl
      refine Dc (fun Wd hd => ?_) ?_
      ·
       exact Dd (dx_slTLH a i rfl Tryd.underlying9 rfl rfl rfl (by omega) (by omega) (by omega) (by omega)) rfl
      exact trivial
     ·
      intro W20 b21
      replace hst := hst.below b21
      replace hB := below_then hB b21
      replace hL := LL.below hL b21
      refine Ge (dx_cb rfl Tryd.func38 rfl rfl rfl (wstr_v P (l ++ txtL s a) m ((s).extract a i) w W20 hB hst (by have h1_ := txt_len (s := s) (a := a); have h2_ := extr_size (s := s) (a := a) (j := i); have h3_ := extr_size (s := s) (a := a) (j := s.size); (try simp only [List.length_append, List.length_cons, List.length_nil, sb_length]); omega) (by have h2_ := extr_size (s := s) (a := a) (j := i); omega))) rfl rfl ?_
      rintro _ W22 ⟨⟨rfl, hst⟩, hB⟩
      have hL := LL.nil W22
      refine Ni (hK19 (Sq fun K23 hK23 => (Rg (Pu rfl (Pu rfl ?_)))))
      refine Ge (dx_cb rfl Tryd.func45 rfl rfl rfl (pesc_v P ((l ++ txtL s a) ++ sb ((s).extract a i)) m (atS s i) w W22 hB hst (by have h1_ := txt_len (s := s) (a := a); have h2_ := extr_size (s := s) (a := a) (j := i); have h3_ := extr_size (s := s) (a := a) (j := s.size); (try simp only [List.length_append, List.length_cons, List.length_nil, sb_length]); omega) (atS_lo s i).1 hesc)) rfl rfl ?_
      rintro _ W24 ⟨⟨rfl, hst⟩, hB⟩
      have hL := LL.nil W24
      refine Ni (hK23 (Sq fun K25 hK25 => (Rg (Pu rfl (Va (dx_add (r := ((i + 1 : Nat) : Int)) rfl rfl rfl (by rw [wrap64_id (by omega)]; omega)) rfl rfl (Pu rfl (Ni ?_)))))))
      refine hK25 (Sq fun K26 hK26 => (Rg (Pu rfl ?_)))
      refine Ge (dx_cb rfl Tryd.func23 rfl rfl rfl (full_v P (((l ++ txtL s a) ++ sb ((s).extract a i)) ++ escJ (atS s i)) m w W24 hB hst)) rfl rfl ?_
      rintro _ W27 ⟨⟨rfl, hst⟩, hB⟩
      have hL := LL.nil W27
      refine Ni (hK26 ?_)
      refine WC.cond rfl (fun c28 => ?_) (fun c28 => ?_)
      ·
       replace c28 := dT c28
       exact WC.ret fun a_ ha_ => hQ (cv_ret0 rfl  ⟨rfl, _, (by obtain ⟨y_, hy_⟩ := txt_pre (s := s) (i := i + 1) (by omega); rw [hy_]; exact prK_stop (prK_exact (x := txtL s (i + 1)) (by rw [txt_step ha (by omega) hpl]; simp) (by have := txt_len (s := s) (a := i + 1); omega)) (by omega)), hst⟩ hB ha_)
      ·
       replace c28 := dF c28
       refine WC.skip (hK11 (Rg (Va (dx_add (r := (i : Int) + 1) rfl rfl rfl (wrap64_id (by omega))) rfl rfl (Pu rfl (Ni ?_)))))
       have hst2 : PrS w.heap.size P (l ++ txtL s (i + 1)) m W27 := by rw [txt_step ha (by omega) hpl]; simpa using hst
       exact hK6 (i + 1) (i + 1) ⟨(by omega), (by omega), (fun q h1 h2 => by omega), hB, hL, hst2⟩ (by omega) (by repeat first | exact trivial | exact And.intro rfl trivial | refine And.intro rfl ?_ | refine And.intro (congrArg (fun z : Int => some (Value.int .i64 z)) (by omega)) ?_)
   ·
    replace g17 := bnot_f g17
    replace g17 := dT g17
    refine Of rfl (Of rfl (Pu rfl (Ni (hK15 (WC.condF rfl (WC.skip (hK14 ?_)))))))
    refine Sq fun K29 hK29 => ?_
    have hesc : atS s i < 32 ∨ atS s i = 34 ∨ atS s i = 92 := by first | omega | (simp_all; omega)
    have hc2 := atS_lo s i
    refine WC.drawM 7 [(some 29, .is (.pointer (some ⟨P, 0, none⟩))), (some 30, .is (.pointer (some ⟨P, 0, none⟩))), (some 31, .is (.pointer (some ⟨P, 0, none⟩))), (some 32, .is (.string s)), (some 33, .is (.int .i64 (a : Int))), (some 34, .is (.int .i64 (i : Int))), (some 35, .is (.string ((s).extract a i)))] [[], [0], [1], [], [], [], [3, 4, 5]] (by kernel_rfl) (by kernel_rfl) (by kernel_rfl) (by kernel_rfl) (by kernel_rfl) (by kernel_rfl) (by kernel_rfl) (by exact trivial) ?_ ?_
    ·
     refine Dc (fun Wd hd => ?_) ?_
     ·
      exact Dd (dx_move rfl rfl) rfl
     refine Dc (fun Wd hd => ?_) ?_
     ·
      exact Dd (dx_nilCheck rfl rfl) rfl
     refine Dc (fun Wd hd => ?_) ?_
     ·
      exact Dd (dx_fld (o1 := 0) rfl ty_fld_46_0_0 rfl rfl) rfl
     refine Dc (fun Wd hd => ?_) ?_
     ·
      exact Dd (dx_move rfl rfl) rfl
     refine Dc (fun Wd hd => ?_) ?_
     ·
      exact Dd (dx_move rfl rfl) rfl
     refine Dc (fun Wd hd => ?_) ?_
     ·
      exact Dd (dx_move rfl rfl) rfl
     refine Dc (fun Wd hd => ?_) ?_
     ·
      exact Dd (dx_slTLH a i rfl Tryd.underlying9 rfl rfl rfl (by omega) (by omega) (by omega) (by omega)) rfl
     exact trivial
    ·
     intro W30 b31
     replace hst := hst.below b31
     replace hB := below_then hB b31
     replace hL := LL.below hL b31
     refine Ge (dx_cb rfl Tryd.func38 rfl rfl rfl (wstr_v P (l ++ txtL s a) m ((s).extract a i) w W30 hB hst (by have h1_ := txt_len (s := s) (a := a); have h2_ := extr_size (s := s) (a := a) (j := i); have h3_ := extr_size (s := s) (a := a) (j := s.size); (try simp only [List.length_append, List.length_cons, List.length_nil, sb_length]); omega) (by have h2_ := extr_size (s := s) (a := a) (j := i); omega))) rfl rfl ?_
     rintro _ W32 ⟨⟨rfl, hst⟩, hB⟩
     have hL := LL.nil W32
     refine Ni (hK29 (Sq fun K33 hK33 => (Rg (Pu rfl (Pu rfl ?_)))))
     refine Ge (dx_cb rfl Tryd.func45 rfl rfl rfl (pesc_v P ((l ++ txtL s a) ++ sb ((s).extract a i)) m (atS s i) w W32 hB hst (by have h1_ := txt_len (s := s) (a := a); have h2_ := extr_size (s := s) (a := a) (j := i); have h3_ := extr_size (s := s) (a := a) (j := s.size); (try simp only [List.length_append, List.length_cons, List.length_nil, sb_length]); omega) (atS_lo s i).1 hesc)) rfl rfl ?_
     rintro _ W34 ⟨⟨rfl, hst⟩, hB⟩
     have hL := LL.nil W34
     refine Ni (hK33 (Sq fun K35 hK35 => (Rg (Pu rfl (Va (dx_add (r := ((i + 1 : Nat) : Int)) rfl rfl rfl (by rw [wrap64_id (by omega)]; omega)) rfl rfl (Pu rfl (Ni ?_)))))))
     refine hK35 (Sq fun K36 hK36 => (Rg (Pu rfl ?_)))
     refine Ge (dx_cb rfl Tryd.func23 rfl rfl rfl (full_v P (((l ++ txtL s a) ++ sb ((s).extract a i)) ++ escJ (atS s i)) m w W34 hB hst)) rfl rfl ?_
     rintro _ W37 ⟨⟨rfl, hst⟩, hB⟩
     have hL := LL.nil W37
     refine Ni (hK36 ?_)
     refine WC.cond rfl (fun c38 => ?_) (fun c38 => ?_)
     ·
      replace c38 := dT c38
      exact WC.ret fun a_ ha_ => hQ (cv_ret0 rfl  ⟨rfl, _, (by obtain ⟨y_, hy_⟩ := txt_pre (s := s) (i := i + 1) (by omega); rw [hy_]; exact prK_stop (prK_exact (x := txtL s (i + 1)) (by rw [txt_step ha (by omega) hpl]; simp) (by have := txt_len (s := s) (a := i + 1); omega)) (by omega)), hst⟩ hB ha_)
     ·
      replace c38 := dF c38
      refine WC.skip (hK11 (Rg (Va (dx_add (r := (i : Int) + 1) rfl rfl rfl (wrap64_id (by omega))) rfl rfl (Pu rfl (Ni ?_)))))
      have hst2 : PrS w.heap.size P (l ++ txtL s (i + 1)) m W37 := by rw [txt_step ha (by omega) hpl]; simpa using hst
      exact hK6 (i + 1) (i + 1) ⟨(by omega), (by omega), (fun q h1 h2 => by omega), hB, hL, hst2⟩ (by omega) (by repeat first | exact trivial | exact And.intro rfl trivial | refine And.intro rfl ?_ | refine And.intro (congrArg (fun z : Int => some (Value.int .i64 z)) (by omega)) ?_)
  ·
   replace g16 := dF g16
   refine Of rfl (Of rfl (Pu rfl (Pu rfl (Of rfl (Of rfl (Pu rfl (Ni ?_)))))))
   refine hK15 (WC.condF rfl (WC.skip (hK14 (Sq fun K39 hK39 => ?_))))
   have hesc : atS s i < 32 ∨ atS s i = 34 ∨ atS s i = 92 := by first | omega | (simp_all; omega)
   have hc2 := atS_lo s i
   refine WC.drawM 7 [(some 29, .is (.pointer (some ⟨P, 0, none⟩))), (some 30, .is (.pointer (some ⟨P, 0, none⟩))), (some 31, .is (.pointer (some ⟨P, 0, none⟩))), (some 32, .is (.string s)), (some 33, .is (.int .i64 (a : Int))), (some 34, .is (.int .i64 (i : Int))), (some 35, .is (.string ((s).extract a i)))] [[], [0], [1], [], [], [], [3, 4, 5]] (by kernel_rfl) (by kernel_rfl) (by kernel_rfl) (by kernel_rfl) (by kernel_rfl) (by kernel_rfl) (by kernel_rfl) (by exact trivial) ?_ ?_
   ·
    refine Dc (fun Wd hd => ?_) ?_
    ·
     exact Dd (dx_move rfl rfl) rfl
    refine Dc (fun Wd hd => ?_) ?_
    ·
     exact Dd (dx_nilCheck rfl rfl) rfl
    refine Dc (fun Wd hd => ?_) ?_
    ·
     exact Dd (dx_fld (o1 := 0) rfl ty_fld_46_0_0 rfl rfl) rfl
    refine Dc (fun Wd hd => ?_) ?_
    ·
     exact Dd (dx_move rfl rfl) rfl
    refine Dc (fun Wd hd => ?_) ?_
    ·
     exact Dd (dx_move rfl rfl) rfl
    refine Dc (fun Wd hd => ?_) ?_
    ·
     exact Dd (dx_move rfl rfl) rfl
    refine Dc (fun Wd hd => ?_) ?_
    ·
     exact Dd (dx_slTLH a i rfl Tryd.underlying9 rfl rfl rfl (by omega) (by omega) (by omega) (by omega)) rfl
    exact trivial
   ·
    intro W40 b41
    replace hst := hst.below b41
    replace hB := below_then hB b41
    replace hL := LL.below hL b41
    refine Ge (dx_cb rfl Tryd.func38 rfl rfl rfl (wstr_v P (l ++ txtL s a) m ((s).extract a i) w W40 hB hst (by have h1_ := txt_len (s := s) (a := a); have h2_ := extr_size (s := s) (a := a) (j := i); have h3_ := extr_size (s := s) (a := a) (j := s.size); (try simp only [List.length_append, List.length_cons, List.length_nil, sb_length]); omega) (by have h2_ := extr_size (s := s) (a := a) (j := i); omega))) rfl rfl ?_
    rintro _ W42 ⟨⟨rfl, hst⟩, hB⟩
    have hL := LL.nil W42
    refine Ni (hK39 (Sq fun K43 hK43 => (Rg (Pu rfl (Pu rfl ?_)))))
    refine Ge (dx_cb rfl Tryd.func45 rfl rfl rfl (pesc_v P ((l ++ txtL s a) ++ sb ((s).extract a i)) m (atS s i) w W42 hB hst (by have h1_ := txt_len (s := s) (a := a); have h2_ := extr_size (s := s) (a := a) (j := i); have h3_ := extr_size (s := s) (a := a) (j := s.size); (try simp only [List.length_append, List.length_cons, List.length_nil, sb_length]); omega) (atS_lo s i).1 hesc)) rfl rfl ?_
    rintro _ W44 ⟨⟨rfl, hst⟩, hB⟩
    have hL := LL.nil W44
    refine Ni (hK43 (Sq fun K45 hK45 => (Rg (Pu rfl (Va (dx_add (r := ((i + 1 : Nat) : Int)) rfl rfl rfl (by rw [wrap64_id (by omega)]; omega)) rfl rfl (Pu rfl (Ni ?_)))))))
    refine hK45 (Sq fun K46 hK46 => (Rg (Pu rfl ?_)))
    refine Ge (dx_cb rfl Tryd.func23 rfl rfl rfl (full_v P (((l ++ txtL s a) ++ sb ((s).extract a i)) ++ escJ (atS s i)) m w W44 hB hst)) rfl rfl ?_
    rintro _ W47 ⟨⟨rfl, hst⟩, hB⟩
    have hL := LL.nil W47
    refine Ni (hK46 ?_)
    refine WC.cond rfl (fun c48 => ?_) (fun c48 => ?_)
    ·
     replace c48 := dT c48
     exact WC.ret fun a_ ha_ => hQ (cv_ret0 rfl  ⟨rfl, _, (by obtain ⟨y_, hy_⟩ := txt_pre (s := s) (i := i + 1) (by omega); rw [hy_]; exact prK_stop (prK_exact (x := txtL s (i + 1)) (by rw [txt_step ha (by omega) hpl]; simp) (by have := txt_len (s := s) (a := i + 1); omega)) (by omega)), hst⟩ hB ha_)
    ·
     replace c48 := dF c48
     refine WC.skip (hK11 (Rg (Va (dx_add (r := (i : Int) + 1) rfl rfl rfl (wrap64_id (by omega))) rfl rfl (Pu rfl (Ni ?_)))))
     have hst2 : PrS w.heap.size P (l ++ txtL s (i + 1)) m W47 := by rw [txt_step ha (by omega) hpl]; simpa using hst
     exact hK6 (i + 1) (i + 1) ⟨(by omega), (by omega), (fun q h1 h2 => by omega), hB, hL, hst2⟩ (by omega) (by repeat first | exact trivial | exact And.intro rfl trivial | refine And.intro rfl ?_ | refine And.intro (congrArg (fun z : Int => some (Value.int .i64 z)) (by omega)) ?_)
 ·
  replace c10 := dF c10
  refine WC.exit ?_
  refine hK4 (Sq fun K49 hK49 => ?_)
  refine WC.drawM 6 [(some 45, .is (.pointer (some ⟨P, 0, none⟩))), (some 46, .is (.pointer (some ⟨P, 0, none⟩))), (some 47, .is (.pointer (some ⟨P, 0, none⟩))), (some 48, .is (.string s)), (some 49, .is (.int .i64 (a : Int))), (some 50, .is (.string (s.extract a s.size)))] [[], [0], [1], [], [], [3, 4]] (by kernel_rfl) (by kernel_rfl) (by kernel_rfl) (by kernel_rfl) (by kernel_rfl) (by kernel_rfl) (by kernel_rfl) (by exact trivial) ?_ ?_
  ·
   refine Dc (fun Wd hd => ?_) ?_
   ·
    exact Dd (dx_move rfl rfl) rfl
   refine Dc (fun Wd hd => ?_) ?_
   ·
    exact Dd (dx_nilCheck rfl rfl) rfl
   refine Dc (fun Wd hd => ?_) ?_
   ·
    exact Dd (dx_fld (o1 := 0) rfl ty_fld_46_0_0 rfl rfl) rfl
   refine Dc (fun Wd hd => ?_) ?_
   ·
    exact Dd (dx_move rfl rfl) rfl
   refine Dc (fun Wd hd => ?_) ?_
   ·
    exact Dd (dx_move rfl rfl) rfl
   refine Dc (fun Wd hd => ?_) ?_
   ·
    exact Dd (dx_slTL a rfl Tryd.underlying9 rfl rfl rfl (by omega)) rfl
   exact trivial
  ·
   intro W50 b51
   replace hst := hst.below b51
   replace hB := below_then hB b51
   replace hL := LL.below hL b51
   refine Ge (dx_cb rfl Tryd.func38 rfl rfl rfl (wstr_v P (l ++ txtL s a) m (s.extract a s.size) w W50 hB hst (by have h1_ := txt_len (s := s) (a := a); have h2_ := extr_size (s := s) (a := a) (j := i); have h3_ := extr_size (s := s) (a := a) (j := s.size); (try simp only [List.length_append, List.length_cons, List.length_nil, sb_length]); omega) (by have h2_ := extr_size (s := s) (a := a) (j := s.size); omega))) rfl rfl ?_
   rintro _ W52 ⟨⟨rfl, hst⟩, hB⟩
   have hL := LL.nil W52
   refine Ni (hK49 (Rg (Pu rfl (Va (dx_nilCheck rfl rfl) rfl rfl (Va (dx_fld (o1 := 0) rfl ty_fld_46_0_0 rfl rfl) rfl rfl ?_)))))
   refine Ge (dx_cb rfl Tryd.func44 rfl rfl rfl (wbyte_v P ((l ++ txtL s a) ++ sb (s.extract a s.size)) m 34 w W52 hB hst (by have h1_ := txt_len (s := s) (a := a); have h2_ := extr_size (s := s) (a := a) (j := i); have h3_ := extr_size (s := s) (a := a) (j := s.size); (try simp only [List.length_append, List.length_cons, List.length_nil, sb_length]); omega) (by omega) (by omega))) rfl rfl ?_
   rintro _ W53 ⟨⟨rfl, hst⟩, hB⟩
   have hL := LL.nil W53
   refine Ni ?_
   intro a_ ha_
   exact hE (cv_ret0 rfl  ⟨rfl, _, prK_exact (x := quoJ s) (by rw [txt_end (by omega) (fun q h1 h2 => hpl q h1 (by omega))]; simp) (by have := quo_len s; omega), hst⟩ hB ha_)

end Go.Proofs.YtghpdnfdbhjmpaaDoor
namespace Go.Proofs
open Go.Shelf
def Tryd.laysM171_ren : Go.Shelf.Ren := ⟨fun | 171 => 39 | 243 => 58 | 246 => 71 | 283 => 82 | 284 => 83 | 285 => 84 | 286 => 85 | 129 => 95 | 317 => 94 | 318 => 96 | 319 => 97 | 320 => 98 | 337 => 103 | 338 => 104 | n => n, fun | 3 => 3 | 9 => 9 | 2 => 2 | 4 => 4 | 171 => 110 | 0 => 0 | 53 => 111 | 37 => 42 | 5 => 5 | 173 => 114 | 212 => 126 | 51 => 127 | 20 => 20 | 213 => 128 | 46 => 89 | 232 => 135 | 233 => 136 | n => n, fun | 17 => 0 | 18 => 1 | 19 => 2 | n => n⟩
theorem Tryd.laysM171 : Go.Proofs.LaysM.n171 Tryd.prog Tryd.laysM171_ren := {
 mixed := by kernel_rfl
 f129 := Tryd.func95.trans (congrArg some (by kernel_rfl))
 f171 := Tryd.func39.trans (congrArg some (by kernel_rfl))
 f243 := Tryd.func58.trans (congrArg some (by kernel_rfl))
 f246 := Tryd.func71.trans (congrArg some (by kernel_rfl))
 f283 := Tryd.func82.trans (congrArg some (by kernel_rfl))
 f284 := Tryd.func83.trans (congrArg some (by kernel_rfl))
 f285 := Tryd.func84.trans (congrArg some (by kernel_rfl))
 f286 := Tryd.func85.trans (congrArg some (by kernel_rfl))
 f317 := Tryd.func94.trans (congrArg some (by kernel_rfl))
 f318 := Tryd.func96.trans (congrArg some (by kernel_rfl))
 f319 := Tryd.func97.trans (congrArg some (by kernel_rfl))
 f320 := Tryd.func98.trans (congrArg some (by kernel_rfl))
 f337 := Tryd.func103.trans (congrArg some (by kernel_rfl))
 f338 := Tryd.func104.trans (congrArg some (by kernel_rfl))
 t0 := Tryd.underlying0
 a0 := Tryd.isAgg0
 z0 := Tryd.sizeOf0
 v0 := Tryd.zeroValue0
 t2 := Tryd.underlying2
 a2 := Tryd.isAgg2
 z2 := Tryd.sizeOf2
 v2 := Tryd.zeroValue2
 t3 := Tryd.underlying3
 a3 := Tryd.isAgg3
 z3 := Tryd.sizeOf3
 v3 := Tryd.zeroValue3
 t4 := Tryd.underlying4
 a4 := Tryd.isAgg4
 z4 := Tryd.sizeOf4
 v4 := Tryd.zeroValue4
 t5 := Tryd.underlying5
 a5 := Tryd.isAgg5
 z5 := Tryd.sizeOf5
 v5 := Tryd.zeroValue5
 t9 := Tryd.underlying9
 a9 := Tryd.isAgg9
 z9 := Tryd.sizeOf9
 v9 := Tryd.zeroValue9
 t20 := Tryd.underlying20
 a20 := Tryd.isAgg20
 z20 := Tryd.sizeOf20
 v20 := Tryd.zeroValue20
 t37 := Tryd.underlying42
 a37 := Tryd.isAgg42
 z37 := Tryd.sizeOf42
 v37 := Tryd.zeroValue42
 t46 := Tryd.underlying89
 a46 := Tryd.isAgg89
 z46 := Tryd.sizeOf89
 v46 := Tryd.zeroValue89
 t51 := Tryd.underlying127
 a51 := Tryd.isAgg127
 z51 := Tryd.sizeOf127
 v51 := Tryd.zeroValue127
 t53 := Tryd.underlying111
 a53 := Tryd.isAgg111
 z53 := Tryd.sizeOf111
 v53 := Tryd.zeroValue111
 t171 := Tryd.underlying110
 a171 := Tryd.isAgg110
 z171 := Tryd.sizeOf110
 v171 := Tryd.zeroValue110
 t173 := Tryd.underlying114
 a173 := Tryd.isAgg114
 z173 := Tryd.sizeOf114
 v173 := Tryd.zeroValue114
 t212 := Tryd.underlying126
 a212 := Tryd.isAgg126
 z212 := Tryd.sizeOf126
 v212 := Tryd.zeroValue126
 t213 := Tryd.underlying128
 a213 := Tryd.isAgg128
 z213 := Tryd.sizeOf128
 t232 := Tryd.underlying135
 a232 := Tryd.isAgg135
 z232 := Tryd.sizeOf135
 v232 := Tryd.zeroValue135
 t233 := Tryd.underlying136
 a233 := Tryd.isAgg136
 z233 := Tryd.sizeOf136
 v233 := Tryd.zeroValue136
 g17 := by kernel_rfl
 g18 := by kernel_rfl
 g19 := by kernel_rfl
 i0 := by kernel_rfl
 i2 := by kernel_rfl
 i3 := by kernel_rfl
 i4 := by kernel_rfl
 i5 := by kernel_rfl
 i9 := by kernel_rfl
 i20 := by kernel_rfl
 i37 := by kernel_rfl
 i46 := by kernel_rfl
 i51 := by kernel_rfl
 i53 := by kernel_rfl
 i171 := by kernel_rfl
 i173 := by kernel_rfl
 i212 := by kernel_rfl
 i232 := by kernel_rfl
 i233 := by kernel_rfl
 m17 := by kernel_rfl
 m18 := by kernel_rfl
 m19 := by kernel_rfl }
open Go.RowKit Go.Sort Go.Lib in
theorem Tryd.strconv_Itoa (n : Int) (h0 : -9223372036854775808 ≤ n) (h1 : n ≤ 9223372036854775807) (w : World) (htab : Lib.TabIs Tryd.prog w "internal/strconv.uint64pow10" .u64 Lib.pow10Tab) :
  Calls Tryd.prog 39 #[.int .i64 n] w fun e w' => e = .returned (.string ⟨(Lib.itoa n).toArray⟩) ∧ ∃ k os, w' = grow (w.drewN k) os := Any.strconv_Itoa Tryd.laysM171 n h0 h1 w htab
end Go.Proofs
namespace Go.Proofs.YtghpdnfdbhjmpaaDoor
open Go.RowKit
set_option linter.unusedVariables false
set_option linter.unusedSimpArgs false
set_option maxRecDepth 8000
set_option maxHeartbeats 2000000

abbrev tabP (w : World) : Prop := Lib.TabIs Tryd.prog w "internal/strconv.uint64pow10" .u64 Lib.pow10Tab
theorem tabP_below {w w' : World} (h : tabP w) (hb : Below w.heap.size w w') : tabP w' := by
 unfold tabP Lib.TabIs World.var? at *
 cases hg : Tryd.prog.globalNamed "internal/strconv.uint64pow10" with
 | none => rw [hg] at h; cases h
 | some g =>
  rw [hg] at h
  simp only [Option.bind_some] at h ⊢
  have hlt : g < w.heap.size := by
   rcases Nat.lt_or_ge g w.heap.size with h1 | h1
   · exact h1
   · rw [Array.getElem?_eq_none h1] at h; cases h
  rw [hb.block g hlt]; exact h
theorem itoa_v (n : Int) (w : World) (h : tabP w) (h0 : -9223372036854775808 ≤ n) (h1 : n ≤ 9223372036854775807) : CV Tryd.prog 39 [.int .i64 n] w fun v W => v = .string ⟨(Lib.itoa n).toArray⟩ :=
 (Tryd.strconv_Itoa n h0 h1 w h).mono fun e w' ⟨he, k, os, hw⟩ => ⟨_, he, rfl, by rw [hw]; exact Lib.below_grow _ w (Nat.le_refl _) k os⟩
theorem itoa_sb (n : Int) : sb ⟨(Lib.itoa n).toArray⟩ = numJ n := by
 rw [show sb ⟨(Lib.itoa n).toArray⟩ = (Lib.itoa n).map (fun c => (c.toNat : Int)) from by simp [sb]]
 unfold Lib.itoa numJ decL
 split <;> rfl
theorem decL_len : ∀ (k u : Nat), u < 10 ^ k → (decL u).length ≤ max k 1
  | 0, u, h => by
    have : u = 0 := by simpa using h
    subst this; unfold decL; rw [Lib.decDigits]; simp
  | k + 1, u, h => by
    unfold decL
    rw [Lib.decDigits]
    split
    · simp
    · have := decL_len k (u / 10) (by rw [Nat.pow_succ] at h; omega)
      unfold decL at this
      rw [List.length_map] at this
      rw [List.length_map, List.length_append, List.length_singleton]
      rcases Nat.eq_zero_or_pos k with rfl | hk
      · rw [Nat.pow_succ] at h; omega
      · omega
theorem numJ_len {n : Int} (h0 : -9223372036854775808 ≤ n) (h1 : n ≤ 9223372036854775807) : (numJ n).length ≤ 21 := by
  unfold numJ
  split
  · have := decL_len 20 n.natAbs (by omega)
    rw [List.length_cons]; omega
  · have := decL_len 20 n.toNat (by omega)
    omega
theorem itoa_size (n : Int) (h0 : -9223372036854775808 ≤ n) (h1 : n ≤ 9223372036854775807) : (⟨(Lib.itoa n).toArray⟩ : ByteArray).size ≤ 21 := by
 rw [← sb_length, itoa_sb]; exact numJ_len h0 h1
theorem ptB_base {L : List Nat} {w W : World} {u : Value} {cs : List Value} (h : PtB w.heap.size L W u cs) (hb : Below w.heap.size w W) : PtR L w u cs := by
 obtain ⟨h0, X, q, rfl, hx, hX, hr⟩ := h
 refine ⟨h0, X, q, rfl, hX, fun j v hj => ?_⟩
 have := hr j v hj
 have e := hb.block X hx
 simp only [World.cell?, e] at this ⊢
 exact this
-- pieces
theorem comma_add (ps : List (List Int)) (i : Nat) (p : List Int) (h : ps[i]? = some p) : commaJ (ps.take (i + 1)) = commaJ (ps.take i) ++ ((if i = 0 then [] else [44]) ++ p) := by
 rw [List.take_add_one, h]
 cases i with
 | zero => simp [commaJ]
 | succ k =>
  cases ps with
  | nil => cases h
  | cons x l => simp [commaJ, List.take_succ_cons]
theorem comma_tail (ps : List (List Int)) (i : Nat) : ∃ y, commaJ ps = commaJ (ps.take i) ++ y := by
 cases i with
 | zero => exact ⟨commaJ ps, rfl⟩
 | succ k =>
  cases ps with
  | nil => exact ⟨[], rfl⟩
  | cons x l =>
   refine ⟨(l.drop k).flatMap fun y => 44 :: y, ?_⟩
   rw [List.take_succ_cons, commaJ, commaJ, List.append_assoc, ← List.flatMap_append, List.take_append_drop]
def pcs (n : Nat) (j : Js) : List (List Int) := if j.kind = 5 then j.items.map (prJ n) else (j.names.zip j.items).map fun p => quoJ p.1 ++ (58 :: prJ n p.2)
theorem pcs_5 {n i : Nat} {t c : Tr} (hk : t.kind = 5) (hc : t.items[i]? = some c) : (pcs n t.er)[i]? = some (prJ n c.er) := by
 unfold pcs; rw [if_pos (by rw [er_kind]; exact hk), er_items, List.getElem?_map, List.getElem?_map, hc]; rfl
theorem pcs_6 {n i : Nat} {t c : Tr} {a : ByteArray} (hk : t.kind = 6) (hc : t.items[i]? = some c) (ha : t.names[i]? = some a) : (pcs n t.er)[i]? = some (quoJ a ++ (58 :: prJ n c.er)) := by
 unfold pcs
 rw [if_neg (by rw [er_kind]; omega), er_names, er_items, List.getElem?_map, show (t.names.zip (t.items.map Tr.er))[i]? = some (a, c.er) from List.getElem?_zip_eq_some.2 ⟨ha, by rw [List.getElem?_map, hc]; rfl⟩]; rfl
theorem pcs_len5 {n : Nat} {t : Tr} (hk : t.kind = 5) : (pcs n t.er).length = t.items.length := by unfold pcs; rw [if_pos (by rw [er_kind]; exact hk), er_items, List.length_map, List.length_map]
theorem pcs_len6 {n : Nat} {t : Tr} (hk : t.kind = 6) (hl : t.names.length = t.items.length) : (pcs n t.er).length = t.items.length := by
 unfold pcs; rw [if_neg (by rw [er_kind]; omega), er_items, er_names, List.length_map, List.length_zip, List.length_map]; omega
theorem pr_5 {n : Nat} {t : Tr} (hk : t.kind = 5) : prJ (n + 1) t.er = 91 :: (commaJ (pcs n t.er) ++ [93]) := by rw [prJ_5 (by rw [er_kind]; exact hk)]; unfold pcs; rw [if_pos (by rw [er_kind]; exact hk)]
theorem pr_6 {n : Nat} {t : Tr} (hk : t.kind = 6) : prJ (n + 1) t.er = 123 :: (commaJ (pcs n t.er) ++ [125]) := by rw [prJ_6 (by rw [er_kind]; exact hk)]; unfold pcs; rw [if_neg (by rw [er_kind]; omega)]
theorem pr_leaf {n : Nat} {j : Js} (h5 : ¬ j.kind = 5) (h6 : ¬ j.kind = 6) : prJ n j = leafP j := by
 cases n with
 | zero => rfl
 | succ n => rw [prJ, if_neg h5, if_neg h6]
def Kf (m : Nat) : Int := 7000000 * ((m : Int) + 1)
abbrev ValP (m : Nat) : Prop := ∀ (n : Nat) (t : Tr) (u : Value) (P : Nat) (l : List Int) (w w1 : World), Below w.heap.size w w1 → PrS w.heap.size P l 8192 w1 → tabP w → PtR [] w u (encT t) → RdT (n + 1) [] w t → SzT 1000000 (n + 1) t → rightJ upB m t.er = true → l.length ≤ 10000000 → m ≤ 12 → CB Tryd.prog 22 [selfP P, u] w w1 fun v W => v = .tuple #[] ∧ ∃ l', PrK 8192 (Kf m) l (prJ m t.er) l' ∧ PrS w.heap.size P l' 8192 W
set_option maxHeartbeats 1000000 in
theorem pitems5_v (m n : Nat) (t : Tr) (u : Value) (P : Nat) (l : List Int) (w w1 : World) (hB : Below w.heap.size w w1) (hst : PrS w.heap.size P l 8192 w1) (htab : tabP w) (hu : PtR [] w u (encT t)) (ht : RdT (n + 1) [] w t) (hz : SzT 1000000 (n + 1) t) (hkt : t.kind = 5) (hln : True) (hlen : l.length ≤ 10000000) (hm : m ≤ 12) (hval : ∀ (c : Tr) (uc : Value) (P : Nat) (l : List Int) (w w1 : World), Below w.heap.size w w1 → PrS w.heap.size P l 8192 w1 → tabP w → PtR [] w uc (encT c) → RdT n [] w c → SzT 1000000 n c → rightJ upB m c.er = true → l.length ≤ 10000000 → CB Tryd.prog 22 [selfP P, uc] w w1 fun v W => v = .tuple #[] ∧ ∃ l', PrK 8192 (Kf m) l (prJ m c.er) l' ∧ PrS w.heap.size P l' 8192 W) (hrc : ∀ c ∈ t.items, rightJ upB m c.er = true) : CB Tryd.prog 40 [.pointer (some ⟨P, 0, none⟩), u, .int .u8 91, .int .u8 93] w w1 fun v W => v = .tuple #[] ∧ ∃ l', PrK 8192 (Kf (m + 1)) l (prJ (m + 1) t.er) l' ∧ PrS w.heap.size P l' 8192 W := by
 refine cb_enter (N := 62) (f := [(0, .pointer (some ⟨P, 0, none⟩)), (1, u), (2, .int .u8 91), (3, .int .u8 93)]) Tryd.func40 rfl rfl rfl rfl fun Q hQ hE => ?_
 have hL := LL.nil w1
 refine Sq fun K1 hK1 => ?_
 obtain ⟨hnt, hit, hct⟩ := ht
 have hil0 := hit.len
 rw [List.length_map] at hil0
 unfold maxLen at hil0
 refine Rg (Pu rfl (Va (dx_nilCheck rfl rfl) rfl rfl (Va (dx_fld (o1 := 0) rfl ty_fld_46_0_0 rfl rfl) rfl rfl (Pu rfl ?_))))
 refine Ge (dx_cb rfl Tryd.func44 rfl rfl rfl (wbyte_v P l 8192 91 w w1 hB hst (by (try simp only [List.length_append, List.length_cons, List.length_nil]); omega) (by omega) (by omega))) rfl rfl ?_
 rintro _ W2 ⟨⟨rfl, hst⟩, hB⟩
 have hL := LL.nil W2
 refine Ni (hK1 (Sq fun K3 hK3 => (Sq fun K4 hK4 => (Rg (Pu rfl (Va (dx_nilP rfl rfl (hu.below hB)) rfl rfl ?_))))))
 refine Ge (dx_fldP 1 rfl ty_fld_25_4_4 rfl (hu.below hB) (cs' := [t.iv]) rfl (Nat.succ_pos _)) rfl rfl ?_
 rintro u5 _ ⟨rfl, p6⟩
 refine Va (dx_loadP rfl ty_one_23 rfl p6) rfl rfl (Va (dx_lenFM rfl ty_slice_23 rfl (hit.below hB)) rfl rfl (Pu rfl (Ni (hK4 (WC.block ?_)))))
 have hk0 : PrK 8192 (6500000 + Kf m) l (91 :: commaJ ((pcs m t.er).take 0)) (l ++ [91]) := prK_exact rfl (by unfold Kf; simp [commaJ]; omega)
 refine WC.loop2 (fun (i : Nat) (b : List Int) => [(0, .pointer (some ⟨P, 0, none⟩)), (1, u), (2, .int .u8 91), (3, .int .u8 93), (17, t.iv), (18, .int .i64 (t.items.length : Int)), (19, .int .i64 (i : Int))]) (fun (i : Nat) (b : List Int) W => i ≤ t.items.length ∧ PrK 8192 (6500000 + Kf m) l (91 :: commaJ ((pcs m t.er).take i)) b ∧ Below w.heap.size w W ∧ LL ([]) W ∧ PrS w.heap.size P b 8192 W) (fun (i : Nat) (b : List Int) => t.items.length - i) 0 (l ++ [91]) (by repeat first | exact trivial | exact And.intro rfl trivial | refine And.intro rfl ?_ | refine And.intro (congrArg (fun z : Int => some (Value.int .i64 z)) (by omega)) ?_) ⟨Nat.zero_le _, hk0, hB, hL, hst⟩ ?_
 clear hst hB hL
 rintro K7 i b W8 ⟨hi, hk, hB, hL, hst⟩ hK7
 refine Sq fun K9 hK9 => (Rg (Va (dx_lss rfl rfl rfl) rfl rfl (Ni (hK9 (Sq fun K10 hK10 => ?_)))))
 refine WC.cond rfl (fun c11 => ?_) (fun c11 => ?_)
 ·
  replace c11 := dT c11
  refine WC.skip (hK10 (Sq fun K12 hK12 => (WC.block (Sq fun K13 hK13 => (Rg (Pu rfl (Pu rfl ?_)))))))
  refine Ni (hK13 (Sq fun K14 hK14 => (Sq fun K15 hK15 => (Rg (Pu rfl ?_)))))
  refine Ge (dx_cb rfl Tryd.func23 rfl rfl rfl (full_v P b 8192 w W8 hB hst)) rfl rfl ?_
  rintro _ W16 ⟨⟨rfl, hst⟩, hB⟩
  have hL := LL.nil W16
  refine Ni (hK15 ?_)
  refine WC.cond rfl (fun c17 => ?_) (fun c17 => ?_)
  ·
   replace c17 := dT c17
   exact WC.ret fun a_ ha_ => hQ (cv_ret0 rfl  ⟨rfl, b, (by obtain ⟨y_, hy_⟩ := comma_tail (pcs m t.er) i; rw [pr_5 hkt, hy_, List.append_assoc]; exact prK_le (prK_stop (x := 91 :: commaJ ((pcs m t.er).take i)) hk (by omega)) (by unfold Kf; omega)), hst⟩ hB ha_)
  ·
   replace c17 := dF c17
   refine WC.skip (hK14 (Sq fun K18 hK18 => (Sq fun K19 hK19 => ?_)))
   obtain hgo := prK_go hk (by omega)
   have hbl : (b.length : Int) ≤ 8192 := by omega
   obtain ⟨r_, hr_⟩ : ∃ x, t.items[i]? = some x := ⟨_, List.getElem?_eq_getElem (by omega)⟩
   refine Rg (Pu rfl (Va (dx_gtr rfl rfl rfl) rfl rfl (Ni (hK19 ?_))))
   refine WC.cond rfl (fun c20 => ?_) (fun c20 => ?_)
   ·
    replace c20 := dT c20
    have hi0 : ¬ i = 0 := by omega
    refine Rg (Pu rfl (Va (dx_nilCheck rfl rfl) rfl rfl (Va (dx_fld (o1 := 0) rfl ty_fld_46_0_0 rfl rfl) rfl rfl ?_)))
    refine Ge (dx_cb rfl Tryd.func44 rfl rfl rfl (wbyte_v P b 8192 44 w W16 hB hst (by (try simp only [List.length_append, List.length_cons, List.length_nil]); omega) (by omega) (by omega))) rfl rfl ?_
    rintro _ W21 ⟨⟨rfl, hst⟩, hB⟩
    have hL := LL.nil W21
    refine Ni (hK18 (Sq fun K22 hK22 => (Sq fun K23 hK23 => (Rg (Pu rfl (Va (dx_nilP rfl rfl (hu.below hB)) rfl rfl ?_))))))
    refine Ge (dx_fldP 1 rfl ty_fld_25_0_0 rfl (hu.below hB) (cs' := [.int .i64 t.kind]) rfl (Nat.succ_pos _)) rfl rfl ?_
    rintro u24 _ ⟨rfl, p25⟩
    refine Va ((hkt ▸ dx_loadP rfl ty_one_3 rfl p25)) rfl rfl (Va (dx_eql rfl rfl rfl) rfl rfl (Ni (hK23 (WC.condF rfl (WC.skip (hK22 (Rg ?_)))))))
    refine Pu rfl (Pu rfl (Va (dx_nilP rfl rfl (hu.below hB)) rfl rfl ?_))
    refine Ge (dx_fldP 1 rfl ty_fld_25_4_4 rfl (hu.below hB) (cs' := [t.iv]) rfl (Nat.succ_pos _)) rfl rfl ?_
    rintro u26 _ ⟨rfl, p27⟩
    refine Va (dx_loadP rfl ty_one_23 rfl p27) rfl rfl (Pu rfl ?_)
    refine Ge (dx_idxB i rfl ty_slice_23 rfl rfl hit hB (by omega) (at_mapX hr_)) rfl rfl ?_
    rintro uc _ ⟨rfl, pc_⟩
    have hcb := ptB_base pc_ hB
    refine Ge (dx_cb rfl Tryd.func22 rfl rfl rfl (hval r_ uc P (b ++ [44]) w W21 hB hst htab hcb (hct r_ (List.mem_of_getElem? hr_)) (hz.2.2.2.2 r_ (List.mem_of_getElem? hr_)) (hrc r_ (List.mem_of_getElem? hr_)) (by (try simp only [List.length_append, List.length_cons, List.length_nil]); omega))) rfl rfl ?_
    rintro _ W28 ⟨⟨rfl, b4, hkb4, hst⟩, hB⟩
    have hL := LL.nil W28
    refine Ni (hK12 (Rg (Va (dx_add (r := (i : Int) + 1) rfl rfl rfl (wrap64_id (by omega))) rfl rfl (Pu rfl (Ni ?_)))))
    have hp_ := pcs_5 (n := m) hkt hr_
    have hx_ : PrK 8192 (1 + Kf m) b ([44] ++ prJ m r_.er) b4 := prK_then (prK_exact (b1 := b ++ [44]) (K := 1) (x := [44]) (by simp) (by simp)) hkb4 (by decide) (by unfold Kf; omega)
    have hq_ : PrK 8192 (6500000 + Kf m) l (91 :: commaJ ((pcs m t.er).take (i + 1))) b4 := by rw [comma_add _ i _ hp_, if_neg hi0]; exact prK_pre (x := 91 :: commaJ ((pcs m t.er).take i)) hgo.1 (by omega) (prK_le hx_ (by omega))
    exact hK7 (i + 1) b4 ⟨(by omega), hq_, hB, hL, hst⟩ (by omega) (by repeat first | exact trivial | exact And.intro rfl trivial | refine And.intro rfl ?_ | refine And.intro (congrArg (fun z : Int => some (Value.int .i64 z)) (by omega)) ?_)
   ·
    replace c20 := dF c20
    have hi0 : i = 0 := by omega
    refine WC.skip (hK18 (Sq fun K29 hK29 => (Sq fun K30 hK30 => (Rg (Pu rfl (Va (dx_nilP rfl rfl (hu.below hB)) rfl rfl ?_))))))
    refine Ge (dx_fldP 1 rfl ty_fld_25_0_0 rfl (hu.below hB) (cs' := [.int .i64 t.kind]) rfl (Nat.succ_pos _)) rfl rfl ?_
    rintro u31 _ ⟨rfl, p32⟩
    refine Va ((hkt ▸ dx_loadP rfl ty_one_3 rfl p32)) rfl rfl (Va (dx_eql rfl rfl rfl) rfl rfl (Ni (hK30 (WC.condF rfl (WC.skip (hK29 (Rg ?_)))))))
    refine Pu rfl (Pu rfl (Va (dx_nilP rfl rfl (hu.below hB)) rfl rfl ?_))
    refine Ge (dx_fldP 1 rfl ty_fld_25_4_4 rfl (hu.below hB) (cs' := [t.iv]) rfl (Nat.succ_pos _)) rfl rfl ?_
    rintro u33 _ ⟨rfl, p34⟩
    refine Va (dx_loadP rfl ty_one_23 rfl p34) rfl rfl (Pu rfl ?_)
    refine Ge (dx_idxB i rfl ty_slice_23 rfl rfl hit hB (by omega) (at_mapX hr_)) rfl rfl ?_
    rintro uc _ ⟨rfl, pc_⟩
    have hcb := ptB_base pc_ hB
    refine Ge (dx_cb rfl Tryd.func22 rfl rfl rfl (hval r_ uc P b w W16 hB hst htab hcb (hct r_ (List.mem_of_getElem? hr_)) (hz.2.2.2.2 r_ (List.mem_of_getElem? hr_)) (hrc r_ (List.mem_of_getElem? hr_)) (by (try simp only [List.length_append, List.length_cons, List.length_nil]); omega))) rfl rfl ?_
    rintro _ W35 ⟨⟨rfl, b4, hkb4, hst⟩, hB⟩
    have hL := LL.nil W35
    refine Ni (hK12 (Rg (Va (dx_add (r := (i : Int) + 1) rfl rfl rfl (wrap64_id (by omega))) rfl rfl (Pu rfl (Ni ?_)))))
    have hp_ := pcs_5 (n := m) hkt hr_
    have hx_ : PrK 8192 (1 + Kf m) b ([] ++ prJ m r_.er) b4 := prK_then (prK_exact (b1 := b) (K := 1) (x := []) (by simp) (by simp)) hkb4 (by decide) (by unfold Kf; omega)
    have hq_ : PrK 8192 (6500000 + Kf m) l (91 :: commaJ ((pcs m t.er).take (i + 1))) b4 := by rw [comma_add _ i _ hp_, if_pos hi0]; exact prK_pre (x := 91 :: commaJ ((pcs m t.er).take i)) hgo.1 (by omega) (prK_le hx_ (by omega))
    exact hK7 (i + 1) b4 ⟨(by omega), hq_, hB, hL, hst⟩ (by omega) (by repeat first | exact trivial | exact And.intro rfl trivial | refine And.intro rfl ?_ | refine And.intro (congrArg (fun z : Int => some (Value.int .i64 z)) (by omega)) ?_)
 ·
  replace c11 := dF c11
  refine WC.exit ?_
  refine hK3 ?_
  have hbd := hk.2
  unfold Kf at hbd
  refine Rg (Pu rfl (Va (dx_nilCheck rfl rfl) rfl rfl (Va (dx_fld (o1 := 0) rfl ty_fld_46_0_0 rfl rfl) rfl rfl (Pu rfl ?_))))
  refine Ge (dx_cb rfl Tryd.func44 rfl rfl rfl (wbyte_v P b 8192 93 w W8 hB hst (by (try simp only [List.length_append, List.length_cons, List.length_nil]); omega) (by omega) (by omega))) rfl rfl ?_
  rintro _ W36 ⟨⟨rfl, hst⟩, hB⟩
  have hL := LL.nil W36
  refine Ni ?_
  intro a_ ha_
  exact hE (cv_ret0 rfl  ⟨rfl, _, (by have hl_ := pcs_len5 (n := m) hkt; have e_ : (pcs m t.er).take i = pcs m t.er := List.take_of_length_le (by omega); rw [e_] at hk; rw [pr_5 hkt]; exact prK_le (prK_then (x := 91 :: commaJ (pcs m t.er)) (y := [93]) hk (prK_exact (K := 1) rfl (by simp)) (by unfold Kf; omega) (by decide)) (by unfold Kf; omega)), hst⟩ hB ha_)

set_option maxHeartbeats 1000000 in
theorem pitems6_v (m n : Nat) (t : Tr) (u : Value) (P : Nat) (l : List Int) (w w1 : World) (hB : Below w.heap.size w w1) (hst : PrS w.heap.size P l 8192 w1) (htab : tabP w) (hu : PtR [] w u (encT t)) (ht : RdT (n + 1) [] w t) (hz : SzT 1000000 (n + 1) t) (hkt : t.kind = 6) (hln : t.names.length = t.items.length) (hlen : l.length ≤ 10000000) (hm : m ≤ 12) (hval : ∀ (c : Tr) (uc : Value) (P : Nat) (l : List Int) (w w1 : World), Below w.heap.size w w1 → PrS w.heap.size P l 8192 w1 → tabP w → PtR [] w uc (encT c) → RdT n [] w c → SzT 1000000 n c → rightJ upB m c.er = true → l.length ≤ 10000000 → CB Tryd.prog 22 [selfP P, uc] w w1 fun v W => v = .tuple #[] ∧ ∃ l', PrK 8192 (Kf m) l (prJ m c.er) l' ∧ PrS w.heap.size P l' 8192 W) (hrc : ∀ c ∈ t.items, rightJ upB m c.er = true) : CB Tryd.prog 40 [.pointer (some ⟨P, 0, none⟩), u, .int .u8 123, .int .u8 125] w w1 fun v W => v = .tuple #[] ∧ ∃ l', PrK 8192 (Kf (m + 1)) l (prJ (m + 1) t.er) l' ∧ PrS w.heap.size P l' 8192 W := by
 refine cb_enter (N := 62) (f := [(0, .pointer (some ⟨P, 0, none⟩)), (1, u), (2, .int .u8 123), (3, .int .u8 125)]) Tryd.func40 rfl rfl rfl rfl fun Q hQ hE => ?_
 have hL := LL.nil w1
 refine Sq fun K1 hK1 => ?_
 obtain ⟨hnt, hit, hct⟩ := ht
 have hil0 := hit.len
 rw [List.length_map] at hil0
 unfold maxLen at hil0
 refine Rg (Pu rfl (Va (dx_nilCheck rfl rfl) rfl rfl (Va (dx_fld (o1 := 0) rfl ty_fld_46_0_0 rfl rfl) rfl rfl (Pu rfl ?_))))
 refine Ge (dx_cb rfl Tryd.func44 rfl rfl rfl (wbyte_v P l 8192 123 w w1 hB hst (by (try simp only [List.length_append, List.length_cons, List.length_nil]); omega) (by omega) (by omega))) rfl rfl ?_
 rintro _ W2 ⟨⟨rfl, hst⟩, hB⟩
 have hL := LL.nil W2
 refine Ni (hK1 (Sq fun K3 hK3 => (Sq fun K4 hK4 => (Rg (Pu rfl (Va (dx_nilP rfl rfl (hu.below hB)) rfl rfl ?_))))))
 refine Ge (dx_fldP 1 rfl ty_fld_25_4_4 rfl (hu.below hB) (cs' := [t.iv]) rfl (Nat.succ_pos _)) rfl rfl ?_
 rintro u5 _ ⟨rfl, p6⟩
 refine Va (dx_loadP rfl ty_one_23 rfl p6) rfl rfl (Va (dx_lenFM rfl ty_slice_23 rfl (hit.below hB)) rfl rfl (Pu rfl (Ni (hK4 (WC.block ?_)))))
 have hk0 : PrK 8192 (6500000 + Kf m) l (123 :: commaJ ((pcs m t.er).take 0)) (l ++ [123]) := prK_exact rfl (by unfold Kf; simp [commaJ]; omega)
 refine WC.loop2 (fun (i : Nat) (b : List Int) => [(0, .pointer (some ⟨P, 0, none⟩)), (1, u), (2, .int .u8 123), (3, .int .u8 125), (17, t.iv), (18, .int .i64 (t.items.length : Int)), (19, .int .i64 (i : Int))]) (fun (i : Nat) (b : List Int) W => i ≤ t.items.length ∧ PrK 8192 (6500000 + Kf m) l (123 :: commaJ ((pcs m t.er).take i)) b ∧ Below w.heap.size w W ∧ LL ([]) W ∧ PrS w.heap.size P b 8192 W) (fun (i : Nat) (b : List Int) => t.items.length - i) 0 (l ++ [123]) (by repeat first | exact trivial | exact And.intro rfl trivial | refine And.intro rfl ?_ | refine And.intro (congrArg (fun z : Int => some (Value.int .i64 z)) (by omega)) ?_) ⟨Nat.zero_le _, hk0, hB, hL, hst⟩ ?_
 clear hst hB hL
 rintro K7 i b W8 ⟨hi, hk, hB, hL, hst⟩ hK7
 refine Sq fun K9 hK9 => (Rg (Va (dx_lss rfl rfl rfl) rfl rfl (Ni (hK9 (Sq fun K10 hK10 => ?_)))))
 refine WC.cond rfl (fun c11 => ?_) (fun c11 => ?_)
 ·
  replace c11 := dT c11
  refine WC.skip (hK10 (Sq fun K12 hK12 => (WC.block (Sq fun K13 hK13 => (Rg (Pu rfl (Pu rfl ?_)))))))
  refine Ni (hK13 (Sq fun K14 hK14 => (Sq fun K15 hK15 => (Rg (Pu rfl ?_)))))
  refine Ge (dx_cb rfl Tryd.func23 rfl rfl rfl (full_v P b 8192 w W8 hB hst)) rfl rfl ?_
  rintro _ W16 ⟨⟨rfl, hst⟩, hB⟩
  have hL := LL.nil W16
  refine Ni (hK15 ?_)
  refine WC.cond rfl (fun c17 => ?_) (fun c17 => ?_)
  ·
   replace c17 := dT c17
   exact WC.ret fun a_ ha_ => hQ (cv_ret0 rfl  ⟨rfl, b, (by obtain ⟨y_, hy_⟩ := comma_tail (pcs m t.er) i; rw [pr_6 hkt, hy_, List.append_assoc]; exact prK_le (prK_stop (x := 123 :: commaJ ((pcs m t.er).take i)) hk (by omega)) (by unfold Kf; omega)), hst⟩ hB ha_)
  ·
   replace c17 := dF c17
   refine WC.skip (hK14 (Sq fun K18 hK18 => (Sq fun K19 hK19 => ?_)))
   obtain hgo := prK_go hk (by omega)
   have hbl : (b.length : Int) ≤ 8192 := by omega
   obtain ⟨r_, hr_⟩ : ∃ x, t.items[i]? = some x := ⟨_, List.getElem?_eq_getElem (by omega)⟩
   refine Rg (Pu rfl (Va (dx_gtr rfl rfl rfl) rfl rfl (Ni (hK19 ?_))))
   refine WC.cond rfl (fun c20 => ?_) (fun c20 => ?_)
   ·
    replace c20 := dT c20
    have hi0 : ¬ i = 0 := by omega
    refine Rg (Pu rfl (Va (dx_nilCheck rfl rfl) rfl rfl (Va (dx_fld (o1 := 0) rfl ty_fld_46_0_0 rfl rfl) rfl rfl ?_)))
    refine Ge (dx_cb rfl Tryd.func44 rfl rfl rfl (wbyte_v P b 8192 44 w W16 hB hst (by (try simp only [List.length_append, List.length_cons, List.length_nil]); omega) (by omega) (by omega))) rfl rfl ?_
    rintro _ W21 ⟨⟨rfl, hst⟩, hB⟩
    have hL := LL.nil W21
    refine Ni (hK18 (Sq fun K22 hK22 => (Sq fun K23 hK23 => (Rg (Pu rfl (Va (dx_nilP rfl rfl (hu.below hB)) rfl rfl ?_))))))
    refine Ge (dx_fldP 1 rfl ty_fld_25_0_0 rfl (hu.below hB) (cs' := [.int .i64 t.kind]) rfl (Nat.succ_pos _)) rfl rfl ?_
    rintro u24 _ ⟨rfl, p25⟩
    refine Va ((hkt ▸ dx_loadP rfl ty_one_3 rfl p25)) rfl rfl (Va (dx_eql rfl rfl rfl) rfl rfl (Ni (hK23 (WC.condT rfl (Sq fun K26 hK26 => ?_)))))
    obtain ⟨a_, ha_n⟩ : ∃ x, t.names[i]? = some x := ⟨_, List.getElem?_eq_getElem (by omega)⟩
    refine Rg (Pu rfl (Pu rfl (Va (dx_nilP rfl rfl (hu.below hB)) rfl rfl ?_)))
    refine Ge (dx_fldP 1 rfl ty_fld_25_3_3 rfl (hu.below hB) (cs' := [t.nv]) rfl (Nat.succ_pos _)) rfl rfl ?_
    rintro u27 _ ⟨rfl, p28⟩
    refine Va (dx_loadP rfl ty_one_22 rfl p28) rfl rfl (Pu rfl ?_)
    refine Ge (dx_idxF i rfl ty_slice_22 rfl rfl (hnt.below hB) (by omega) (at_mapX ha_n)) rfl rfl ?_
    rintro un _ ⟨rfl, pn_⟩
    refine Va (dx_loadP rfl ty_one_9 rfl pn_) rfl rfl ?_
    refine Ge (dx_cb rfl Tryd.func28 rfl rfl rfl (ptext_v P (b ++ [44]) 8192 a_ w W21 hB hst (by (try simp only [List.length_append, List.length_cons, List.length_nil]); omega) (hz.2.2.2.1 _ (List.mem_of_getElem? ha_n)))) rfl rfl ?_
    rintro _ W29 ⟨⟨rfl, b2, hkb2, hst⟩, hB⟩
    have hL := LL.nil W29
    refine Ni (hK26 ?_)
    have hbd2 := hkb2.2
    (try simp only [List.length_append, List.length_cons, List.length_nil] at hbd2)
    refine Rg (Pu rfl (Va (dx_nilCheck rfl rfl) rfl rfl (Va (dx_fld (o1 := 0) rfl ty_fld_46_0_0 rfl rfl) rfl rfl ?_)))
    refine Ge (dx_cb rfl Tryd.func44 rfl rfl rfl (wbyte_v P b2 8192 58 w W29 hB hst (by (try simp only [List.length_append, List.length_cons, List.length_nil]); omega) (by omega) (by omega))) rfl rfl ?_
    rintro _ W30 ⟨⟨rfl, hst⟩, hB⟩
    have hL := LL.nil W30
    refine Ni (hK22 (Rg (Pu rfl (Pu rfl (Va (dx_nilP rfl rfl (hu.below hB)) rfl rfl ?_)))))
    refine Ge (dx_fldP 1 rfl ty_fld_25_4_4 rfl (hu.below hB) (cs' := [t.iv]) rfl (Nat.succ_pos _)) rfl rfl ?_
    rintro u31 _ ⟨rfl, p32⟩
    refine Va (dx_loadP rfl ty_one_23 rfl p32) rfl rfl (Pu rfl ?_)
    refine Ge (dx_idxB i rfl ty_slice_23 rfl rfl hit hB (by omega) (at_mapX hr_)) rfl rfl ?_
    rintro uc _ ⟨rfl, pc_⟩
    have hcb := ptB_base pc_ hB
    refine Ge (dx_cb rfl Tryd.func22 rfl rfl rfl (hval r_ uc P (b2 ++ [58]) w W30 hB hst htab hcb (hct r_ (List.mem_of_getElem? hr_)) (hz.2.2.2.2 r_ (List.mem_of_getElem? hr_)) (hrc r_ (List.mem_of_getElem? hr_)) (by (try simp only [List.length_append, List.length_cons, List.length_nil]); omega))) rfl rfl ?_
    rintro _ W33 ⟨⟨rfl, b4, hkb4, hst⟩, hB⟩
    have hL := LL.nil W33
    refine Ni (hK12 (Rg (Va (dx_add (r := (i : Int) + 1) rfl rfl rfl (wrap64_id (by omega))) rfl rfl (Pu rfl (Ni ?_)))))
    have hp_ := pcs_6 (n := m) hkt hr_ ha_n
    have hx_ : PrK 8192 (1 + (6000002 + (1 + Kf m))) b ([44] ++ (quoJ a_ ++ (58 :: prJ m r_.er))) b4 := prK_then (prK_exact (b1 := b ++ [44]) (K := 1) (x := [44]) (by simp) (by simp)) (prK_then hkb2 (prK_then (x := [58]) (K := 1) (prK_exact (b1 := b2 ++ [58]) rfl (by simp)) hkb4 (by decide) (by unfold Kf; omega)) (by decide) (by unfold Kf; omega)) (by decide) (by unfold Kf; omega)
    have hq_ : PrK 8192 (6500000 + Kf m) l (123 :: commaJ ((pcs m t.er).take (i + 1))) b4 := by rw [comma_add _ i _ hp_, if_neg hi0]; exact prK_pre (x := 123 :: commaJ ((pcs m t.er).take i)) hgo.1 (by omega) (prK_le hx_ (by omega))
    exact hK7 (i + 1) b4 ⟨(by omega), hq_, hB, hL, hst⟩ (by omega) (by repeat first | exact trivial | exact And.intro rfl trivial | refine And.intro rfl ?_ | refine And.intro (congrArg (fun z : Int => some (Value.int .i64 z)) (by omega)) ?_)
   ·
    replace c20 := dF c20
    have hi0 : i = 0 := by omega
    refine WC.skip (hK18 (Sq fun K34 hK34 => (Sq fun K35 hK35 => (Rg (Pu rfl (Va (dx_nilP rfl rfl (hu.below hB)) rfl rfl ?_))))))
    refine Ge (dx_fldP 1 rfl ty_fld_25_0_0 rfl (hu.below hB) (cs' := [.int .i64 t.kind]) rfl (Nat.succ_pos _)) rfl rfl ?_
    rintro u36 _ ⟨rfl, p37⟩
    refine Va ((hkt ▸ dx_loadP rfl ty_one_3 rfl p37)) rfl rfl (Va (dx_eql rfl rfl rfl) rfl rfl (Ni (hK35 (WC.condT rfl (Sq fun K38 hK38 => ?_)))))
    obtain ⟨a_, ha_n⟩ : ∃ x, t.names[i]? = some x := ⟨_, List.getElem?_eq_getElem (by omega)⟩
    refine Rg (Pu rfl (Pu rfl (Va (dx_nilP rfl rfl (hu.below hB)) rfl rfl ?_)))
    refine Ge (dx_fldP 1 rfl ty_fld_25_3_3 rfl (hu.below hB) (cs' := [t.nv]) rfl (Nat.succ_pos _)) rfl rfl ?_
    rintro u39 _ ⟨rfl, p40⟩
    refine Va (dx_loadP rfl ty_one_22 rfl p40) rfl rfl (Pu rfl ?_)
    refine Ge (dx_idxF i rfl ty_slice_22 rfl rfl (hnt.below hB) (by omega) (at_mapX ha_n)) rfl rfl ?_
    rintro un _ ⟨rfl, pn_⟩
    refine Va (dx_loadP rfl ty_one_9 rfl pn_) rfl rfl ?_
    refine Ge (dx_cb rfl Tryd.func28 rfl rfl rfl (ptext_v P b 8192 a_ w W16 hB hst (by (try simp only [List.length_append, List.length_cons, List.length_nil]); omega) (hz.2.2.2.1 _ (List.mem_of_getElem? ha_n)))) rfl rfl ?_
    rintro _ W41 ⟨⟨rfl, b2, hkb2, hst⟩, hB⟩
    have hL := LL.nil W41
    refine Ni (hK38 ?_)
    have hbd2 := hkb2.2
    (try simp only [List.length_append, List.length_cons, List.length_nil] at hbd2)
    refine Rg (Pu rfl (Va (dx_nilCheck rfl rfl) rfl rfl (Va (dx_fld (o1 := 0) rfl ty_fld_46_0_0 rfl rfl) rfl rfl ?_)))
    refine Ge (dx_cb rfl Tryd.func44 rfl rfl rfl (wbyte_v P b2 8192 58 w W41 hB hst (by (try simp only [List.length_append, List.length_cons, List.length_nil]); omega) (by omega) (by omega))) rfl rfl ?_
    rintro _ W42 ⟨⟨rfl, hst⟩, hB⟩
    have hL := LL.nil W42
    refine Ni (hK34 (Rg (Pu rfl (Pu rfl (Va (dx_nilP rfl rfl (hu.below hB)) rfl rfl ?_)))))
    refine Ge (dx_fldP 1 rfl ty_fld_25_4_4 rfl (hu.below hB) (cs' := [t.iv]) rfl (Nat.succ_pos _)) rfl rfl ?_
    rintro u43 _ ⟨rfl, p44⟩
    refine Va (dx_loadP rfl ty_one_23 rfl p44) rfl rfl (Pu rfl ?_)
    refine Ge (dx_idxB i rfl ty_slice_23 rfl rfl hit hB (by omega) (at_mapX hr_)) rfl rfl ?_
    rintro uc _ ⟨rfl, pc_⟩
    have hcb := ptB_base pc_ hB
    refine Ge (dx_cb rfl Tryd.func22 rfl rfl rfl (hval r_ uc P (b2 ++ [58]) w W42 hB hst htab hcb (hct r_ (List.mem_of_getElem? hr_)) (hz.2.2.2.2 r_ (List.mem_of_getElem? hr_)) (hrc r_ (List.mem_of_getElem? hr_)) (by (try simp only [List.length_append, List.length_cons, List.length_nil]); omega))) rfl rfl ?_
    rintro _ W45 ⟨⟨rfl, b4, hkb4, hst⟩, hB⟩
    have hL := LL.nil W45
    refine Ni (hK12 (Rg (Va (dx_add (r := (i : Int) + 1) rfl rfl rfl (wrap64_id (by omega))) rfl rfl (Pu rfl (Ni ?_)))))
    have hp_ := pcs_6 (n := m) hkt hr_ ha_n
    have hx_ : PrK 8192 (1 + (6000002 + (1 + Kf m))) b ([] ++ (quoJ a_ ++ (58 :: prJ m r_.er))) b4 := prK_then (prK_exact (b1 := b) (K := 1) (x := []) (by simp) (by simp)) (prK_then hkb2 (prK_then (x := [58]) (K := 1) (prK_exact (b1 := b2 ++ [58]) rfl (by simp)) hkb4 (by decide) (by unfold Kf; omega)) (by decide) (by unfold Kf; omega)) (by decide) (by unfold Kf; omega)
    have hq_ : PrK 8192 (6500000 + Kf m) l (123 :: commaJ ((pcs m t.er).take (i + 1))) b4 := by rw [comma_add _ i _ hp_, if_pos hi0]; exact prK_pre (x := 123 :: commaJ ((pcs m t.er).take i)) hgo.1 (by omega) (prK_le hx_ (by omega))
    exact hK7 (i + 1) b4 ⟨(by omega), hq_, hB, hL, hst⟩ (by omega) (by repeat first | exact trivial | exact And.intro rfl trivial | refine And.intro rfl ?_ | refine And.intro (congrArg (fun z : Int => some (Value.int .i64 z)) (by omega)) ?_)
 ·
  replace c11 := dF c11
  refine WC.exit ?_
  refine hK3 ?_
  have hbd := hk.2
  unfold Kf at hbd
  refine Rg (Pu rfl (Va (dx_nilCheck rfl rfl) rfl rfl (Va (dx_fld (o1 := 0) rfl ty_fld_46_0_0 rfl rfl) rfl rfl (Pu rfl ?_))))
  refine Ge (dx_cb rfl Tryd.func44 rfl rfl rfl (wbyte_v P b 8192 125 w W8 hB hst (by (try simp only [List.length_append, List.length_cons, List.length_nil]); omega) (by omega) (by omega))) rfl rfl ?_
  rintro _ W46 ⟨⟨rfl, hst⟩, hB⟩
  have hL := LL.nil W46
  refine Ni ?_
  intro a_ ha_
  exact hE (cv_ret0 rfl  ⟨rfl, _, (by have hl_ := pcs_len6 (n := m) hkt hln; have e_ : (pcs m t.er).take i = pcs m t.er := List.take_of_length_le (by omega); rw [e_] at hk; rw [pr_6 hkt]; exact prK_le (prK_then (x := 123 :: commaJ (pcs m t.er)) (y := [125]) hk (prK_exact (K := 1) rfl (by simp)) (by unfold Kf; omega) (by decide)) (by unfold Kf; omega)), hst⟩ hB ha_)

theorem tab_of_three {W : World} (hL : laidMet Tryd.prog [("math/bits.deBruijn32tab", Rows.laid_math_bits_deBruijn32tab), ("math/bits.deBruijn64tab", Rows.laid_math_bits_deBruijn64tab), ("internal/strconv.uint64pow10", Rows.laid_internal_strconv_uint64pow10)] W) : tabP W := by
 have h2 : laidMet Tryd.prog [("internal/strconv.uint64pow10", Rows.laid_internal_strconv_uint64pow10)] W := laidMet.tail (laidMet.tail hL)
 exact Go.Lib.tabIs_of_head (g := 0) (t := 126) (e := 111) (n := 20) (by kernel_rfl) (by kernel_rfl) Tryd.underlying126 Tryd.underlying111 (by kernel_rfl) (by kernel_rfl) h2
theorem begin_sz {s wd : ByteArray} {k m : Nat} (h : beginS s wd k = true) (e : wd.size = m) : k + m ≤ s.size := by
 subst e
 unfold beginS at h
 rw [Bool.and_eq_true, decide_eq_true_eq] at h
 exact h.1
theorem numT_ok {s : ByteArray} {m : Bool} {k k' : Nat} {n : Int} (hk : k ≤ s.size) (h : numT s m k = .ok (n, k')) : k < k' ∧ k' ≤ s.size := by
  have hd := digS_le hk
  unfold numT at h
  split at h
  · split at h
    · cases h
    · cases h; omega
  · split at h
    · cases h
    · split at h
      · cases h
      · cases h; omega
variable {s : ByteArray} {dp k : Nat} {rl ro : Except Int (Js × Nat)} in
theorem nest_lt (h : dp < 12) : nestS dp rl = rl := by unfold nestS; rw [if_neg (by omega)]


def RJ (n : Nat) (j : Js) : Prop := rightJ upB n j = true ∧ SzJ 1000000 (n + 1) j
theorem leaf_rj {n : Nat} {j : Js} (h : leafJ upB j = true) (hz : j.text.size ≤ 1000000) : RJ n j := by
 have h0 := h
 unfold leafJ at h0
 rw [Bool.and_eq_true, Bool.and_eq_true, decide_eq_true_eq, decide_eq_true_eq] at h0
 obtain ⟨⟨h1, h2⟩, _⟩ := h0
 refine ⟨?_, hz, by rw [h1]; decide, by rw [h2]; decide, by rw [h1]; exact (fun s hs => by cases hs), by rw [h2]; exact (fun c hc => by cases hc)⟩
 cases n with
 | zero => rw [rightJ]; exact h
 | succ n => rw [rightJ, h]; rfl
section
variable {σ : Type} {s : ByteArray} {one : Nat → σ → Except Int (σ × Nat)} {la : Int} {I : Nat → σ → Prop}
theorem memL_ok (hI : ∀ k k' st, I k st → k ≤ k' → I k' st) (h1 : ∀ k st st' k', k ≤ s.size → I k st → one k st = .ok (st', k') → I k' st' ∧ k < k' ∧ k' ≤ s.size) : ∀ (n k : Nat) (st st' : σ) (k' : Nat), k ≤ s.size → I k st → memL s one la n k st = .ok (st', k') → I k' st' ∧ k < k' ∧ k' ≤ s.size
  | 0, _, _, _, _, _, _, h => by rw [memL] at h; cases h
  | n + 1, k, st, st', k', hk, hi, h => by
    rw [memL] at h
    have hb := blankS_le hk
    split at h
    · cases h
    · rename_i st1 k2 ho
      obtain ⟨a, b, c⟩ := h1 _ _ _ _ hb.2 (hI _ _ _ hi hb.1) ho
      have hb2 := blankS_le c
      split at h
      · rename_i hq
        have hq := take_t hq
        cases h
        exact ⟨hI _ _ _ a (by omega), by omega, by omega⟩
      · split at h
        · rename_i hq
          have hq := take_t hq
          obtain ⟨p, q, r⟩ := memL_ok hI h1 n _ _ _ _ (by omega) (hI _ _ _ a (show k2 ≤ blankS s k2 + 1 by omega)) h
          exact ⟨p, by omega, r⟩
        · cases h
theorem memS_ok (hI : ∀ k k' st, I k st → k ≤ k' → I k' st) (h1 : ∀ k st st' k', k ≤ s.size → I k st → one k st = .ok (st', k') → I k' st' ∧ k < k' ∧ k' ≤ s.size) {k k' : Nat} {st st' : σ} (hk : k < s.size) (hi : I k st) (h : memS s one la k st = .ok (st', k')) : I k' st' ∧ k < k' ∧ k' ≤ s.size := by
  unfold memS at h
  have hb := blankS_le (s := s) (k := k + 1) (by omega)
  split at h
  · rename_i hq
    have hq := take_t hq
    cases h
    exact ⟨hI _ _ _ hi (by omega), by omega, by omega⟩
  · obtain ⟨p, q, r⟩ := memL_ok hI h1 _ _ _ _ _ hb.2 (hI _ _ _ hi (by omega)) h
    exact ⟨p, by omega, r⟩
end
def VOk (s : ByteArray) (n : Nat) (vs : Nat → Except Int (Js × Nat)) : Prop := ∀ k j k', k ≤ s.size → vs k = .ok (j, k') → RJ n j ∧ k < k' ∧ k' ≤ s.size
theorem list_ok {s : ByteArray} {n : Nat} {vs : Nat → Except Int (Js × Nat)} (hs : s.size ≤ 1000000) (hv : VOk s n vs) {k k' : Nat} {j : Js} (hk : k < s.size) (h : listS s vs k = .ok (j, k')) : RJ (n + 1) j ∧ k < k' ∧ k' ≤ s.size := by
  unfold listS at h
  split at h
  · cases h
  · rename_i ts k2 hm
    cases h
    obtain ⟨⟨a, b⟩, c, d⟩ := memS_ok (I := fun k (ts : List Js) => ts.length ≤ k ∧ ∀ t ∈ ts, RJ n t) (fun _ _ _ h1 h2 => ⟨Nat.le_trans h1.1 h2, h1.2⟩) (fun q st st' q' hq hi ho => by
      unfold oneL at ho
      split at ho
      · cases ho
      · rename_i t q2 hv2
        cases ho
        obtain ⟨e1, e2, e3⟩ := hv _ _ _ hq hv2
        refine ⟨⟨by rw [List.length_append, List.length_singleton]; omega, fun x hx => ?_⟩, e2, e3⟩
        rcases List.mem_append.1 hx with hx | hx
        · exact hi.2 x hx
        · rw [List.mem_singleton.1 hx]; exact e1) hk ⟨Nat.zero_le _, fun t ht => by cases ht⟩ hm
    refine ⟨⟨?_, ?_⟩, c, d⟩
    · rw [rightJ, Bool.or_eq_true]
      right
      rw [Bool.and_eq_true, List.all_eq_true]
      exact ⟨rfl, fun x hx => (b x hx).1⟩
    · exact ⟨by show 0 ≤ 1000000; decide, by show 0 ≤ 1000000; decide, by show ts.length ≤ 1000000; omega, (fun s hs => by cases hs), fun x hx => (b x hx).2⟩
theorem obj_ok {s : ByteArray} {n : Nat} {vs : Nat → Except Int (Js × Nat)} (hs : s.size ≤ 1000000) (hu : OKL (sb s)) (hv : VOk s n vs) {k k' : Nat} {j : Js} (hk : k < s.size) (h : objS s vs k = .ok (j, k')) : RJ (n + 1) j ∧ k < k' ∧ k' ≤ s.size := by
  unfold objS at h
  split at h
  · cases h
  · rename_i st k2 hm
    cases h
    obtain ⟨⟨a1, a2, a3, a4, a5⟩, c, d⟩ := memS_ok (I := fun k (st : StO) => st.1.length ≤ k ∧ st.1.length = st.2.length ∧ Rises st.1 ∧ (∀ x ∈ st.1, upB x = true ∧ x.size ≤ 1000000) ∧ ∀ t ∈ st.2, RJ n t) (fun _ _ _ h1 h2 => ⟨Nat.le_trans h1.1 h2, h1.2⟩) (fun q st st' q' hq hi ho => by
      unfold pairS at ho
      split at ho
      · rename_i hq34
        split at ho
        · cases ho
        · rename_i l q1 hqu
          obtain ⟨o1, o2, o3, o4⟩ := quo_ok hu hq34 hqu
          unfold pairN at ho
          split at ho
          · cases ho
          · rename_i hnn
            have hb := blankS_le o4
            split at ho
            · rename_i hco
              have hco := take_t hco
              have hb2 := blankS_le (s := s) (k := blankS s q1 + 1) (by omega)
              split at ho
              · cases ho
              · rename_i t q2 hv2
                cases ho
                obtain ⟨e1, e2, e3⟩ := hv _ _ _ hb2.2 hv2
                obtain ⟨i1, i2, i3, i4, i5⟩ := hi
                have hle := lbT_le (strOfNums l) st.1
                refine ⟨⟨by rw [insA_len hle]; omega, by rw [insA_len hle, insA_len (by rw [← i2]; exact hle), i2], rises_ins i3 hnn, fun x hx => ?_, fun x hx => ?_⟩, by omega, e3⟩
                · rcases mem_insA.1 hx with rfl | hx
                  · exact ⟨up_of_ok o1, by rw [strOfNums_size]; omega⟩
                  · exact i4 x hx
                · rcases mem_insA.1 hx with rfl | hx
                  · exact e1
                  · exact i5 x hx
            · cases ho
      · cases ho) hk ⟨Nat.zero_le _, rfl, List.Pairwise.nil, (fun x hx => by cases hx), (fun t ht => by cases ht)⟩ hm
    refine ⟨⟨mk_right a2 a3 (fun x hx => (a4 x hx).1) (fun x hx => (a5 x hx).1), ?_⟩, c, d⟩
    exact ⟨by show 0 ≤ 1000000; decide, by show st.1.length ≤ 1000000; omega, by show st.2.length ≤ 1000000; omega, fun x hx => (a4 x hx).2, fun x hx => (a5 x hx).2⟩
theorem valB_ok {s : ByteArray} {n dp : Nat} {rl ro : Except Int (Js × Nat)} (hs : s.size ≤ 1000000) (hu : OKL (sb s)) {k k' : Nat} {j : Js} (hl : k < s.size → nestS dp rl = .ok (j, k') → RJ n j ∧ k < k' ∧ k' ≤ s.size) (ho : k < s.size → nestS dp ro = .ok (j, k') → RJ n j ∧ k < k' ∧ k' ≤ s.size) (h : valB s dp rl ro k = .ok (j, k')) : RJ n j ∧ k < k' ∧ k' ≤ s.size := by
  unfold valB at h
  have hw : ∀ (wd : ByteArray) (kd : Int), 1 ≤ wd.size → kd = 0 ∨ kd = 1 ∨ kd = 2 → wordR s wd kd k = .ok (j, k') → k < s.size → RJ n j ∧ k < k' ∧ k' ≤ s.size := fun wd kd h1 h2 h3 hk => by
    unfold wordR at h3
    split at h3
    · rename_i hw
      cases h3
      have hb := begin_sz ((begin_word (by omega)).trans hw) rfl
      refine ⟨leaf_rj ?_ (by show 0 ≤ 1000000; decide), by omega, hb⟩
      rcases h2 with rfl | rfl | rfl <;> rfl
    · cases h3
  split at h
  · rename_i hk
    split at h
    · exact hw _ _ (by decide) (.inl rfl) h hk
    · split at h
      · exact hw _ _ (by decide) (.inr (.inl rfl)) h hk
      · split at h
        · exact hw _ _ (by decide) (.inr (.inr rfl)) h hk
        · split at h
          · unfold numR at h
            split at h
            · cases h
            · rename_i m q hm
              cases h
              have hr := numS_in hm
              have hp : k < k' ∧ k' ≤ s.size := by
                unfold numS at hm
                split at hm
                · have := numT_ok (by omega) hm; omega
                · exact numT_ok (by omega) hm
              refine ⟨leaf_rj ?_ (by show 0 ≤ 1000000; decide), hp.1, hp.2⟩
              unfold leafJ leafS
              simp only [Js.names, Js.items, Js.kind, Js.text, Js.num]
              simp [hr.1, hr.2]
          · split at h
            · rename_i hq
              unfold quoR at h
              split at h
              · cases h
              · rename_i l q hq2
                cases h
                obtain ⟨o1, o2, o3, o4⟩ := quo_ok hu (take_of hk hq.symm) hq2
                refine ⟨leaf_rj ?_ (by show (strOfNums l).size ≤ 1000000; rw [strOfNums_size]; omega), o3, o4⟩
                unfold leafJ leafS
                simp only [Js.names, Js.items, Js.kind, Js.text, Js.num]
                simp [up_of_ok o1]
            · split at h
              · exact hl hk h
              · split at h
                · exact ho hk h
                · cases h
  · cases h
theorem valD_ok {s : ByteArray} (hs : s.size ≤ 1000000) (hu : OKL (sb s)) : ∀ m, m ≤ 12 → VOk s m (valD s m)
 | 0, _ => fun k j k' hk h => valB_ok hs hu (fun _ h => by cases h) (fun _ h => by cases h) h
 | m + 1, hm => fun k j k' hk h => by
  have ih := valD_ok hs hu m (by omega)
  have e : ∀ r : Except Int (Js × Nat), nestS (12 - (m + 1)) r = r := fun r => nest_lt (by omega)
  exact valB_ok hs hu (fun hk h => by rw [e] at h; exact list_ok hs ih hk h) (fun hk h => by rw [e] at h; exact obj_ok hs hu ih hk h) h
theorem par_ok {s : ByteArray} {j : Js} (h : parJ s = .ok j) : RJ 12 j := by
  unfold parJ parS at h
  split at h
  · cases h
  · rename_i hsz
    split at h
    · cases h
    · rename_i hu
      split at h
      · cases h
      · rename_i j2 k hv
        have := valD_ok (by omega) (ok_of_up (by simpa using hu)) 12 (Nat.le_refl _) _ _ _ (blankS_le (Nat.zero_le _)).2 hv
        split at h
        · cases h; exact this.1
        · cases h

theorem node_of {m : Nat} {t : Tr} (h : rightJ upB m t.er = true) (hk : t.kind = 5 ∨ t.kind = 6) : ∃ q, m = q + 1 ∧ (∀ c ∈ t.items, rightJ upB q c.er = true) ∧ (t.kind = 6 → t.names.length = t.items.length) := by
  have hk' : t.er.kind = 5 ∨ t.er.kind = 6 := by rw [er_kind]; exact hk
  cases m with
  | zero => rw [rightJ] at h; exact absurd hk' (leaf_kind h)
  | succ q =>
    rw [rightJ, Bool.or_eq_true] at h
    rcases h with h | h
    · exact absurd hk' (leaf_kind h)
    · rw [Bool.and_eq_true, List.all_eq_true] at h
      refine ⟨q, rfl, fun c hc => h.2 c.er (by rw [er_items]; exact List.mem_map.2 ⟨c, hc, rfl⟩), fun h6 => ?_⟩
      obtain ⟨_, _, ⟨e, _⟩ | ⟨_, e, _⟩⟩ := node_cases h.1
      · rw [er_kind] at e; omega
      · rw [er_names, er_items, List.length_map] at e; exact e
theorem leaf_of {m : Nat} {t : Tr} (h : rightJ upB m t.er = true) (hk : ¬ t.kind = 5) (hk6 : ¬ t.kind = 6) : leafJ upB t.er = true := by
  cases m with
  | zero => rw [rightJ] at h; exact h
  | succ q =>
    rw [rightJ, Bool.or_eq_true] at h
    rcases h with h | h
    · exact h
    · rw [Bool.and_eq_true] at h
      rcases node_kind h.1 with e | e <;> rw [er_kind] at e
      · exact absurd e hk
      · exact absurd e hk6
theorem num_of {m : Nat} {t : Tr} (h : rightJ upB m t.er = true) (hk : t.kind = 3) : -9007199254740991 ≤ t.num ∧ t.num ≤ 9007199254740991 := by
 obtain ⟨_, _, ⟨_, _, h1, h2⟩ | ⟨e, _⟩ | ⟨e, _⟩⟩ := leaf_cases (leaf_of h (by omega) (by omega))
 · rw [er_num] at h1 h2; exact ⟨h1, h2⟩
 · rw [er_kind] at e; omega
 · rw [er_kind] at e; omega
theorem kinds_of {m : Nat} {t : Tr} (h : rightJ upB m t.er = true) (h0 : ¬ t.kind = 0) (h1 : ¬ t.kind = 1) (h2 : ¬ t.kind = 2) (h3 : ¬ t.kind = 3) (h4 : ¬ t.kind = 4) (h5 : ¬ t.kind = 5) (h6 : ¬ t.kind = 6) : False := by
 obtain ⟨_, _, ⟨e, _⟩ | ⟨e, _⟩ | ⟨e, _⟩⟩ := leaf_cases (leaf_of h h5 h6) <;> rw [er_kind] at e <;> omega
theorem val_w {m : Nat} {t : Tr} {l b1 x : List Int} (hl : prJ m t.er = x) (hx : x.length ≤ 7000000) (e : b1 = l ++ x) : PrK 8192 (Kf m) l (prJ m t.er) b1 := by rw [hl]; exact prK_exact e (by unfold Kf; omega)
theorem pr_l {m : Nat} {t : Tr} (h5 : ¬ t.kind = 5) (h6 : ¬ t.kind = 6) : prJ m t.er = leafP t.er := pr_leaf (by rw [er_kind]; exact h5) (by rw [er_kind]; exact h6)
set_option maxHeartbeats 1000000 in
theorem pvalue_step (m : Nat) (ih : ∀ q, m = q + 1 → ValP q) (n : Nat) (t : Tr) (u : Value) (P : Nat) (l : List Int) (w w1 : World) (hB : Below w.heap.size w w1) (hst : PrS w.heap.size P l 8192 w1) (htab : tabP w) (hu : PtR [] w u (encT t)) (ht : RdT (n + 1) [] w t) (hz : SzT 1000000 (n + 1) t) (hr : rightJ upB m t.er = true) (hlen : l.length ≤ 10000000) (hm : m ≤ 12) : CB Tryd.prog 22 [.pointer (some ⟨P, 0, none⟩), u] w w1 fun v W => v = .tuple #[] ∧ ∃ l', PrK 8192 (Kf m) l (prJ m t.er) l' ∧ PrS w.heap.size P l' 8192 W := by
 refine cb_enter (N := 55) (f := [(0, .pointer (some ⟨P, 0, none⟩)), (1, u)]) Tryd.func22 rfl rfl rfl rfl fun Q hQ hE => ?_
 have hL := LL.nil w1
 refine Sq fun K1 hK1 => ?_
 obtain ⟨hnt, hit, hct⟩ := id ht
 refine Rg (Pu rfl (Va (dx_nilP rfl rfl (hu.below hB)) rfl rfl ?_))
 refine Ge (dx_fldP 1 rfl ty_fld_25_0_0 rfl (hu.below hB) (cs' := [.int .i64 t.kind]) rfl (Nat.succ_pos _)) rfl rfl ?_
 rintro u2 _ ⟨rfl, p3⟩
 refine Va (dx_loadP rfl ty_one_3 rfl p3) rfl rfl (Ni (hK1 (WC.block (Sq fun K4 hK4 => (Rg (Va (dx_eql rfl rfl rfl) rfl rfl (Pu rfl ?_)))))))
 refine Ni (hK4 ?_)
 refine WC.cond rfl (fun c5 => ?_) (fun c5 => ?_)
 ·
  replace c5 := dT c5
  refine Rg (Pu rfl (Va (dx_nilCheck rfl rfl) rfl rfl (Va (dx_fld (o1 := 0) rfl ty_fld_46_0_0 rfl rfl) rfl rfl ?_)))
  refine Ge (dx_cb rfl Tryd.func38 rfl rfl rfl (wstr_v P l 8192 ({ data := #[110, 117, 108, 108] }) w w1 hB hst (by (try simp only [List.length_append, List.length_cons, List.length_nil]); omega) (by decide))) rfl rfl ?_
  rintro _ W6 ⟨⟨rfl, hst⟩, hB⟩
  have hL := LL.nil W6
  refine Ni ?_
  intro a_ ha_
  exact hE (cv_ret0 rfl  ⟨rfl, _, val_w (x := [110, 117, 108, 108]) ((pr_l (by omega) (by omega)).trans (leafP_0 (by rw [er_kind]; assumption))) (by decide) rfl, hst⟩ hB ha_)
 ·
  replace c5 := dF c5
  refine Sq fun K7 hK7 => (Rg (Va (dx_eql rfl rfl rfl) rfl rfl (Pu rfl (Ni (hK7 ?_)))))
  refine WC.cond rfl (fun c8 => ?_) (fun c8 => ?_)
  ·
   replace c8 := dT c8
   refine Rg (Pu rfl (Va (dx_nilCheck rfl rfl) rfl rfl (Va (dx_fld (o1 := 0) rfl ty_fld_46_0_0 rfl rfl) rfl rfl ?_)))
   refine Ge (dx_cb rfl Tryd.func38 rfl rfl rfl (wstr_v P l 8192 ({ data := #[116, 114, 117, 101] }) w w1 hB hst (by (try simp only [List.length_append, List.length_cons, List.length_nil]); omega) (by decide))) rfl rfl ?_
   rintro _ W9 ⟨⟨rfl, hst⟩, hB⟩
   have hL := LL.nil W9
   refine Ni ?_
   intro a_ ha_
   exact hE (cv_ret0 rfl  ⟨rfl, _, val_w (x := [116, 114, 117, 101]) ((pr_l (by omega) (by omega)).trans (leafP_1 (by rw [er_kind]; assumption))) (by decide) rfl, hst⟩ hB ha_)
  ·
   replace c8 := dF c8
   refine Sq fun K10 hK10 => (Rg (Va (dx_eql rfl rfl rfl) rfl rfl (Pu rfl (Ni (hK10 ?_)))))
   refine WC.cond rfl (fun c11 => ?_) (fun c11 => ?_)
   ·
    replace c11 := dT c11
    refine Rg (Pu rfl (Va (dx_nilCheck rfl rfl) rfl rfl (Va (dx_fld (o1 := 0) rfl ty_fld_46_0_0 rfl rfl) rfl rfl ?_)))
    refine Ge (dx_cb rfl Tryd.func38 rfl rfl rfl (wstr_v P l 8192 ({ data := #[102, 97, 108, 115, 101] }) w w1 hB hst (by (try simp only [List.length_append, List.length_cons, List.length_nil]); omega) (by decide))) rfl rfl ?_
    rintro _ W12 ⟨⟨rfl, hst⟩, hB⟩
    have hL := LL.nil W12
    refine Ni ?_
    intro a_ ha_
    exact hE (cv_ret0 rfl  ⟨rfl, _, val_w (x := [102, 97, 108, 115, 101]) ((pr_l (by omega) (by omega)).trans (leafP_2 (by rw [er_kind]; assumption))) (by decide) rfl, hst⟩ hB ha_)
   ·
    replace c11 := dF c11
    refine Sq fun K13 hK13 => (Rg (Va (dx_eql rfl rfl rfl) rfl rfl (Pu rfl (Ni (hK13 ?_)))))
    refine WC.cond rfl (fun c14 => ?_) (fun c14 => ?_)
    ·
     replace c14 := dT c14
     obtain ⟨hn0, hn1⟩ := num_of hr (by assumption)
     have huw := hu.below hB
     refine WC.drawM 8 [(some 28, .is (.pointer (some ⟨P, 0, none⟩))), (some 29, .is (.pointer (some ⟨P, 0, none⟩))), (some 30, .is (.pointer (some ⟨P, 0, none⟩))), (some 31, .is (u)), (some 32, .is (u)), (some 33, .by fun u W => PtR ([]) W u [.int .i64 t.num]), (some 34, .is (.int .i64 t.num)), (some 35, .is (.string ⟨(Lib.itoa t.num).toArray⟩))] [[], [0], [1], [], [3], [4], [5], [6]] (by kernel_rfl) (by kernel_rfl) (by kernel_rfl) (by kernel_rfl) (by kernel_rfl) (by kernel_rfl) (by kernel_rfl) ⟨fun _ _ _ hb h => h.below hb, trivial⟩ ?_ ?_
     ·
      refine Dc (fun Wd hd => ?_) ?_
      ·
       exact Dd (dx_move rfl rfl) rfl
      refine Dc (fun Wd hd => ?_) ?_
      ·
       exact Dd (dx_nilCheck rfl rfl) rfl
      refine Dc (fun Wd hd => ?_) ?_
      ·
       exact Dd (dx_fld (o1 := 0) rfl ty_fld_46_0_0 rfl rfl) rfl
      refine Dc (fun Wd hd => ?_) ?_
      ·
       exact Dd (dx_move rfl rfl) rfl
      refine Dc (fun Wd hd => ?_) ?_
      ·
       have huw := huw.below hd
       exact Dd (dx_nilP rfl rfl huw) rfl
      refine Dc (fun Wd hd => ?_) ?_
      ·
       have huw := huw.below hd
       exact (dx_fldP 1 rfl ty_fld_25_1_1 rfl huw (cs' := [.int .i64 t.num]) rfl (Nat.succ_pos _)).mono (fun v W' h => ⟨by rw [← h.1]; exact Below.refl _ _, by rw [← h.1]; exact h.2⟩)
      refine Dc (fun Wd hd => ?_) ?_
      ·
       intro u8_5 p8_5
       exact Dd (dx_loadP rfl ty_one_3 rfl p8_5) rfl
      refine Dc (fun Wd hd => ?_) ?_
      ·
       exact DR.mono (dx_cv rfl Tryd.func39 rfl rfl rfl (itoa_v t.num Wd (tabP_below htab (below_then hB hd)) (by omega) (by omega))) (fun v W' ⟨h, hb⟩ => ⟨hb, (by rw [h]; exact rfl)⟩)
      exact trivial
     ·
      intro W15 b16
      intro u8_5 p8_5
      replace hst := hst.below b16
      replace hB := below_then hB b16
      replace hL := LL.below hL b16
      refine Ge (dx_cb rfl Tryd.func38 rfl rfl rfl (wstr_v P l 8192 ⟨(Lib.itoa t.num).toArray⟩ w W15 hB hst (by (try simp only [List.length_append, List.length_cons, List.length_nil]); omega) (by have := itoa_size t.num (by omega) (by omega); omega))) rfl rfl ?_
      rintro _ W17 ⟨⟨rfl, hst⟩, hB⟩
      have hL := LL.nil W17
      refine Ni ?_
      intro a_ ha_
      exact hE (cv_ret0 rfl  ⟨rfl, _, val_w (x := numJ t.num) ((pr_l (by omega) (by omega)).trans ((leafP_3 (by rw [er_kind]; assumption)).trans (by rw [er_num]))) (by have := numJ_len (n := t.num) (by omega) (by omega); omega) (by rw [itoa_sb]), hst⟩ hB ha_)
    ·
     replace c14 := dF c14
     refine Sq fun K18 hK18 => (Rg (Va (dx_eql rfl rfl rfl) rfl rfl (Pu rfl (Ni (hK18 ?_)))))
     refine WC.cond rfl (fun c19 => ?_) (fun c19 => ?_)
     ·
      replace c19 := dT c19
      refine Rg (Pu rfl (Pu rfl (Va (dx_nilP rfl rfl (hu.below hB)) rfl rfl ?_)))
      refine Ge (dx_fldP 1 rfl ty_fld_25_2_2 rfl (hu.below hB) (cs' := [.string t.text]) rfl (Nat.succ_pos _)) rfl rfl ?_
      rintro u20 _ ⟨rfl, p21⟩
      refine Va (dx_loadP rfl ty_one_9 rfl p21) rfl rfl ?_
      refine Ge (dx_cb rfl Tryd.func28 rfl rfl rfl (ptext_v P l 8192 t.text w w1 hB hst (by omega) hz.1)) rfl rfl ?_
      rintro _ W22 ⟨⟨rfl, b2, hkb2, hst⟩, hB⟩
      have hL := LL.nil W22
      refine Ni ?_
      intro a_ ha_
      exact hE (cv_ret0 rfl  ⟨rfl, _, (by rw [show prJ m t.er = quoJ t.text from (pr_l (by omega) (by omega)).trans ((leafP_4 (by rw [er_kind]; assumption)).trans (by rw [er_text]))]; exact prK_le hkb2 (by unfold Kf; omega)), hst⟩ hB ha_)
     ·
      replace c19 := dF c19
      refine Sq fun K23 hK23 => (Rg (Va (dx_eql rfl rfl rfl) rfl rfl (Pu rfl (Ni (hK23 ?_)))))
      refine WC.cond rfl (fun c24 => ?_) (fun c24 => ?_)
      ·
       replace c24 := dT c24
       obtain ⟨q, rfl, hrq, hln6⟩ := node_of hr (by first | exact .inl (by assumption) | exact .inr (by assumption))
       have hvq : ∀ (c : Tr) (uc : Value) (P : Nat) (l : List Int) (w w1 : World), Below w.heap.size w w1 → PrS w.heap.size P l 8192 w1 → tabP w → PtR [] w uc (encT c) → RdT n [] w c → SzT 1000000 n c → rightJ upB q c.er = true → l.length ≤ 10000000 → CB Tryd.prog 22 [selfP P, uc] w w1 fun v W => v = .tuple #[] ∧ ∃ l', PrK 8192 (Kf q) l (prJ q c.er) l' ∧ PrS w.heap.size P l' 8192 W := fun c uc P l w w1 h1 h2 h3 h4 h5 h6 h7 h8 => by cases n with | zero => exact h5.elim | succ k => exact ih q rfl k c uc P l w w1 h1 h2 h3 h4 h5 h6 h7 h8 (by omega)
       refine Rg (Pu rfl (Pu rfl ?_))
       refine Ge (dx_cb rfl Tryd.func40 rfl rfl rfl (pitems5_v q n t u P l w w1 hB hst htab hu ht hz (by assumption) trivial hlen (by omega) hvq hrq)) rfl rfl ?_
       rintro _ W25 ⟨⟨rfl, b6, hk6_, hst⟩, hB⟩
       have hL := LL.nil W25
       refine Ni ?_
       intro a_ ha_
       exact hE (cv_ret0 rfl  ⟨rfl, _, hk6_, hst⟩ hB ha_)
      ·
       replace c24 := dF c24
       refine Sq fun K26 hK26 => (Rg (Va (dx_eql rfl rfl rfl) rfl rfl (Pu rfl (Ni (hK26 ?_)))))
       refine WC.cond rfl (fun c27 => ?_) (fun c27 => ?_)
       ·
        replace c27 := dT c27
        obtain ⟨q, rfl, hrq, hln6⟩ := node_of hr (by first | exact .inl (by assumption) | exact .inr (by assumption))
        have hvq : ∀ (c : Tr) (uc : Value) (P : Nat) (l : List Int) (w w1 : World), Below w.heap.size w w1 → PrS w.heap.size P l 8192 w1 → tabP w → PtR [] w uc (encT c) → RdT n [] w c → SzT 1000000 n c → rightJ upB q c.er = true → l.length ≤ 10000000 → CB Tryd.prog 22 [selfP P, uc] w w1 fun v W => v = .tuple #[] ∧ ∃ l', PrK 8192 (Kf q) l (prJ q c.er) l' ∧ PrS w.heap.size P l' 8192 W := fun c uc P l w w1 h1 h2 h3 h4 h5 h6 h7 h8 => by cases n with | zero => exact h5.elim | succ k => exact ih q rfl k c uc P l w w1 h1 h2 h3 h4 h5 h6 h7 h8 (by omega)
        refine Rg (Pu rfl (Pu rfl ?_))
        refine Ge (dx_cb rfl Tryd.func40 rfl rfl rfl (pitems6_v q n t u P l w w1 hB hst htab hu ht hz (by assumption) (hln6 (by assumption)) hlen (by omega) hvq hrq)) rfl rfl ?_
        rintro _ W28 ⟨⟨rfl, b6, hk6_, hst⟩, hB⟩
        have hL := LL.nil W28
        refine Ni ?_
        intro a_ ha_
        exact hE (cv_ret0 rfl  ⟨rfl, _, hk6_, hst⟩ hB ha_)
       ·
        replace c27 := dF c27
        exact (kinds_of hr (by assumption) (by assumption) (by assumption) (by assumption) (by assumption) (by assumption) (by assumption)).elim

theorem valP_all : ∀ m, ValP m
 | 0 => fun n t u P l w w1 hB hst htab hu ht hz hr hl hm => pvalue_step 0 (fun q h => by omega) n t u P l w w1 hB hst htab hu ht hz hr hl hm
 | m + 1 => fun n t u P l w w1 hB hst htab hu ht hz hr hl hm => pvalue_step (m + 1) (fun q h => by (obtain rfl : m = q := (by omega)); exact valP_all m) n t u P l w w1 hB hst htab hu ht hz hr hl hm
section
variable {P : Program} {ops : Array Oper} {o : Oper} {N : Nat} {f : Fl} {w : World}
theorem dx_boxE {t : TypeId} {x : Operand} {V : Value} (ho : o.op = .box t x) (hx : ev f x = some V) (hw : wantF ops o f = some true := by rfl) : DR P ops o N f w (fun u W => u = .pointer (some ⟨w.heap.size, 0, none⟩) ∧ W = w.alloc (.cells V.cells t)) := fun a ha => by
 have hx := ha.ev hx
 exact Does.of_wp (wantF_of ha hw) fun K hK => by
  unfold Oper.wp execOp
  simp only [ho, hx, Sem.run_bind, Instr.box, newVar, newRow, run_newObj_alloc, Sem.run_pure, Result.andThen_ok]
  exact hK _ _ ⟨rfl, rfl⟩
end
theorem bld_p (m : Int) : Tryd.prog.built 46 [(1, .int .i64 m)] = some [.pointer none, .slice none 0 0, .int .i64 m].toArray := by kernel_rfl
theorem prS_new (w : World) (m : Int) : PrS w.heap.size w.heap.size [] m (w.alloc (.cells #[.pointer none, .slice none 0 0, .int .i64 m] 46)) ∧ Below w.heap.size w (w.alloc (.cells #[.pointer none, .slice none 0 0, .int .i64 m] 46)) :=
 ⟨⟨(fun x hx => by cases hx), .inl ⟨Nat.le_refl _, _, heap_alloc_new w _, World.ownsRow_nil _ _ _ _, by simp [Value.ownBlock]⟩⟩, (Below.refl _ w).alloc (Nat.le_refl _) _⟩
def prtS (j : Js) : ByteArray × Int := if rightJ upB 12 j = true then (if 8192 < (textJ j).length then (⟨#[]⟩, 3) else (strOfNums (textJ j), 0)) else (⟨#[]⟩, 1)
def lenJ (j : Js) : Int := if rightJ upB 12 j = true then min ((textJ j).length : Int) 8193 else 0
def qtS (s : ByteArray) : ByteArray × Int := if upB s = true then (strOfNums (quoJ s), 0) else (⟨#[]⟩, 1)
section
variable {j : Js} {b : List Int}
theorem prt_no (h : ¬ rightJ upB 12 j = true) : prtS j = (⟨#[]⟩, 1) := by unfold prtS; rw [if_neg h]
theorem prt_long (h : rightJ upB 12 j = true) (hk : PrK 8192 (Kf 12) [] (prJ 12 j) b) (hf : 8192 < (b.length : Int)) : prtS j = (⟨#[]⟩, 3) := by
 unfold prtS
 rw [if_pos h, if_pos]
 have h1 := hk.1
 unfold textJ
 rcases h1 with ⟨a, rfl⟩ | ⟨a, _⟩
 · rw [List.nil_append] at hf; omega
 · simp only [List.length_nil] at a; omega
theorem prt_ok (h : rightJ upB 12 j = true) (hk : PrK 8192 (Kf 12) [] (prJ 12 j) b) (hf : ¬ 8192 < (b.length : Int)) : prtS j = (strOfNums b, 0) := by
 obtain ⟨e, hl⟩ := prK_go hk hf
 rw [List.nil_append] at e
 subst e
 unfold prtS
 rw [if_pos h, if_neg (by unfold textJ; omega)]; rfl
theorem len_no (h : ¬ rightJ upB 12 j = true) : lenJ j = 0 := by unfold lenJ; rw [if_neg h]
theorem len_ok (h : rightJ upB 12 j = true) (hk : PrK 8192 (Kf 12) [] (prJ 12 j) b) : lenJ j = if (8193 : Int) < (b.length : Int) then 8193 else (b.length : Int) := by
 unfold lenJ textJ
 rw [if_pos h]
 rcases hk.1 with ⟨a, rfl⟩ | ⟨a, a2⟩
 · rw [List.nil_append]; split <;> omega
 · simp only [List.length_nil] at a; split <;> omega
theorem pr_ne (hk : PrK 8192 (Kf 12) [] (prJ 12 j) b) (hf : ¬ 8192 < (b.length : Int)) : b ≠ [] := by
 obtain ⟨e, _⟩ := prK_go hk hf
 obtain ⟨c, l, h1, _⟩ := head_pr 12 j
 rw [e, List.nil_append, h1]; intro h; cases h
end
theorem blenB_v (P : Nat) (l : List Int) (m : Int) (w w1 : World) (hB : Below w.heap.size w w1) (h : PrS w.heap.size P l m w1) : CB Tryd.prog 31 [selfP P] w w1 fun v W => v = .int .i64 (l.length : Int) ∧ PrS w.heap.size P l m W :=
 Calls.mono (blen_v _ P l m w1 h) fun e w' ⟨v, he, hv, hb⟩ => ⟨v, he, ⟨hv, h.below hb⟩, below_then hB hb⟩
set_option maxHeartbeats 1000000 in
theorem cPrint_v (n : Nat) (t : Tr) (w : World) (L : List Nat) (hL : LL L w) (ht : RdT (n + 1) L w t)  (hz : SzT 1000000 (n + 1) t) (htab : tabP w) : CV Tryd.prog 10 [.agg #[.int .i64 t.kind, .int .i64 t.num, .string t.text, t.nv, t.iv]] w fun v W => v = .tuple #[.string (prtS t.er).1, .int .i64 (prtS t.er).2] := by
 refine cv_enter (N := 18) (f := [(0, .agg #[.int .i64 t.kind, .int .i64 t.num, .string t.text, t.nv, t.iv])]) Tryd.func10 rfl rfl rfl rfl fun Q hQ hE => ?_
 have hB := Below.refl w.heap.size w
 refine Sq fun K1 hK1 => ?_
 obtain ⟨hnt, hit, hct⟩ := ht
 replace hct : RdTs n (L) w t.items := hct
 refine Rg ?_
 refine Ge (dx_box rfl rfl rfl) rfl rfl ?_
 rintro _ W2 ⟨rfl, k3, b4, z5⟩
 have l6 := hB.size
 replace hnt := hnt.more b4 (Nat.le_refl _)
 replace hit := hit.more b4 (Nat.le_refl _)
 replace hct := hct.more b4 (Nat.le_refl _)
 replace hB := below_then hB b4
 replace hL := LL.more hL z5
 refine Pu rfl (Pu rfl (Ni (hK1 (Sq fun K7 hK7 => (Sq fun K8 hK8 => (Rg (Va (dx_loadN rfl ty_agg_25_5 rfl k3.range rfl) rfl rfl ?_)))))))
 refine Ge (dx_cv rfl Tryd.func21 rfl rfl rfl (jRight_v n t W2 _ hL (show RdT (n + 1) (w.heap.size :: L) W2 t from ⟨hnt, hit, hct⟩) hz)) rfl rfl ?_
 rintro _ W10 ⟨rfl, b9⟩
 replace hnt := hnt.below b9
 replace hit := hit.below b9
 replace hct := hct.below b9
 replace k3 := k3.below b9
 replace hB := below_then hB b9
 replace hL := LL.below hL b9
 refine Va (dx_not rfl rfl) rfl rfl (Ni (hK8 ?_))
 refine WC.cond rfl (fun c11 => ?_) (fun c11 => ?_)
 ·
  replace c11 := bnot_t c11
  refine Sq fun K12 hK12 => (Rg (Pu rfl (Pu rfl (Ni (hK12 ?_)))))
  exact WC.ret fun a_ ha_ => hQ (cv_ret2 rfl (.tmp rfl) (.tmp rfl) (by rw [prt_no (by first | assumption | (simp_all; done))]) hB ha_)
 ·
  replace c11 := bnot_f c11
  refine WC.skip (hK7 (Sq fun K13 hK13 => ?_))
  have hrt : rightJ upB 12 t.er = true := (by first | assumption | (simp_all; done))
  refine Rg (Va (dx_build rfl rfl (bld_p _)) rfl rfl ?_)
  have htB : RdT (n + 1) [] W10 t := RdT.less (show RdT (n + 1) (w.heap.size :: L) W10 t from ⟨hnt, hit, hct⟩) (fun x hx => by cases hx)
  have hpB : PtR [] W10 (.pointer (some ⟨w.heap.size, 0, none⟩)) (encT t) := ⟨Nat.succ_pos _, _, 0, rfl, (fun hx => by cases hx), k3.range⟩
  have htab1 := tabP_below htab hB
  refine Ge (dx_boxE rfl rfl) rfl rfl ?_
  rintro _ W14 ⟨rfl, hW2⟩
  obtain ⟨hst, hB9⟩ : PrS W10.heap.size W10.heap.size [] 8192 W14 ∧ Below W10.heap.size W10 W14 := by rw [hW2]; exact prS_new W10 8192
  have hL := LL.nil W14
  refine Pu rfl (Ni (hK13 (Sq fun K15 hK15 => (Rg (Pu rfl ?_)))))
  refine Ge (dx_cb rfl Tryd.func22 rfl rfl rfl (valP_all 12 n t _ _ [] W10 W14 hB9 hst htab1 hpB htB hz hrt (by decide) (by decide))) rfl rfl ?_
  rintro _ W16 ⟨⟨rfl, b1, hk1, hst⟩, hB9⟩
  have hL := LL.nil W16
  refine Ni (hK15 (Sq fun K17 hK17 => (Sq fun K18 hK18 => (Rg (Pu rfl ?_)))))
  refine Ge (dx_cb rfl Tryd.func23 rfl rfl rfl (full_v _ b1 8192 W10 W16 hB9 hst)) rfl rfl ?_
  rintro _ W19 ⟨⟨rfl, hst⟩, hB9⟩
  have hL := LL.nil W19
  refine Ni (hK18 ?_)
  refine WC.cond rfl (fun c20 => ?_) (fun c20 => ?_)
  ·
   replace c20 := dT c20
   refine Sq fun K21 hK21 => (Rg (Pu rfl (Pu rfl (Ni (hK21 ?_)))))
   exact WC.ret fun a_ ha_ => hQ (cv_ret2 rfl (.tmp rfl) (.tmp rfl) (by rw [prt_long hrt hk1 (by omega)]) (below_then hB hB9) ha_)
  ·
   replace c20 := dF c20
   refine WC.skip (hK17 (Sq fun K22 hK22 => (Rg (Pu rfl (Va (dx_nilCheck rfl rfl) rfl rfl (Va (dx_fld (o1 := 0) rfl ty_fld_46_0_0 rfl rfl) rfl rfl ?_))))))
   refine Ge (dx_cb rfl Tryd.func24 rfl rfl rfl (bstr_v _ b1 8192 W10 W19 hB9 hst (pr_ne hk1 (by omega)))) rfl rfl ?_
   rintro _ W23 ⟨rfl, hB9⟩
   have hL := LL.nil W23
   refine Pu rfl (Pu rfl (Ni (hK22 ?_)))
   exact WC.ret fun a_ ha_ => hQ (cv_ret2 rfl (.tmp rfl) (.tmp rfl) (by rw [prt_ok hrt hk1 (by omega)]) (below_then hB hB9) ha_)

set_option maxHeartbeats 1000000 in
theorem cLength_v (n : Nat) (t : Tr) (w : World) (L : List Nat) (hL : LL L w) (ht : RdT (n + 1) L w t)  (hz : SzT 1000000 (n + 1) t) (htab : tabP w) : CV Tryd.prog 14 [.agg #[.int .i64 t.kind, .int .i64 t.num, .string t.text, t.nv, t.iv]] w fun v W => v = .int .i64 (lenJ t.er) := by
 refine cv_enter (N := 16) (f := [(0, .agg #[.int .i64 t.kind, .int .i64 t.num, .string t.text, t.nv, t.iv])]) Tryd.func14 rfl rfl rfl rfl fun Q hQ hE => ?_
 have hB := Below.refl w.heap.size w
 refine Sq fun K1 hK1 => ?_
 obtain ⟨hnt, hit, hct⟩ := ht
 replace hct : RdTs n (L) w t.items := hct
 refine Rg ?_
 refine Ge (dx_box rfl rfl rfl) rfl rfl ?_
 rintro _ W2 ⟨rfl, k3, b4, z5⟩
 have l6 := hB.size
 replace hnt := hnt.more b4 (Nat.le_refl _)
 replace hit := hit.more b4 (Nat.le_refl _)
 replace hct := hct.more b4 (Nat.le_refl _)
 replace hB := below_then hB b4
 replace hL := LL.more hL z5
 refine Pu rfl (Ni (hK1 (Sq fun K7 hK7 => (Sq fun K8 hK8 => (Rg (Va (dx_loadN rfl ty_agg_25_5 rfl k3.range rfl) rfl rfl ?_))))))
 refine Ge (dx_cv rfl Tryd.func21 rfl rfl rfl (jRight_v n t W2 _ hL (show RdT (n + 1) (w.heap.size :: L) W2 t from ⟨hnt, hit, hct⟩) hz)) rfl rfl ?_
 rintro _ W10 ⟨rfl, b9⟩
 replace hnt := hnt.below b9
 replace hit := hit.below b9
 replace hct := hct.below b9
 replace k3 := k3.below b9
 replace hB := below_then hB b9
 replace hL := LL.below hL b9
 refine Va (dx_not rfl rfl) rfl rfl (Ni (hK8 ?_))
 refine WC.cond rfl (fun c11 => ?_) (fun c11 => ?_)
 ·
  replace c11 := bnot_t c11
  refine Sq fun K12 hK12 => (Rg (Pu rfl (Ni (hK12 ?_))))
  exact WC.ret fun a_ ha_ => hQ (cv_ret1 rfl (.tmp rfl) (by rw [len_no (by first | assumption | (simp_all; done))]) hB ha_)
 ·
  replace c11 := bnot_f c11
  refine WC.skip (hK7 (Sq fun K13 hK13 => ?_))
  have hrt : rightJ upB 12 t.er = true := (by first | assumption | (simp_all; done))
  refine Rg (Va (dx_build rfl rfl (bld_p _)) rfl rfl ?_)
  have htB : RdT (n + 1) [] W10 t := RdT.less (show RdT (n + 1) (w.heap.size :: L) W10 t from ⟨hnt, hit, hct⟩) (fun x hx => by cases hx)
  have hpB : PtR [] W10 (.pointer (some ⟨w.heap.size, 0, none⟩)) (encT t) := ⟨Nat.succ_pos _, _, 0, rfl, (fun hx => by cases hx), k3.range⟩
  have htab1 := tabP_below htab hB
  refine Ge (dx_boxE rfl rfl) rfl rfl ?_
  rintro _ W14 ⟨rfl, hW2⟩
  obtain ⟨hst, hB9⟩ : PrS W10.heap.size W10.heap.size [] 8192 W14 ∧ Below W10.heap.size W10 W14 := by rw [hW2]; exact prS_new W10 8192
  have hL := LL.nil W14
  refine Pu rfl (Ni (hK13 (Sq fun K15 hK15 => (Rg (Pu rfl ?_)))))
  refine Ge (dx_cb rfl Tryd.func22 rfl rfl rfl (valP_all 12 n t _ _ [] W10 W14 hB9 hst htab1 hpB htB hz hrt (by decide) (by decide))) rfl rfl ?_
  rintro _ W16 ⟨⟨rfl, b1, hk1, hst⟩, hB9⟩
  have hL := LL.nil W16
  refine Ni (hK15 (Sq fun K17 hK17 => (Rg (Pu rfl (Va (dx_nilCheck rfl rfl) rfl rfl (Va (dx_fld (o1 := 0) rfl ty_fld_46_0_0 rfl rfl) rfl rfl ?_))))))
  refine Ge (dx_cb rfl Tryd.func31 rfl rfl rfl (blenB_v _ b1 8192 W10 W16 hB9 hst)) rfl rfl ?_
  rintro _ W18 ⟨⟨rfl, hst⟩, hB9⟩
  have hL := LL.nil W18
  refine Va (dx_min rfl rfl rfl) rfl rfl (Pu rfl (Ni (hK17 ?_)))
  exact WC.ret fun a_ ha_ => hQ (cv_ret1 rfl (.tmp rfl) (by rw [len_ok hrt hk1]) (below_then hB hB9) ha_)

theorem quo_all {s : ByteArray} {b : List Int} (hs : s.size ≤ 1000000) (h : PrK 9223372036854775807 6000002 [] (quoJ s) b) : b = quoJ s := by
 have := quo_len s
 rcases h.1 with ⟨_, e⟩ | ⟨a, _⟩
 · rw [e]; rfl
 · simp only [List.length_nil] at a; omega
theorem quo_ne0 (s : ByteArray) : quoJ s ≠ [] := by unfold quoJ; intro h; cases h
theorem qt_no {s : ByteArray} (h : ¬ upB s = true) : qtS s = (⟨#[]⟩, 1) := by unfold qtS; rw [if_neg h]
theorem qt_ok {s : ByteArray} (h : upB s = true) : qtS s = (strOfNums (quoJ s), 0) := by unfold qtS; rw [if_pos h]
set_option maxHeartbeats 1000000 in
theorem cQuote_v (s : ByteArray) (w : World) (L : List Nat) (hL : LL L w)   (hs : s.size ≤ 1000000) : CV Tryd.prog 12 [.string s] w fun v W => v = .tuple #[.string (qtS s).1, .int .i64 (qtS s).2] := by
 refine cv_enter (N := 18) (f := [(0, .string s)]) Tryd.func12 rfl rfl rfl rfl fun Q hQ hE => ?_
 have hB := Below.refl w.heap.size w
 refine Sq fun K1 hK1 => (Rg (Pu rfl (Pu rfl (Ni (hK1 (Sq fun K2 hK2 => (Sq fun K3 hK3 => ?_)))))))
 refine Rg (Pu rfl ?_)
 refine Ge (dx_sb (L := L) rfl Tryd.underlying9 Tryd.underlying42 Tryd.underlying5 rfl hL (by unfold maxLen; omega)) rfl rfl ?_
 rintro u4 W5 ⟨k6, b7⟩
 replace hB := below_then hB b7
 replace hL := LL.below hL b7
 refine Ge (dx_cv rfl Tryd.func27 rfl rfl rfl ((show CV _ _ [_] _ (fun v _ => v = .bool (upB s)) from cv_oldB (right_any u4 (sb s) W5 (rdI_of k6) (sb_bytes _) (by rw [sb_length]; omega))))) rfl rfl ?_
 rintro _ W9 ⟨rfl, b8⟩
 replace hB := below_then hB b8
 replace hL := LL.below hL b8
 refine Va (dx_not rfl rfl) rfl rfl (Ni (hK3 ?_))
 refine WC.cond rfl (fun c10 => ?_) (fun c10 => ?_)
 ·
  replace c10 := bnot_t c10
  refine Sq fun K11 hK11 => (Rg (Pu rfl (Pu rfl (Ni (hK11 ?_)))))
  exact WC.ret fun a_ ha_ => hQ (cv_ret2 rfl (.tmp rfl) (.tmp rfl) (by rw [qt_no (by first | assumption | (simp_all; done))]) hB ha_)
 ·
  replace c10 := bnot_f c10
  refine WC.skip (hK2 (Sq fun K12 hK12 => (Rg (Va (dx_build rfl rfl (bld_p _)) rfl rfl ?_))))
  refine Ge (dx_boxE rfl rfl) rfl rfl ?_
  rintro _ W13 ⟨rfl, hW2⟩
  obtain ⟨hst, hB9⟩ : PrS W9.heap.size W9.heap.size [] 9223372036854775807 W13 ∧ Below W9.heap.size W9 W13 := by rw [hW2]; exact prS_new W9 9223372036854775807
  have hL := LL.nil W13
  refine Pu rfl (Ni (hK12 (Sq fun K14 hK14 => (Rg (Pu rfl (Pu rfl ?_))))))
  refine Ge (dx_cb rfl Tryd.func28 rfl rfl rfl (ptext_v _ [] 9223372036854775807 s W9 W13 hB9 hst (by decide) hs)) rfl rfl ?_
  rintro _ W15 ⟨⟨rfl, b1, hk1, hst⟩, hB9⟩
  have hL := LL.nil W15
  refine Ni (hK14 (Sq fun K16 hK16 => (Rg (Pu rfl (Va (dx_nilCheck rfl rfl) rfl rfl (Va (dx_fld (o1 := 0) rfl ty_fld_46_0_0 rfl rfl) rfl rfl ?_))))))
  refine Ge (dx_cb rfl Tryd.func24 rfl rfl rfl (bstr_v _ b1 9223372036854775807 W9 W15 hB9 hst (by rw [quo_all hs hk1]; exact quo_ne0 s))) rfl rfl ?_
  rintro _ W17 ⟨rfl, hB9⟩
  have hL := LL.nil W17
  refine Pu rfl (Pu rfl (Ni (hK16 ?_)))
  exact WC.ret fun a_ ha_ => hQ (cv_ret2 rfl (.tmp rfl) (.tmp rfl) (by rw [qt_ok (by first | assumption | (simp_all; done)), quo_all hs hk1]) (below_then hB hB9) ha_)

def plainT (a b c d : Bool) (t : Tr) : Bool := (a || decide (t.num = 0)) && ((b || decide (t.text = ⟨#[]⟩)) && ((c || decide (t.names = [])) && (d || decide (t.items = []))))
theorem nil_of_z {α : Type} {l : List α} (h : (l.length : Int) = 0) : l = [] := List.length_eq_zero_iff.1 (by omega)
theorem ne_of_z {α : Type} {l : List α} (h : ¬ (l.length : Int) = 0) : l ≠ [] := fun e => by rw [e] at h; simp at h
set_option maxHeartbeats 1000000 in
theorem plainFFFF_v (n : Nat) (t : Tr) (w : World) (L : List Nat) (hL : LL L w) (ht : RdT (n + 1) L w t) : CV Tryd.prog 59 [.agg #[.int .i64 t.kind, .int .i64 t.num, .string t.text, t.nv, t.iv], .bool false, .bool false, .bool false, .bool false] w fun v W => v = .bool (plainT false false false false t) := by
 refine cv_enter (N := 43) (f := [(0, .agg #[.int .i64 t.kind, .int .i64 t.num, .string t.text, t.nv, t.iv]), (1, .bool false), (2, .bool false), (3, .bool false), (4, .bool false)]) Tryd.func59 rfl rfl rfl rfl fun Q hQ hE => ?_
 have hB := Below.refl w.heap.size w
 refine Sq fun K1 hK1 => ?_
 obtain ⟨hnt, hit, hct⟩ := ht
 replace hct : RdTs n (L) w t.items := hct
 refine Rg ?_
 refine Ge (dx_box rfl rfl rfl) rfl rfl ?_
 rintro _ W2 ⟨rfl, k3, b4, z5⟩
 have l6 := hB.size
 replace hnt := hnt.more b4 (Nat.le_refl _)
 replace hit := hit.more b4 (Nat.le_refl _)
 replace hB := below_then hB b4
 refine Pu rfl (Ni (hK1 (Sq fun K7 hK7 => (Rg (Pu rfl (Pu rfl (Va (dx_fld (o1 := 1) rfl ty_fld_25_1_1 rfl rfl) rfl rfl ?_)))))))
 refine Va (dx_load rfl ty_one_3 rfl (k3.cell (k := 1) rfl)) rfl rfl (Va (dx_eql rfl rfl rfl) rfl rfl (Pu rfl (Pu rfl ?_)))
 refine WL.split 17 rfl (fun g8 => ?_) (fun g8 => ?_)
 ·
  replace g8 := dT g8
  refine Pu rfl (Pu rfl (Va (dx_fld (o1 := 2) rfl ty_fld_25_2_2 rfl rfl) rfl rfl (Va (dx_load rfl ty_one_9 rfl (k3.cell (k := 2) rfl)) rfl rfl (Va (dx_eqlT rfl rfl rfl) rfl rfl (Pu rfl (Pu rfl (Pu rfl ?_)))))))
  refine WL.split 25 rfl (fun g9 => ?_) (fun g9 => ?_)
  ·
   replace g9 := dT g9
   refine Pu rfl (Pu rfl (Va (dx_fld (o1 := 3) rfl ty_fld_25_3_3 rfl rfl) rfl rfl (Va (dx_load rfl ty_one_22 rfl (k3.cell (k := 3) rfl)) rfl rfl (Va (dx_lenFM rfl ty_slice_22 rfl hnt) rfl rfl (Va (dx_eql rfl rfl rfl) rfl rfl (Pu rfl (Pu rfl ?_)))))))
   refine Pu rfl ?_
   refine WL.split 34 rfl (fun g10 => ?_) (fun g10 => ?_)
   ·
    replace g10 := dT g10
    refine Pu rfl (Pu rfl (Va (dx_fld (o1 := 4) rfl ty_fld_25_4_4 rfl rfl) rfl rfl (Va (dx_load rfl ty_one_23 rfl (k3.cell (k := 4) rfl)) rfl rfl (Va (dx_lenFM rfl ty_slice_23 rfl hit) rfl rfl (Va (dx_eql rfl rfl rfl) rfl rfl (Pu rfl (Pu rfl ?_)))))))
    refine Pu rfl (Ni (hK7 ?_))
    exact WC.ret fun a_ ha_ => hQ (cv_ret1 rfl (.tmp rfl) (by (try have q1 := nil_of_z ‹(t.names.length : Int) = 0›); (try have q2 := nil_of_z ‹(t.items.length : Int) = 0›); (try have q3 := ne_of_z ‹¬ (t.names.length : Int) = 0›); (try have q4 := ne_of_z ‹¬ (t.items.length : Int) = 0›); unfold plainT; simp [*]) hB ha_)
   ·
    replace g10 := dF g10
    refine Of rfl (Of rfl (Of rfl (Of rfl (Of rfl (Of rfl (Of rfl (Pu rfl ?_)))))))
    refine Pu rfl (Ni (hK7 ?_))
    exact WC.ret fun a_ ha_ => hQ (cv_ret1 rfl (.tmp rfl) (by (try have q1 := nil_of_z ‹(t.names.length : Int) = 0›); (try have q2 := nil_of_z ‹(t.items.length : Int) = 0›); (try have q3 := ne_of_z ‹¬ (t.names.length : Int) = 0›); (try have q4 := ne_of_z ‹¬ (t.items.length : Int) = 0›); unfold plainT; simp [*]) hB ha_)
  ·
   replace g9 := dF g9
   refine Of rfl (Of rfl (Of rfl (Of rfl (Of rfl (Of rfl (Of rfl (Pu rfl ?_)))))))
   refine Pu rfl (Of rfl (Of rfl (Of rfl (Of rfl (Of rfl (Of rfl (Of rfl ?_)))))))
   refine Pu rfl (Pu rfl (Ni (hK7 ?_)))
   exact WC.ret fun a_ ha_ => hQ (cv_ret1 rfl (.tmp rfl) (by (try have q1 := nil_of_z ‹(t.names.length : Int) = 0›); (try have q2 := nil_of_z ‹(t.items.length : Int) = 0›); (try have q3 := ne_of_z ‹¬ (t.names.length : Int) = 0›); (try have q4 := ne_of_z ‹¬ (t.items.length : Int) = 0›); unfold plainT; simp [*]) hB ha_)
 ·
  replace g8 := dF g8
  refine Of rfl (Of rfl (Of rfl (Of rfl (Of rfl (Of rfl (Pu rfl (Pu rfl ?_)))))))
  refine Of rfl (Of rfl (Of rfl (Of rfl (Of rfl (Of rfl (Of rfl (Pu rfl ?_)))))))
  refine Pu rfl (Of rfl (Of rfl (Of rfl (Of rfl (Of rfl (Of rfl (Of rfl ?_)))))))
  refine Pu rfl (Pu rfl (Ni (hK7 ?_)))
  exact WC.ret fun a_ ha_ => hQ (cv_ret1 rfl (.tmp rfl) (by (try have q1 := nil_of_z ‹(t.names.length : Int) = 0›); (try have q2 := nil_of_z ‹(t.items.length : Int) = 0›); (try have q3 := ne_of_z ‹¬ (t.names.length : Int) = 0›); (try have q4 := ne_of_z ‹¬ (t.items.length : Int) = 0›); unfold plainT; simp [*]) hB ha_)

set_option maxHeartbeats 1000000 in
theorem plainTFFF_v (n : Nat) (t : Tr) (w : World) (L : List Nat) (hL : LL L w) (ht : RdT (n + 1) L w t) : CV Tryd.prog 59 [.agg #[.int .i64 t.kind, .int .i64 t.num, .string t.text, t.nv, t.iv], .bool true, .bool false, .bool false, .bool false] w fun v W => v = .bool (plainT true false false false t) := by
 refine cv_enter (N := 43) (f := [(0, .agg #[.int .i64 t.kind, .int .i64 t.num, .string t.text, t.nv, t.iv]), (1, .bool true), (2, .bool false), (3, .bool false), (4, .bool false)]) Tryd.func59 rfl rfl rfl rfl fun Q hQ hE => ?_
 have hB := Below.refl w.heap.size w
 refine Sq fun K1 hK1 => ?_
 obtain ⟨hnt, hit, hct⟩ := ht
 replace hct : RdTs n (L) w t.items := hct
 refine Rg ?_
 refine Ge (dx_box rfl rfl rfl) rfl rfl ?_
 rintro _ W2 ⟨rfl, k3, b4, z5⟩
 have l6 := hB.size
 replace hnt := hnt.more b4 (Nat.le_refl _)
 replace hit := hit.more b4 (Nat.le_refl _)
 replace hB := below_then hB b4
 refine Pu rfl (Ni (hK1 (Sq fun K7 hK7 => (Rg (Pu rfl (Pu rfl (Of rfl ?_)))))))
 refine Of rfl (Of rfl (Pu rfl (Pu rfl (Pu rfl (Pu rfl (Va (dx_fld (o1 := 2) rfl ty_fld_25_2_2 rfl rfl) rfl rfl (Va (dx_load rfl ty_one_9 rfl (k3.cell (k := 2) rfl)) rfl rfl ?_)))))))
 refine Va (dx_eqlT rfl rfl rfl) rfl rfl (Pu rfl (Pu rfl (Pu rfl ?_)))
 refine WL.split 25 rfl (fun g8 => ?_) (fun g8 => ?_)
 ·
  replace g8 := dT g8
  refine Pu rfl (Pu rfl (Va (dx_fld (o1 := 3) rfl ty_fld_25_3_3 rfl rfl) rfl rfl (Va (dx_load rfl ty_one_22 rfl (k3.cell (k := 3) rfl)) rfl rfl (Va (dx_lenFM rfl ty_slice_22 rfl hnt) rfl rfl (Va (dx_eql rfl rfl rfl) rfl rfl (Pu rfl (Pu rfl ?_)))))))
  refine Pu rfl ?_
  refine WL.split 34 rfl (fun g9 => ?_) (fun g9 => ?_)
  ·
   replace g9 := dT g9
   refine Pu rfl (Pu rfl (Va (dx_fld (o1 := 4) rfl ty_fld_25_4_4 rfl rfl) rfl rfl (Va (dx_load rfl ty_one_23 rfl (k3.cell (k := 4) rfl)) rfl rfl (Va (dx_lenFM rfl ty_slice_23 rfl hit) rfl rfl (Va (dx_eql rfl rfl rfl) rfl rfl (Pu rfl (Pu rfl ?_)))))))
   refine Pu rfl (Ni (hK7 ?_))
   exact WC.ret fun a_ ha_ => hQ (cv_ret1 rfl (.tmp rfl) (by (try have q1 := nil_of_z ‹(t.names.length : Int) = 0›); (try have q2 := nil_of_z ‹(t.items.length : Int) = 0›); (try have q3 := ne_of_z ‹¬ (t.names.length : Int) = 0›); (try have q4 := ne_of_z ‹¬ (t.items.length : Int) = 0›); unfold plainT; simp [*]) hB ha_)
  ·
   replace g9 := dF g9
   refine Of rfl (Of rfl (Of rfl (Of rfl (Of rfl (Of rfl (Of rfl (Pu rfl ?_)))))))
   refine Pu rfl (Ni (hK7 ?_))
   exact WC.ret fun a_ ha_ => hQ (cv_ret1 rfl (.tmp rfl) (by (try have q1 := nil_of_z ‹(t.names.length : Int) = 0›); (try have q2 := nil_of_z ‹(t.items.length : Int) = 0›); (try have q3 := ne_of_z ‹¬ (t.names.length : Int) = 0›); (try have q4 := ne_of_z ‹¬ (t.items.length : Int) = 0›); unfold plainT; simp [*]) hB ha_)
 ·
  replace g8 := dF g8
  refine Of rfl (Of rfl (Of rfl (Of rfl (Of rfl (Of rfl (Of rfl (Pu rfl ?_)))))))
  refine Pu rfl (Of rfl (Of rfl (Of rfl (Of rfl (Of rfl (Of rfl (Of rfl ?_)))))))
  refine Pu rfl (Pu rfl (Ni (hK7 ?_)))
  exact WC.ret fun a_ ha_ => hQ (cv_ret1 rfl (.tmp rfl) (by (try have q1 := nil_of_z ‹(t.names.length : Int) = 0›); (try have q2 := nil_of_z ‹(t.items.length : Int) = 0›); (try have q3 := ne_of_z ‹¬ (t.names.length : Int) = 0›); (try have q4 := ne_of_z ‹¬ (t.items.length : Int) = 0›); unfold plainT; simp [*]) hB ha_)

set_option maxHeartbeats 1000000 in
theorem plainFTFF_v (n : Nat) (t : Tr) (w : World) (L : List Nat) (hL : LL L w) (ht : RdT (n + 1) L w t) : CV Tryd.prog 59 [.agg #[.int .i64 t.kind, .int .i64 t.num, .string t.text, t.nv, t.iv], .bool false, .bool true, .bool false, .bool false] w fun v W => v = .bool (plainT false true false false t) := by
 refine cv_enter (N := 43) (f := [(0, .agg #[.int .i64 t.kind, .int .i64 t.num, .string t.text, t.nv, t.iv]), (1, .bool false), (2, .bool true), (3, .bool false), (4, .bool false)]) Tryd.func59 rfl rfl rfl rfl fun Q hQ hE => ?_
 have hB := Below.refl w.heap.size w
 refine Sq fun K1 hK1 => ?_
 obtain ⟨hnt, hit, hct⟩ := ht
 replace hct : RdTs n (L) w t.items := hct
 refine Rg ?_
 refine Ge (dx_box rfl rfl rfl) rfl rfl ?_
 rintro _ W2 ⟨rfl, k3, b4, z5⟩
 have l6 := hB.size
 replace hnt := hnt.more b4 (Nat.le_refl _)
 replace hit := hit.more b4 (Nat.le_refl _)
 replace hB := below_then hB b4
 refine Pu rfl (Ni (hK1 (Sq fun K7 hK7 => (Rg (Pu rfl (Pu rfl (Va (dx_fld (o1 := 1) rfl ty_fld_25_1_1 rfl rfl) rfl rfl ?_)))))))
 refine Va (dx_load rfl ty_one_3 rfl (k3.cell (k := 1) rfl)) rfl rfl (Va (dx_eql rfl rfl rfl) rfl rfl (Pu rfl (Pu rfl ?_)))
 refine WL.split 17 rfl (fun g8 => ?_) (fun g8 => ?_)
 ·
  replace g8 := dT g8
  refine Pu rfl (Pu rfl (Of rfl (Of rfl (Of rfl (Pu rfl (Pu rfl (Pu rfl ?_)))))))
  refine Pu rfl (Pu rfl (Va (dx_fld (o1 := 3) rfl ty_fld_25_3_3 rfl rfl) rfl rfl (Va (dx_load rfl ty_one_22 rfl (k3.cell (k := 3) rfl)) rfl rfl (Va (dx_lenFM rfl ty_slice_22 rfl hnt) rfl rfl (Va (dx_eql rfl rfl rfl) rfl rfl (Pu rfl (Pu rfl ?_)))))))
  refine Pu rfl ?_
  refine WL.split 34 rfl (fun g9 => ?_) (fun g9 => ?_)
  ·
   replace g9 := dT g9
   refine Pu rfl (Pu rfl (Va (dx_fld (o1 := 4) rfl ty_fld_25_4_4 rfl rfl) rfl rfl (Va (dx_load rfl ty_one_23 rfl (k3.cell (k := 4) rfl)) rfl rfl (Va (dx_lenFM rfl ty_slice_23 rfl hit) rfl rfl (Va (dx_eql rfl rfl rfl) rfl rfl (Pu rfl (Pu rfl ?_)))))))
   refine Pu rfl (Ni (hK7 ?_))
   exact WC.ret fun a_ ha_ => hQ (cv_ret1 rfl (.tmp rfl) (by (try have q1 := nil_of_z ‹(t.names.length : Int) = 0›); (try have q2 := nil_of_z ‹(t.items.length : Int) = 0›); (try have q3 := ne_of_z ‹¬ (t.names.length : Int) = 0›); (try have q4 := ne_of_z ‹¬ (t.items.length : Int) = 0›); unfold plainT; simp [*]) hB ha_)
  ·
   replace g9 := dF g9
   refine Of rfl (Of rfl (Of rfl (Of rfl (Of rfl (Of rfl (Of rfl (Pu rfl ?_)))))))
   refine Pu rfl (Ni (hK7 ?_))
   exact WC.ret fun a_ ha_ => hQ (cv_ret1 rfl (.tmp rfl) (by (try have q1 := nil_of_z ‹(t.names.length : Int) = 0›); (try have q2 := nil_of_z ‹(t.items.length : Int) = 0›); (try have q3 := ne_of_z ‹¬ (t.names.length : Int) = 0›); (try have q4 := ne_of_z ‹¬ (t.items.length : Int) = 0›); unfold plainT; simp [*]) hB ha_)
 ·
  replace g8 := dF g8
  refine Of rfl (Of rfl (Of rfl (Of rfl (Of rfl (Of rfl (Pu rfl (Pu rfl ?_)))))))
  refine Of rfl (Of rfl (Of rfl (Of rfl (Of rfl (Of rfl (Of rfl (Pu rfl ?_)))))))
  refine Pu rfl (Of rfl (Of rfl (Of rfl (Of rfl (Of rfl (Of rfl (Of rfl ?_)))))))
  refine Pu rfl (Pu rfl (Ni (hK7 ?_)))
  exact WC.ret fun a_ ha_ => hQ (cv_ret1 rfl (.tmp rfl) (by (try have q1 := nil_of_z ‹(t.names.length : Int) = 0›); (try have q2 := nil_of_z ‹(t.items.length : Int) = 0›); (try have q3 := ne_of_z ‹¬ (t.names.length : Int) = 0›); (try have q4 := ne_of_z ‹¬ (t.items.length : Int) = 0›); unfold plainT; simp [*]) hB ha_)

set_option maxHeartbeats 1000000 in
theorem plainFFFT_v (n : Nat) (t : Tr) (w : World) (L : List Nat) (hL : LL L w) (ht : RdT (n + 1) L w t) : CV Tryd.prog 59 [.agg #[.int .i64 t.kind, .int .i64 t.num, .string t.text, t.nv, t.iv], .bool false, .bool false, .bool false, .bool true] w fun v W => v = .bool (plainT false false false true t) := by
 refine cv_enter (N := 43) (f := [(0, .agg #[.int .i64 t.kind, .int .i64 t.num, .string t.text, t.nv, t.iv]), (1, .bool false), (2, .bool false), (3, .bool false), (4, .bool true)]) Tryd.func59 rfl rfl rfl rfl fun Q hQ hE => ?_
 have hB := Below.refl w.heap.size w
 refine Sq fun K1 hK1 => ?_
 obtain ⟨hnt, hit, hct⟩ := ht
 replace hct : RdTs n (L) w t.items := hct
 refine Rg ?_
 refine Ge (dx_box rfl rfl rfl) rfl rfl ?_
 rintro _ W2 ⟨rfl, k3, b4, z5⟩
 have l6 := hB.size
 replace hnt := hnt.more b4 (Nat.le_refl _)
 replace hB := below_then hB b4
 refine Pu rfl (Ni (hK1 (Sq fun K7 hK7 => (Rg (Pu rfl (Pu rfl (Va (dx_fld (o1 := 1) rfl ty_fld_25_1_1 rfl rfl) rfl rfl ?_)))))))
 refine Va (dx_load rfl ty_one_3 rfl (k3.cell (k := 1) rfl)) rfl rfl (Va (dx_eql rfl rfl rfl) rfl rfl (Pu rfl (Pu rfl ?_)))
 refine WL.split 17 rfl (fun g8 => ?_) (fun g8 => ?_)
 ·
  replace g8 := dT g8
  refine Pu rfl (Pu rfl (Va (dx_fld (o1 := 2) rfl ty_fld_25_2_2 rfl rfl) rfl rfl (Va (dx_load rfl ty_one_9 rfl (k3.cell (k := 2) rfl)) rfl rfl (Va (dx_eqlT rfl rfl rfl) rfl rfl (Pu rfl (Pu rfl (Pu rfl ?_)))))))
  refine WL.split 25 rfl (fun g9 => ?_) (fun g9 => ?_)
  ·
   replace g9 := dT g9
   refine Pu rfl (Pu rfl (Va (dx_fld (o1 := 3) rfl ty_fld_25_3_3 rfl rfl) rfl rfl (Va (dx_load rfl ty_one_22 rfl (k3.cell (k := 3) rfl)) rfl rfl (Va (dx_lenFM rfl ty_slice_22 rfl hnt) rfl rfl (Va (dx_eql rfl rfl rfl) rfl rfl (Pu rfl (Pu rfl ?_)))))))
   refine Pu rfl ?_
   refine WL.split 34 rfl (fun g10 => ?_) (fun g10 => ?_)
   ·
    replace g10 := dT g10
    refine Pu rfl (Pu rfl (Of rfl (Of rfl (Of rfl (Of rfl (Pu rfl (Pu rfl ?_)))))))
    refine Pu rfl (Ni (hK7 ?_))
    exact WC.ret fun a_ ha_ => hQ (cv_ret1 rfl (.tmp rfl) (by (try have q1 := nil_of_z ‹(t.names.length : Int) = 0›); (try have q2 := nil_of_z ‹(t.items.length : Int) = 0›); (try have q3 := ne_of_z ‹¬ (t.names.length : Int) = 0›); (try have q4 := ne_of_z ‹¬ (t.items.length : Int) = 0›); unfold plainT; simp [*]) hB ha_)
   ·
    replace g10 := dF g10
    refine Of rfl (Of rfl (Of rfl (Of rfl (Of rfl (Of rfl (Of rfl (Pu rfl ?_)))))))
    refine Pu rfl (Ni (hK7 ?_))
    exact WC.ret fun a_ ha_ => hQ (cv_ret1 rfl (.tmp rfl) (by (try have q1 := nil_of_z ‹(t.names.length : Int) = 0›); (try have q2 := nil_of_z ‹(t.items.length : Int) = 0›); (try have q3 := ne_of_z ‹¬ (t.names.length : Int) = 0›); (try have q4 := ne_of_z ‹¬ (t.items.length : Int) = 0›); unfold plainT; simp [*]) hB ha_)
  ·
   replace g9 := dF g9
   refine Of rfl (Of rfl (Of rfl (Of rfl (Of rfl (Of rfl (Of rfl (Pu rfl ?_)))))))
   refine Pu rfl (Of rfl (Of rfl (Of rfl (Of rfl (Of rfl (Of rfl (Of rfl ?_)))))))
   refine Pu rfl (Pu rfl (Ni (hK7 ?_)))
   exact WC.ret fun a_ ha_ => hQ (cv_ret1 rfl (.tmp rfl) (by (try have q1 := nil_of_z ‹(t.names.length : Int) = 0›); (try have q2 := nil_of_z ‹(t.items.length : Int) = 0›); (try have q3 := ne_of_z ‹¬ (t.names.length : Int) = 0›); (try have q4 := ne_of_z ‹¬ (t.items.length : Int) = 0›); unfold plainT; simp [*]) hB ha_)
 ·
  replace g8 := dF g8
  refine Of rfl (Of rfl (Of rfl (Of rfl (Of rfl (Of rfl (Pu rfl (Pu rfl ?_)))))))
  refine Of rfl (Of rfl (Of rfl (Of rfl (Of rfl (Of rfl (Of rfl (Pu rfl ?_)))))))
  refine Pu rfl (Of rfl (Of rfl (Of rfl (Of rfl (Of rfl (Of rfl (Of rfl ?_)))))))
  refine Pu rfl (Pu rfl (Ni (hK7 ?_)))
  exact WC.ret fun a_ ha_ => hQ (cv_ret1 rfl (.tmp rfl) (by (try have q1 := nil_of_z ‹(t.names.length : Int) = 0›); (try have q2 := nil_of_z ‹(t.items.length : Int) = 0›); (try have q3 := ne_of_z ‹¬ (t.names.length : Int) = 0›); (try have q4 := ne_of_z ‹¬ (t.items.length : Int) = 0›); unfold plainT; simp [*]) hB ha_)

set_option maxHeartbeats 1000000 in
theorem plainFFTT_v (n : Nat) (t : Tr) (w : World) (L : List Nat) (hL : LL L w) (ht : RdT (n + 1) L w t) : CV Tryd.prog 59 [.agg #[.int .i64 t.kind, .int .i64 t.num, .string t.text, t.nv, t.iv], .bool false, .bool false, .bool true, .bool true] w fun v W => v = .bool (plainT false false true true t) := by
 refine cv_enter (N := 43) (f := [(0, .agg #[.int .i64 t.kind, .int .i64 t.num, .string t.text, t.nv, t.iv]), (1, .bool false), (2, .bool false), (3, .bool true), (4, .bool true)]) Tryd.func59 rfl rfl rfl rfl fun Q hQ hE => ?_
 have hB := Below.refl w.heap.size w
 refine Sq fun K1 hK1 => ?_
 obtain ⟨hnt, hit, hct⟩ := ht
 replace hct : RdTs n (L) w t.items := hct
 refine Rg ?_
 refine Ge (dx_box rfl rfl rfl) rfl rfl ?_
 rintro _ W2 ⟨rfl, k3, b4, z5⟩
 have l6 := hB.size
 replace hB := below_then hB b4
 refine Pu rfl (Ni (hK1 (Sq fun K7 hK7 => (Rg (Pu rfl (Pu rfl (Va (dx_fld (o1 := 1) rfl ty_fld_25_1_1 rfl rfl) rfl rfl ?_)))))))
 refine Va (dx_load rfl ty_one_3 rfl (k3.cell (k := 1) rfl)) rfl rfl (Va (dx_eql rfl rfl rfl) rfl rfl (Pu rfl (Pu rfl ?_)))
 refine WL.split 17 rfl (fun g8 => ?_) (fun g8 => ?_)
 ·
  replace g8 := dT g8
  refine Pu rfl (Pu rfl (Va (dx_fld (o1 := 2) rfl ty_fld_25_2_2 rfl rfl) rfl rfl (Va (dx_load rfl ty_one_9 rfl (k3.cell (k := 2) rfl)) rfl rfl (Va (dx_eqlT rfl rfl rfl) rfl rfl (Pu rfl (Pu rfl (Pu rfl ?_)))))))
  refine WL.split 25 rfl (fun g9 => ?_) (fun g9 => ?_)
  ·
   replace g9 := dT g9
   refine Pu rfl (Pu rfl (Of rfl (Of rfl (Of rfl (Of rfl (Pu rfl (Pu rfl ?_)))))))
   refine Pu rfl (Pu rfl (Pu rfl (Of rfl (Of rfl (Of rfl (Of rfl (Pu rfl ?_)))))))
   refine Pu rfl (Pu rfl (Ni (hK7 ?_)))
   exact WC.ret fun a_ ha_ => hQ (cv_ret1 rfl (.tmp rfl) (by (try have q1 := nil_of_z ‹(t.names.length : Int) = 0›); (try have q2 := nil_of_z ‹(t.items.length : Int) = 0›); (try have q3 := ne_of_z ‹¬ (t.names.length : Int) = 0›); (try have q4 := ne_of_z ‹¬ (t.items.length : Int) = 0›); unfold plainT; simp [*]) hB ha_)
  ·
   replace g9 := dF g9
   refine Of rfl (Of rfl (Of rfl (Of rfl (Of rfl (Of rfl (Of rfl (Pu rfl ?_)))))))
   refine Pu rfl (Of rfl (Of rfl (Of rfl (Of rfl (Of rfl (Of rfl (Of rfl ?_)))))))
   refine Pu rfl (Pu rfl (Ni (hK7 ?_)))
   exact WC.ret fun a_ ha_ => hQ (cv_ret1 rfl (.tmp rfl) (by (try have q1 := nil_of_z ‹(t.names.length : Int) = 0›); (try have q2 := nil_of_z ‹(t.items.length : Int) = 0›); (try have q3 := ne_of_z ‹¬ (t.names.length : Int) = 0›); (try have q4 := ne_of_z ‹¬ (t.items.length : Int) = 0›); unfold plainT; simp [*]) hB ha_)
 ·
  replace g8 := dF g8
  refine Of rfl (Of rfl (Of rfl (Of rfl (Of rfl (Of rfl (Pu rfl (Pu rfl ?_)))))))
  refine Of rfl (Of rfl (Of rfl (Of rfl (Of rfl (Of rfl (Of rfl (Pu rfl ?_)))))))
  refine Pu rfl (Of rfl (Of rfl (Of rfl (Of rfl (Of rfl (Of rfl (Of rfl ?_)))))))
  refine Pu rfl (Pu rfl (Ni (hK7 ?_)))
  exact WC.ret fun a_ ha_ => hQ (cv_ret1 rfl (.tmp rfl) (by (try have q1 := nil_of_z ‹(t.names.length : Int) = 0›); (try have q2 := nil_of_z ‹(t.items.length : Int) = 0›); (try have q3 := ne_of_z ‹¬ (t.names.length : Int) = 0›); (try have q4 := ne_of_z ‹¬ (t.items.length : Int) = 0›); unfold plainT; simp [*]) hB ha_)

theorem refDec_v (s : ByteArray) (sv : Value) (w : World) (L : List Nat) (hL : LL L w) (h1 : RdF 1 L w sv ((sb s).map e8)) (hs : s.size ≤ 1000000) : CV Tryd.prog 46 [sv] w fun v _ => ∃ u, v = .tuple #[u, .int .i64 (if upB s = true then 0 else 2)] := by
 refine Calls.mono (ref_decode_any sv (sb s) w (rdI_of h1) (sb_bytes _) (by rw [sb_length]; omega)) fun e w' h => ?_
 obtain ⟨u, c, he, hb, h⟩ := h
 refine ⟨_, he, ⟨u, ?_⟩, hb⟩
 unfold upB
 rcases h with ⟨rs, hd, hc, _⟩ | ⟨hd, hc, _⟩ <;> rw [hd, hc] <;> rfl
set_option maxHeartbeats 1000000 in
theorem refUp_v (s : ByteArray) (sv : Value) (w : World) (L : List Nat) (hL : LL L w) (h1 : RdF 1 L w sv ((sb s).map e8))  (hs : s.size ≤ 1000000) : CV Tryd.prog 29 [sv] w fun v W => v = .bool (upB s) := by
 refine cv_enter (N := 12) (f := [(0, sv)]) Tryd.func29 rfl rfl rfl rfl fun Q hQ hE => ?_
 have hB := Below.refl w.heap.size w
 refine WC.seq fun K1 hK1 => (WC.region (Pu rfl (WL.nil (hK1 (WC.seq fun K2 hK2 => (WC.region (Pu rfl ?_)))))))
 refine WL.get (dx_cv rfl Tryd.func46 rfl rfl rfl (refDec_v s _ w _ hL h1 hs)) rfl rfl ?_
 rintro _ W4 ⟨⟨du, rfl⟩, b3⟩
 replace hB := below_then hB b3
 refine Pu rfl (Pu rfl (Pu rfl (Pu rfl (Pu rfl (WL.nil (hK2 (WC.seq fun K5 hK5 => ?_)))))))
 refine WC.region (Pu rfl (WL.val (dx_eql rfl rfl rfl) rfl rfl (Pu rfl (WL.nil (hK5 ?_)))))
 exact WC.ret fun a_ ha_ => hQ (cv_ret1 rfl (.tmp rfl) (by cases upB s <;> simp) hB ha_)

abbrev RefRightAt (n : Nat) : Prop := ∀ (t : Tr) (room : Nat) (w : World) (L : List Nat), LL L w → RdT n L w t → SzT 1000000 n t → room ≤ 12 → CV Tryd.prog 41 [.agg #[.int .i64 t.kind, .int .i64 t.num, .string t.text, t.nv, t.iv], .int .i64 (12 - (room : Int))] w fun v W => v = .bool (rightJ upB room t.er)
theorem plain_leaf {t : Tr} {a b c d : Bool} (h : plainT a b c d t = true) : (a = false → t.num = 0) ∧ (b = false → t.text = ⟨#[]⟩) ∧ (c = false → t.names = []) ∧ (d = false → t.items = []) := by
 unfold plainT at h
 simp only [Bool.and_eq_true, Bool.or_eq_true, decide_eq_true_eq] at h
 obtain ⟨h1, h2, h3, h4⟩ := h
 refine ⟨fun e => ?_, fun e => ?_, fun e => ?_, fun e => ?_⟩ <;> simp_all
set_option maxHeartbeats 2000000 in
theorem refRight_step (n : Nat) (ih : RefRightAt n) (t : Tr) (room : Nat) (w : World) (L : List Nat) (hL : LL L w) (ht : RdT (n + 1) L w t)  (hz : SzT 1000000 (n + 1) t) (hrm : room ≤ 12) : CV Tryd.prog 41 [.agg #[.int .i64 t.kind, .int .i64 t.num, .string t.text, t.nv, t.iv], .int .i64 (12 - (room : Int))] w fun v W => v = .bool (rightJ upB room t.er) := by
 refine cv_enter (N := 109) (f := [(0, .agg #[.int .i64 t.kind, .int .i64 t.num, .string t.text, t.nv, t.iv]), (1, .int .i64 (12 - (room : Int)))]) Tryd.func41 rfl rfl rfl rfl fun Q hQ hE => ?_
 have hB := Below.refl w.heap.size w
 refine Sq fun K1 hK1 => ?_
 have hzt := hz
 obtain ⟨hz1, hz2, hz3, hz4, hz5⟩ := hz
 obtain ⟨hnt, hit, hct⟩ := ht
 replace hct : RdTs n (L) w t.items := hct
 rcases (show t.kind = 0 ∨ t.kind = 1 ∨ t.kind = 2 ∨ t.kind = 3 ∨ t.kind = 4 ∨ t.kind = 5 ∨ t.kind = 6 ∨ (t.kind ≠ 0 ∧ t.kind ≠ 1 ∧ t.kind ≠ 2 ∧ t.kind ≠ 3 ∧ t.kind ≠ 4 ∧ t.kind ≠ 5 ∧ t.kind ≠ 6) by omega) with hkt | hkt | hkt | hkt | hkt | hkt | hkt | hkt
 ·
  refine Rg ?_
  refine Ge (dx_box rfl rfl rfl) rfl rfl ?_
  rintro _ W2 ⟨rfl, k3, b4, z5⟩
  have l6 := hB.size
  replace hnt := hnt.more b4 (Nat.le_refl _)
  replace hit := hit.more b4 (Nat.le_refl _)
  replace hct := hct.more b4 (Nat.le_refl _)
  replace hB := below_then hB b4
  replace hL := LL.more hL z5
  refine Pu rfl (Ni (hK1 (Sq fun K7 hK7 => (Sq fun K8 hK8 => (Rg (Va (dx_fld (o1 := 0) rfl ty_fld_25_0_0 rfl rfl) rfl rfl (Va ((hkt ▸ dx_load rfl ty_one_3 rfl (k3.cell (k := 0) rfl))) rfl rfl ?_)))))))
  refine Ni (hK8 (WC.block (Sq fun K9 hK9 => (Sq fun K10 hK10 => (Rg (Va (dx_eql rfl rfl rfl) rfl rfl (Pu rfl ?_)))))))
  refine Ni (hK10 (WC.condT rfl (WC.skip (hK9 (WC.condT rfl (Sq fun K11 hK11 => (Rg ?_)))))))
  refine Va (dx_loadN rfl ty_agg_25_5 rfl k3.range rfl) rfl rfl ?_
  refine Ge (dx_cv rfl Tryd.func59 rfl rfl rfl (plainFFFF_v n t W2 _ hL (show RdT (n + 1) (w.heap.size :: L) W2 t from ⟨hnt, hit, hct⟩))) rfl rfl ?_
  rintro _ W13 ⟨rfl, b12⟩
  replace hB := below_then hB b12
  refine Pu rfl (Ni (hK11 ?_))
  exact WC.ret fun a_ ha_ => hQ (cv_ret1 rfl (.tmp rfl) (by rw [right_leaf (by first | (rw [hkt]; decide) | omega) (by first | (rw [hkt]; decide) | omega), leaf_er]; (try unfold plainT at *); by_cases a1 : t.num = 0 <;> by_cases a2 : t.text = ⟨#[]⟩ <;> by_cases a3 : t.names = [] <;> by_cases a4 : t.items = [] <;> simp_all <;> omega) hB ha_)
 ·
  refine Rg ?_
  refine Ge (dx_box rfl rfl rfl) rfl rfl ?_
  rintro _ W14 ⟨rfl, k15, b16, z17⟩
  have l18 := hB.size
  replace hnt := hnt.more b16 (Nat.le_refl _)
  replace hit := hit.more b16 (Nat.le_refl _)
  replace hct := hct.more b16 (Nat.le_refl _)
  replace hB := below_then hB b16
  replace hL := LL.more hL z17
  refine Pu rfl (Ni (hK1 (Sq fun K19 hK19 => (Sq fun K20 hK20 => (Rg (Va (dx_fld (o1 := 0) rfl ty_fld_25_0_0 rfl rfl) rfl rfl (Va ((hkt ▸ dx_load rfl ty_one_3 rfl (k15.cell (k := 0) rfl))) rfl rfl ?_)))))))
  refine Ni (hK20 (WC.block (Sq fun K21 hK21 => (Sq fun K22 hK22 => (Rg (Va (dx_eql rfl rfl rfl) rfl rfl (Pu rfl ?_)))))))
  refine Ni (hK22 (WC.condF rfl (Sq fun K23 hK23 => (Rg (Va (dx_eql rfl rfl rfl) rfl rfl (Pu rfl (Ni ?_)))))))
  refine hK23 (WC.condT rfl (WC.skip (hK21 (WC.condT rfl (Sq fun K24 hK24 => (Rg (Va (dx_loadN rfl ty_agg_25_5 rfl k15.range rfl) rfl rfl ?_)))))))
  refine Ge (dx_cv rfl Tryd.func59 rfl rfl rfl (plainFFFF_v n t W14 _ hL (show RdT (n + 1) (w.heap.size :: L) W14 t from ⟨hnt, hit, hct⟩))) rfl rfl ?_
  rintro _ W26 ⟨rfl, b25⟩
  replace hB := below_then hB b25
  refine Pu rfl (Ni (hK24 ?_))
  exact WC.ret fun a_ ha_ => hQ (cv_ret1 rfl (.tmp rfl) (by rw [right_leaf (by first | (rw [hkt]; decide) | omega) (by first | (rw [hkt]; decide) | omega), leaf_er]; (try unfold plainT at *); by_cases a1 : t.num = 0 <;> by_cases a2 : t.text = ⟨#[]⟩ <;> by_cases a3 : t.names = [] <;> by_cases a4 : t.items = [] <;> simp_all <;> omega) hB ha_)
 ·
  refine Rg ?_
  refine Ge (dx_box rfl rfl rfl) rfl rfl ?_
  rintro _ W27 ⟨rfl, k28, b29, z30⟩
  have l31 := hB.size
  replace hnt := hnt.more b29 (Nat.le_refl _)
  replace hit := hit.more b29 (Nat.le_refl _)
  replace hct := hct.more b29 (Nat.le_refl _)
  replace hB := below_then hB b29
  replace hL := LL.more hL z30
  refine Pu rfl (Ni (hK1 (Sq fun K32 hK32 => (Sq fun K33 hK33 => (Rg (Va (dx_fld (o1 := 0) rfl ty_fld_25_0_0 rfl rfl) rfl rfl (Va ((hkt ▸ dx_load rfl ty_one_3 rfl (k28.cell (k := 0) rfl))) rfl rfl ?_)))))))
  refine Ni (hK33 (WC.block (Sq fun K34 hK34 => (Sq fun K35 hK35 => (Rg (Va (dx_eql rfl rfl rfl) rfl rfl (Pu rfl ?_)))))))
  refine Ni (hK35 (WC.condF rfl (Sq fun K36 hK36 => (Rg (Va (dx_eql rfl rfl rfl) rfl rfl (Pu rfl (Ni ?_)))))))
  refine hK36 (WC.condF rfl (Rg (Va (dx_eql rfl rfl rfl) rfl rfl (Pu rfl (Ni (hK34 (WC.condT rfl ?_)))))))
  refine Sq fun K37 hK37 => (Rg (Va (dx_loadN rfl ty_agg_25_5 rfl k28.range rfl) rfl rfl ?_))
  refine Ge (dx_cv rfl Tryd.func59 rfl rfl rfl (plainFFFF_v n t W27 _ hL (show RdT (n + 1) (w.heap.size :: L) W27 t from ⟨hnt, hit, hct⟩))) rfl rfl ?_
  rintro _ W39 ⟨rfl, b38⟩
  replace hB := below_then hB b38
  refine Pu rfl (Ni (hK37 ?_))
  exact WC.ret fun a_ ha_ => hQ (cv_ret1 rfl (.tmp rfl) (by rw [right_leaf (by first | (rw [hkt]; decide) | omega) (by first | (rw [hkt]; decide) | omega), leaf_er]; (try unfold plainT at *); by_cases a1 : t.num = 0 <;> by_cases a2 : t.text = ⟨#[]⟩ <;> by_cases a3 : t.names = [] <;> by_cases a4 : t.items = [] <;> simp_all <;> omega) hB ha_)
 ·
  refine Rg ?_
  refine Ge (dx_box rfl rfl rfl) rfl rfl ?_
  rintro _ W40 ⟨rfl, k41, b42, z43⟩
  have l44 := hB.size
  replace hnt := hnt.more b42 (Nat.le_refl _)
  replace hit := hit.more b42 (Nat.le_refl _)
  replace hct := hct.more b42 (Nat.le_refl _)
  replace hB := below_then hB b42
  replace hL := LL.more hL z43
  refine Pu rfl (Ni (hK1 (Sq fun K45 hK45 => (Sq fun K46 hK46 => (Rg (Va (dx_fld (o1 := 0) rfl ty_fld_25_0_0 rfl rfl) rfl rfl (Va ((hkt ▸ dx_load rfl ty_one_3 rfl (k41.cell (k := 0) rfl))) rfl rfl ?_)))))))
  refine Ni (hK46 (WC.block (Sq fun K47 hK47 => (Sq fun K48 hK48 => (Rg (Va (dx_eql rfl rfl rfl) rfl rfl (Pu rfl ?_)))))))
  refine Ni (hK48 (WC.condF rfl (Sq fun K49 hK49 => (Rg (Va (dx_eql rfl rfl rfl) rfl rfl (Pu rfl (Ni ?_)))))))
  refine hK49 (WC.condF rfl (Rg (Va (dx_eql rfl rfl rfl) rfl rfl (Pu rfl (Ni (hK47 (WC.condF rfl ?_)))))))
  refine Sq fun K50 hK50 => (Rg (Va (dx_eql rfl rfl rfl) rfl rfl (Pu rfl (Ni (hK50 (WC.condT rfl (Sq fun K51 hK51 => ?_)))))))
  refine Rg (Va (dx_loadN rfl ty_agg_25_5 rfl k41.range rfl) rfl rfl ?_)
  refine Ge (dx_cv rfl Tryd.func59 rfl rfl rfl (plainTFFF_v n t W40 _ hL (show RdT (n + 1) (w.heap.size :: L) W40 t from ⟨hnt, hit, hct⟩))) rfl rfl ?_
  rintro _ W53 ⟨rfl, b52⟩
  replace k41 := k41.below b52
  replace hB := below_then hB b52
  refine Pu rfl ?_
  refine WL.split 19 rfl (fun g54 => ?_) (fun g54 => ?_)
  ·
   refine Va (dx_fld (o1 := 1) rfl ty_fld_25_1_1 rfl rfl) rfl rfl (Va (dx_load rfl ty_one_3 rfl (k41.cell (k := 1) rfl)) rfl rfl (Va (dx_geq rfl rfl rfl) rfl rfl (Pu rfl (Pu rfl ?_))))
   refine WL.split 24 rfl (fun g55 => ?_) (fun g55 => ?_)
   ·
    replace g55 := dT g55
    refine Va (dx_fld (o1 := 1) rfl ty_fld_25_1_1 rfl rfl) rfl rfl (Va (dx_load rfl ty_one_3 rfl (k41.cell (k := 1) rfl)) rfl rfl (Va (dx_leq rfl rfl rfl) rfl rfl (Pu rfl (Pu rfl (Ni (hK51 ?_))))))
    exact WC.ret fun a_ ha_ => hQ (cv_ret1 rfl (.tmp rfl) (by rw [right_leaf (by first | (rw [hkt]; decide) | omega) (by first | (rw [hkt]; decide) | omega), leaf_er]; (try unfold plainT at *); by_cases a1 : t.num = 0 <;> by_cases a2 : t.text = ⟨#[]⟩ <;> by_cases a3 : t.names = [] <;> by_cases a4 : t.items = [] <;> simp_all <;> omega) hB ha_)
   ·
    replace g55 := dF g55
    refine Of rfl (Of rfl (Of rfl (Pu rfl (Pu rfl (Ni (hK51 ?_))))))
    exact WC.ret fun a_ ha_ => hQ (cv_ret1 rfl (.tmp rfl) (by rw [right_leaf (by first | (rw [hkt]; decide) | omega) (by first | (rw [hkt]; decide) | omega), leaf_er]; (try unfold plainT at *); by_cases a1 : t.num = 0 <;> by_cases a2 : t.text = ⟨#[]⟩ <;> by_cases a3 : t.names = [] <;> by_cases a4 : t.items = [] <;> simp_all <;> omega) hB ha_)
  ·
   refine Of rfl (Of rfl (Of rfl (Pu rfl (Pu rfl (Of rfl (Of rfl (Of rfl ?_)))))))
   refine Pu rfl (Pu rfl (Ni (hK51 ?_)))
   exact WC.ret fun a_ ha_ => hQ (cv_ret1 rfl (.tmp rfl) (by rw [right_leaf (by first | (rw [hkt]; decide) | omega) (by first | (rw [hkt]; decide) | omega), leaf_er]; (try unfold plainT at *); by_cases a1 : t.num = 0 <;> by_cases a2 : t.text = ⟨#[]⟩ <;> by_cases a3 : t.names = [] <;> by_cases a4 : t.items = [] <;> simp_all <;> omega) hB ha_)
 ·
  refine Rg ?_
  refine Ge (dx_box rfl rfl rfl) rfl rfl ?_
  rintro _ W56 ⟨rfl, k57, b58, z59⟩
  have l60 := hB.size
  replace hnt := hnt.more b58 (Nat.le_refl _)
  replace hit := hit.more b58 (Nat.le_refl _)
  replace hct := hct.more b58 (Nat.le_refl _)
  replace hB := below_then hB b58
  replace hL := LL.more hL z59
  refine Pu rfl (Ni (hK1 (Sq fun K61 hK61 => (Sq fun K62 hK62 => (Rg (Va (dx_fld (o1 := 0) rfl ty_fld_25_0_0 rfl rfl) rfl rfl (Va ((hkt ▸ dx_load rfl ty_one_3 rfl (k57.cell (k := 0) rfl))) rfl rfl ?_)))))))
  refine Ni (hK62 (WC.block (Sq fun K63 hK63 => (Sq fun K64 hK64 => (Rg (Va (dx_eql rfl rfl rfl) rfl rfl (Pu rfl ?_)))))))
  refine Ni (hK64 (WC.condF rfl (Sq fun K65 hK65 => (Rg (Va (dx_eql rfl rfl rfl) rfl rfl (Pu rfl (Ni ?_)))))))
  refine hK65 (WC.condF rfl (Rg (Va (dx_eql rfl rfl rfl) rfl rfl (Pu rfl (Ni (hK63 (WC.condF rfl ?_)))))))
  refine Sq fun K66 hK66 => (Rg (Va (dx_eql rfl rfl rfl) rfl rfl (Pu rfl (Ni (hK66 (WC.condF rfl (Sq fun K67 hK67 => ?_)))))))
  refine Rg (Va (dx_eql rfl rfl rfl) rfl rfl (Pu rfl (Ni (hK67 (WC.condT rfl (Sq fun K68 hK68 => (Rg ?_)))))))
  refine Va (dx_loadN rfl ty_agg_25_5 rfl k57.range rfl) rfl rfl ?_
  refine Ge (dx_cv rfl Tryd.func59 rfl rfl rfl (plainFTFF_v n t W56 _ hL (show RdT (n + 1) (w.heap.size :: L) W56 t from ⟨hnt, hit, hct⟩))) rfl rfl ?_
  rintro _ W70 ⟨rfl, b69⟩
  replace k57 := k57.below b69
  replace hB := below_then hB b69
  replace hL := LL.below hL b69
  refine Pu rfl ?_
  refine WL.split 33 rfl (fun g71 => ?_) (fun g71 => ?_)
  ·
   refine Va (dx_fld (o1 := 2) rfl ty_fld_25_2_2 rfl rfl) rfl rfl (Va (dx_load rfl ty_one_9 rfl (k57.cell (k := 2) rfl)) rfl rfl ?_)
   refine Ge (dx_sb (L := w.heap.size :: L) rfl Tryd.underlying9 Tryd.underlying42 Tryd.underlying5 rfl hL (by unfold maxLen; omega)) rfl rfl ?_
   rintro u72 W73 ⟨k74, b75⟩
   replace hB := below_then hB b75
   replace hL := LL.below hL b75
   refine Ge (dx_cv rfl Tryd.func29 rfl rfl rfl (refUp_v t.text _ W73 _ hL k74 (by omega))) rfl rfl ?_
   rintro _ W77 ⟨rfl, b76⟩
   replace hB := below_then hB b76
   refine Pu rfl (Pu rfl (Ni (hK68 ?_)))
   exact WC.ret fun a_ ha_ => hQ (cv_ret1 rfl (.tmp rfl) (by rw [right_leaf (by first | (rw [hkt]; decide) | omega) (by first | (rw [hkt]; decide) | omega), leaf_er]; (try unfold plainT at *); by_cases a1 : t.num = 0 <;> by_cases a2 : t.text = ⟨#[]⟩ <;> by_cases a3 : t.names = [] <;> by_cases a4 : t.items = [] <;> simp_all <;> omega) hB ha_)
  ·
   refine Of rfl (Of rfl (Of rfl (Of rfl (Pu rfl (Pu rfl (Ni (hK68 ?_)))))))
   exact WC.ret fun a_ ha_ => hQ (cv_ret1 rfl (.tmp rfl) (by rw [right_leaf (by first | (rw [hkt]; decide) | omega) (by first | (rw [hkt]; decide) | omega), leaf_er]; (try unfold plainT at *); by_cases a1 : t.num = 0 <;> by_cases a2 : t.text = ⟨#[]⟩ <;> by_cases a3 : t.names = [] <;> by_cases a4 : t.items = [] <;> simp_all <;> omega) hB ha_)
 ·
  refine Rg ?_
  refine Ge (dx_box rfl rfl rfl) rfl rfl ?_
  rintro _ W78 ⟨rfl, k79, b80, z81⟩
  have l82 := hB.size
  replace hnt := hnt.more b80 (Nat.le_refl _)
  replace hit := hit.more b80 (Nat.le_refl _)
  replace hct := hct.more b80 (Nat.le_refl _)
  replace hB := below_then hB b80
  replace hL := LL.more hL z81
  refine Pu rfl (Ni (hK1 (Sq fun K83 hK83 => (Sq fun K84 hK84 => (Rg (Va (dx_fld (o1 := 0) rfl ty_fld_25_0_0 rfl rfl) rfl rfl (Va ((hkt ▸ dx_load rfl ty_one_3 rfl (k79.cell (k := 0) rfl))) rfl rfl ?_)))))))
  refine Ni (hK84 (WC.block (Sq fun K85 hK85 => (Sq fun K86 hK86 => (Rg (Va (dx_eql rfl rfl rfl) rfl rfl (Pu rfl ?_)))))))
  refine Ni (hK86 (WC.condF rfl (Sq fun K87 hK87 => (Rg (Va (dx_eql rfl rfl rfl) rfl rfl (Pu rfl (Ni ?_)))))))
  refine hK87 (WC.condF rfl (Rg (Va (dx_eql rfl rfl rfl) rfl rfl (Pu rfl (Ni (hK85 (WC.condF rfl ?_)))))))
  refine Sq fun K88 hK88 => (Rg (Va (dx_eql rfl rfl rfl) rfl rfl (Pu rfl (Ni (hK88 (WC.condF rfl (Sq fun K89 hK89 => ?_)))))))
  refine Rg (Va (dx_eql rfl rfl rfl) rfl rfl (Pu rfl (Ni (hK89 (WC.condF rfl (Sq fun K90 hK90 => (Rg ?_)))))))
  refine Va (dx_eql rfl rfl rfl) rfl rfl (Pu rfl (Ni (hK90 (WC.condT rfl (Sq fun K91 hK91 => (Rg (Va (dx_loadN rfl ty_agg_25_5 rfl k79.range rfl) rfl rfl ?_)))))))
  refine Ge (dx_cv rfl Tryd.func59 rfl rfl rfl (plainFFFT_v n t W78 _ hL (show RdT (n + 1) (w.heap.size :: L) W78 t from ⟨hnt, hit, hct⟩))) rfl rfl ?_
  rintro _ W93 ⟨rfl, b92⟩
  replace hnt := hnt.below b92
  replace hit := hit.below b92
  replace hct := hct.below b92
  replace k79 := k79.below b92
  replace hB := below_then hB b92
  replace hL := LL.below hL b92
  refine Va (dx_not rfl rfl) rfl rfl (Ni (hK91 ?_))
  refine WC.cond rfl (fun c94 => ?_) (fun c94 => ?_)
  ·
   replace c94 := bnot_t c94
   refine Sq fun K95 hK95 => (Rg (Pu rfl (Ni (hK95 ?_))))
   exact WC.ret fun a_ ha_ => hQ (cv_ret1 rfl (.tmp rfl) (by rw [right_node (by first | exact .inl hkt | exact .inr hkt)]; cases room with | zero => rfl | succ m => (have hne : nodeJ upB t.er = false := (by rw [node_er]; first | (have hp : plainT _ _ _ _ t = false := (by assumption); unfold plainT at hp; simp_all; done) | (have hlq : ¬ t.names.length = t.items.length := (by omega); simp [hkt, hlq])); show _ = Value.bool (_ && _); rw [hne, Bool.false_and])) hB ha_)
  ·
   replace c94 := bnot_f c94
   refine WC.skip (hK83 (Sq fun K96 hK96 => (Sq fun K97 hK97 => ?_)))
   cases room with
   | zero =>
    refine Rg (Pu rfl (Va (dv_T (dx_geq rfl rfl rfl) (by omega)) rfl rfl (Ni (hK97 (WC.condT rfl (Sq fun K98 hK98 => (Rg ?_)))))))
    refine Pu rfl (Ni (hK98 ?_))
    exact WC.ret fun a_ ha_ => hQ (cv_ret1 rfl (.tmp rfl) (by rw [right_node (by first | exact .inl hkt | exact .inr hkt)]) hB ha_)
   | succ m =>
    refine Rg (Pu rfl (Va (dv_N (dx_geq rfl rfl rfl) (by omega)) rfl rfl (Ni (hK97 (WC.condF rfl (WC.skip (hK96 ?_)))))))
    refine Sq fun K99 hK99 => (Sq fun K100 hK100 => ?_)
    obtain ⟨w1, w2, w3, w4⟩ := plain_leaf ‹plainT _ _ _ _ t = true›
    have hnode : nodeJ upB t.er = true := by rw [node_er, w1 rfl, w2 rfl, hkt]; rw [w3 rfl]; rfl
    refine Rg (Pu rfl (Ni (hK100 (WC.block ?_))))
    refine WC.loop (fun (i : Nat) => [(1, .int .i64 (12 - ((m + 1 : Nat) : Int))), (2, .pointer (some ⟨w.heap.size, 0, none⟩)), (6, .int .i64 (i : Int))]) (fun (i : Nat) W => i ≤ t.items.length ∧ (∀ k c, k < i → t.items[k]? = some c → rightJ upB m c.er = true) ∧ Below w.heap.size w W ∧ LL (w.heap.size :: L) W ∧ RdF 1 (w.heap.size :: L) W t.nv (t.names.map eS) ∧ RdF 5 (w.heap.size :: L) W t.iv (t.items.map encT) ∧ RdTs n (w.heap.size :: L) W t.items ∧ Blk W w.heap.size [.int .i64 t.kind, .int .i64 t.num, .string t.text, t.nv, t.iv]) (fun (i : Nat) => t.items.length - i) 0 (by repeat first | exact trivial | exact And.intro rfl trivial | refine And.intro rfl ?_ | refine And.intro (congrArg (fun z : Int => some (Value.int .i64 z)) (by omega)) ?_) ⟨Nat.zero_le _, (fun k c hk => by omega), hB, hL, hnt, hit, hct, k79⟩ ?_
    clear hnt hit hct k79 hB hL
    rintro K101 i W102 ⟨hi, hv, hB, hL, hnt, hit, hct, k79⟩ hK101
    refine Sq fun K103 hK103 => (Sq fun K104 hK104 => (Rg (Pu rfl (Va (dx_fld (o1 := 4) rfl ty_fld_25_4_4 rfl rfl) rfl rfl (Va (dx_load rfl ty_one_23 rfl (k79.cell (k := 4) rfl)) rfl rfl (Va (dx_lenFM rfl ty_slice_23 rfl hit) rfl rfl (Va (dx_lss rfl rfl rfl) rfl rfl ?_)))))))
    refine Ni (hK104 ?_)
    refine WC.cond rfl (fun c105 => ?_) (fun c105 => ?_)
    ·
     replace c105 := dT c105
     refine WC.skip (hK103 (Sq fun K106 hK106 => (WC.block (Sq fun K107 hK107 => (Rg (Va (dx_fld (o1 := 4) rfl ty_fld_25_4_4 rfl rfl) rfl rfl (Va (dx_load rfl ty_one_23 rfl (k79.cell (k := 4) rfl)) rfl rfl ?_)))))))
     refine Pu rfl ?_
     obtain ⟨r108, e109⟩ : ∃ x, t.items[i]? = some x := ⟨_, List.getElem?_eq_getElem (by omega)⟩
     refine Ge (dx_idxF i rfl ty_slice_23 rfl rfl hit (by omega) (at_mapX e109)) rfl rfl ?_
     rintro u110 _ ⟨rfl, p111⟩
     refine Va (dx_loadPN rfl ty_agg_25_5 rfl p111 rfl) rfl rfl (Pu rfl (Va (dx_add (r := 12 - (m : Int)) rfl rfl rfl (by rw [wrap64_id (by omega)]; omega)) rfl rfl ?_))
     refine Ge (dx_cv rfl Tryd.func41 rfl rfl rfl (ih r108 m W102 _ hL (hct r108 (List.mem_of_getElem? e109)) (hz5 r108 (List.mem_of_getElem? e109)) (by omega))) rfl rfl ?_
     rintro _ W113 ⟨rfl, b112⟩
     replace hnt := hnt.below b112
     replace hit := hit.below b112
     replace hct := hct.below b112
     replace k79 := k79.below b112
     replace hB := below_then hB b112
     replace hL := LL.below hL b112
     refine Va (dx_not rfl rfl) rfl rfl (Ni (hK107 ?_))
     refine WC.cond rfl (fun c114 => ?_) (fun c114 => ?_)
     ·
      replace c114 := bnot_t c114
      refine Sq fun K115 hK115 => (Rg (Pu rfl (Ni (hK115 ?_))))
      exact WC.ret fun a_ ha_ => hQ (cv_ret1 rfl (.tmp rfl) (by rw [right_node (by first | exact .inl hkt | exact .inr hkt)]; show _ = Value.bool (_ && _); rw [er_items, items_f e109 (by first | assumption | simp_all), Bool.and_false]) hB ha_)
     ·
      replace c114 := bnot_f c114
      refine WC.skip (hK106 (Rg (Pu rfl (Va (dx_add (r := (i : Int) + 1) rfl rfl rfl (wrap64_id (by omega))) rfl rfl (Pu rfl (Ni ?_))))))
      exact hK101 (i + 1) ⟨(by omega), (fun k c hk hc_ => by rcases Nat.lt_or_ge k i with hl | hl; exact hv k c hl hc_; obtain rfl : k = i := (by omega); rw [e109] at hc_; cases hc_; first | assumption | simp_all), hB, hL, hnt, hit, hct, k79⟩ (by omega) (by repeat first | exact trivial | exact And.intro rfl trivial | refine And.intro rfl ?_ | refine And.intro (congrArg (fun z : Int => some (Value.int .i64 z)) (by omega)) ?_)
    ·
     replace c105 := dF c105
     refine WC.exit ?_
     refine hK99 (Sq fun K116 hK116 => (Rg (Pu rfl (Ni (hK116 ?_)))))
     exact WC.ret fun a_ ha_ => hQ (cv_ret1 rfl (.tmp rfl) (by rw [right_node (by first | exact .inl hkt | exact .inr hkt)]; show _ = Value.bool (_ && _); rw [hnode, er_items, items_t (fun k c hk hc_ => hv k c (by omega) hc_)]; rfl) hB ha_)
 ·
  refine Rg ?_
  refine Ge (dx_box rfl rfl rfl) rfl rfl ?_
  rintro _ W117 ⟨rfl, k118, b119, z120⟩
  have l121 := hB.size
  replace hnt := hnt.more b119 (Nat.le_refl _)
  replace hit := hit.more b119 (Nat.le_refl _)
  replace hct := hct.more b119 (Nat.le_refl _)
  replace hB := below_then hB b119
  replace hL := LL.more hL z120
  refine Pu rfl (Ni (hK1 (Sq fun K122 hK122 => (Sq fun K123 hK123 => (Rg (Va (dx_fld (o1 := 0) rfl ty_fld_25_0_0 rfl rfl) rfl rfl (Va ((hkt ▸ dx_load rfl ty_one_3 rfl (k118.cell (k := 0) rfl))) rfl rfl ?_)))))))
  refine Ni (hK123 (WC.block (Sq fun K124 hK124 => (Sq fun K125 hK125 => (Rg (Va (dx_eql rfl rfl rfl) rfl rfl (Pu rfl ?_)))))))
  refine Ni (hK125 (WC.condF rfl (Sq fun K126 hK126 => (Rg (Va (dx_eql rfl rfl rfl) rfl rfl (Pu rfl (Ni ?_)))))))
  refine hK126 (WC.condF rfl (Rg (Va (dx_eql rfl rfl rfl) rfl rfl (Pu rfl (Ni (hK124 (WC.condF rfl ?_)))))))
  refine Sq fun K127 hK127 => (Rg (Va (dx_eql rfl rfl rfl) rfl rfl (Pu rfl (Ni (hK127 (WC.condF rfl (Sq fun K128 hK128 => ?_)))))))
  refine Rg (Va (dx_eql rfl rfl rfl) rfl rfl (Pu rfl (Ni (hK128 (WC.condF rfl (Sq fun K129 hK129 => (Rg ?_)))))))
  refine Va (dx_eql rfl rfl rfl) rfl rfl (Pu rfl (Ni (hK129 (WC.condF rfl (Sq fun K130 hK130 => (Rg (Va (dx_eql rfl rfl rfl) rfl rfl ?_)))))))
  refine Pu rfl (Ni (hK130 (WC.condT rfl (Sq fun K131 hK131 => (Sq fun K132 hK132 => (Rg (Va (dx_loadN rfl ty_agg_25_5 rfl k118.range rfl) rfl rfl ?_)))))))
  refine Ge (dx_cv rfl Tryd.func59 rfl rfl rfl (plainFFTT_v n t W117 _ hL (show RdT (n + 1) (w.heap.size :: L) W117 t from ⟨hnt, hit, hct⟩))) rfl rfl ?_
  rintro _ W134 ⟨rfl, b133⟩
  replace hnt := hnt.below b133
  replace hit := hit.below b133
  replace hct := hct.below b133
  replace k118 := k118.below b133
  replace hB := below_then hB b133
  replace hL := LL.below hL b133
  refine Va (dx_not rfl rfl) rfl rfl (Pu rfl ?_)
  refine WL.split 49 rfl (fun g135 => ?_) (fun g135 => ?_)
  ·
   replace g135 := bnot_t g135
   refine Of rfl (Of rfl (Of rfl (Of rfl (Of rfl (Of rfl (Of rfl (Pu rfl ?_)))))))
   refine Ni (hK132 (WC.condT rfl (Sq fun K136 hK136 => (Rg (Pu rfl (Ni (hK136 ?_)))))))
   exact WC.ret fun a_ ha_ => hQ (cv_ret1 rfl (.tmp rfl) (by rw [right_node (by first | exact .inl hkt | exact .inr hkt)]; cases room with | zero => rfl | succ m => (have hne : nodeJ upB t.er = false := (by rw [node_er]; first | (have hp : plainT _ _ _ _ t = false := (by assumption); unfold plainT at hp; simp_all; done) | (have hlq : ¬ t.names.length = t.items.length := (by omega); simp [hkt, hlq])); show _ = Value.bool (_ && _); rw [hne, Bool.false_and])) hB ha_)
  ·
   replace g135 := bnot_f g135
   refine Va (dx_fld (o1 := 3) rfl ty_fld_25_3_3 rfl rfl) rfl rfl (Va (dx_load rfl ty_one_22 rfl (k118.cell (k := 3) rfl)) rfl rfl (Va (dx_lenFM rfl ty_slice_22 rfl hnt) rfl rfl (Va (dx_fld (o1 := 4) rfl ty_fld_25_4_4 rfl rfl) rfl rfl (Va (dx_load rfl ty_one_23 rfl (k118.cell (k := 4) rfl)) rfl rfl (Va (dx_lenFM rfl ty_slice_23 rfl hit) rfl rfl (Va (dx_neq rfl rfl rfl) rfl rfl (Pu rfl ?_)))))))
   refine Ni (hK132 ?_)
   refine WC.cond rfl (fun c137 => ?_) (fun c137 => ?_)
   ·
    replace c137 := bnot_t c137
    replace c137 := dF c137
    refine Sq fun K138 hK138 => (Rg (Pu rfl (Ni (hK138 ?_))))
    exact WC.ret fun a_ ha_ => hQ (cv_ret1 rfl (.tmp rfl) (by rw [right_node (by first | exact .inl hkt | exact .inr hkt)]; cases room with | zero => rfl | succ m => (have hne : nodeJ upB t.er = false := (by rw [node_er]; first | (have hp : plainT _ _ _ _ t = false := (by assumption); unfold plainT at hp; simp_all; done) | (have hlq : ¬ t.names.length = t.items.length := (by omega); simp [hkt, hlq])); show _ = Value.bool (_ && _); rw [hne, Bool.false_and])) hB ha_)
   ·
    replace c137 := bnot_f c137
    replace c137 := dT c137
    refine WC.skip (hK131 (Sq fun K139 hK139 => (Rg (Pu rfl (Ni (hK139 (WC.block ?_)))))))
    refine WC.loop (fun (i : Nat) => [(1, .int .i64 (12 - (room : Int))), (2, .pointer (some ⟨w.heap.size, 0, none⟩)), (5, .int .i64 (i : Int))]) (fun (i : Nat) W => i ≤ t.names.length ∧ (∀ k a, k < i → t.names[k]? = some a → upB a = true) ∧ (∀ k a b, k + 1 < i → t.names[k]? = some a → t.names[k + 1]? = some b → sless a b = true) ∧ Below w.heap.size w W ∧ LL (w.heap.size :: L) W ∧ RdF 1 (w.heap.size :: L) W t.nv (t.names.map eS) ∧ RdF 5 (w.heap.size :: L) W t.iv (t.items.map encT) ∧ RdTs n (w.heap.size :: L) W t.items ∧ Blk W w.heap.size [.int .i64 t.kind, .int .i64 t.num, .string t.text, t.nv, t.iv]) (fun (i : Nat) => t.names.length - i) 0 (by repeat first | exact trivial | exact And.intro rfl trivial | refine And.intro rfl ?_ | refine And.intro (congrArg (fun z : Int => some (Value.int .i64 z)) (by omega)) ?_) ⟨Nat.zero_le _, (fun k a hk => by omega), (fun k a b hk => by omega), hB, hL, hnt, hit, hct, k118⟩ ?_
    clear hnt hit hct k118 hB hL
    rintro K140 i W141 ⟨hi, hv, hs, hB, hL, hnt, hit, hct, k118⟩ hK140
    refine Sq fun K142 hK142 => (Sq fun K143 hK143 => (Rg (Pu rfl (Va (dx_fld (o1 := 3) rfl ty_fld_25_3_3 rfl rfl) rfl rfl (Va (dx_load rfl ty_one_22 rfl (k118.cell (k := 3) rfl)) rfl rfl (Va (dx_lenFM rfl ty_slice_22 rfl hnt) rfl rfl (Va (dx_lss rfl rfl rfl) rfl rfl ?_)))))))
    refine Ni (hK143 ?_)
    refine WC.cond rfl (fun c144 => ?_) (fun c144 => ?_)
    ·
     replace c144 := dT c144
     refine WC.skip (hK142 (Sq fun K145 hK145 => (WC.block (Sq fun K146 hK146 => ?_))))
     obtain ⟨r147, e148⟩ : ∃ x, t.names[i]? = some x := ⟨_, List.getElem?_eq_getElem (by omega)⟩
     have hsz := hz4 r147 (List.mem_of_getElem? e148)
     obtain ⟨b149, hb149⟩ : ∃ b, b = (!(upB r147)) := ⟨_, rfl⟩
     obtain ⟨b150, hb150⟩ : ∃ b, b = ((!b149) && (decide (0 < (i : Int)))) := ⟨_, rfl⟩
     obtain ⟨r151, e152⟩ : ∃ x, t.names[(i - 1)]? = some x := ⟨_, List.getElem?_eq_getElem (by omega)⟩
     refine WC.drawM 26 [(some 65, .is (.pointer (some ⟨w.heap.size, 3, none⟩))), (some 66, .is (t.nv)), (some 67, .is (.int .i64 (i : Int))), (some 68, .by fun u W => PtR (w.heap.size :: L) W u [.string r147]), (some 69, .is (.string r147)), (some 70, .by fun u W => RdF 1 (w.heap.size :: L) W u ((sb r147).map e8)), (some 71, .is (.bool (upB r147))), (some 72, .is (.bool (!(upB r147)))), (some 73, .is (.bool b149)), (some 74, .is (bif b149 then undef else .int .i64 (i : Int))), (some 75, .is (bif b149 then undef else .bool (decide (0 < (i : Int))))), (some 76, .is (bif b149 then undef else .bool b150)), (some 77, .is (bif b150 then .pointer (some ⟨w.heap.size, 3, none⟩) else undef)), (some 78, .is (bif b150 then t.nv else undef)), (some 79, .is (bif b150 then .int .i64 (i : Int) else undef)), (some 80, .is (bif b150 then .int .i64 ((i : Int) - 1) else undef)), (some 81, .by fun u W => b150 = true → PtR (w.heap.size :: L) W u [.string r151]), (some 82, .is (bif b150 then .string r151 else undef)), (some 83, .is (bif b150 then .pointer (some ⟨w.heap.size, 3, none⟩) else undef)), (some 84, .is (bif b150 then t.nv else undef)), (some 85, .is (bif b150 then .int .i64 (i : Int) else undef)), (some 86, .by fun u W => b150 = true → PtR (w.heap.size :: L) W u [.string r147]), (some 87, .is (bif b150 then .string r147 else undef)), (some 88, .is (bif b150 then .bool (!(sless r151 r147)) else undef)), (some 89, .is (bif b149 then undef else .bool (b150 && (!(sless r151 r147))))), (some 90, .is (.bool (b149 || (b150 && (!(sless r151 r147))))))] [[], [0], [], [1, 2], [3], [4], [5], [6], [7, 6], [8], [9, 8], [10, 8, 8], [11], [12, 11], [11], [14, 11], [13, 15, 11], [16, 11], [11], [18, 11], [11], [19, 20, 11], [21, 11], [17, 22, 11], [11, 23, 8], [8, 24]] (by kernel_rfl) (by kernel_rfl) (by kernel_rfl) (by kernel_rfl) (by kernel_rfl) (by kernel_rfl) (by kernel_rfl) ⟨fun _ _ _ hb h => h.below hb, fun _ _ _ hb h => h.below hb, fun _ _ _ hb h g => (h g).below hb, fun _ _ _ hb h g => (h g).below hb, trivial⟩ ?_ ?_
     ·
      refine Dc (fun Wd hd => ?_) ?_
      ·
       exact Dd (dx_fld (o1 := 3) rfl ty_fld_25_3_3 rfl rfl) rfl
      refine Dc (fun Wd hd => ?_) ?_
      ·
       have k118 := k118.below hd
       exact Dd (dx_load rfl ty_one_22 rfl (k118.cell (k := 3) rfl)) rfl
      refine Dc (fun Wd hd => ?_) ?_
      ·
       exact Dd (dx_move rfl rfl) rfl
      refine Dc (fun Wd hd => ?_) ?_
      ·
       have hnt := hnt.below hd
       exact (dx_idxF i rfl ty_slice_22 rfl rfl hnt (by omega) (at_mapX e148)).mono (fun v W' h => ⟨by rw [← h.1]; exact Below.refl _ _, by rw [← h.1]; exact h.2⟩)
      refine Dc (fun Wd hd => ?_) ?_
      ·
       intro u20_3 p20_3
       exact Dd (dx_loadP rfl ty_one_9 rfl p20_3) rfl
      refine Dc (fun Wd hd => ?_) ?_
      ·
       exact (dx_sb (L := w.heap.size :: L) rfl Tryd.underlying9 Tryd.underlying42 Tryd.underlying5 rfl (LL.below hL hd) (by unfold maxLen; omega)).mono (fun v W' h => ⟨h.2, h.1⟩)
      refine Dc (fun Wd hd => ?_) ?_
      ·
       intro u20_5 p20_5
       exact DR.mono (dx_cv rfl Tryd.func29 rfl rfl rfl (refUp_v r147 _ Wd _ (LL.below hL hd) p20_5 (by omega))) (fun v W' ⟨h, hb⟩ => ⟨hb, (by rw [h]; exact rfl)⟩)
      refine Dc (fun Wd hd => ?_) ?_
      ·
       exact Dd (dx_not rfl rfl) rfl
      refine Dc (fun Wd hd => ?_) ?_
      ·
       exact DV.dr (dx_move rfl rfl) ⟨Below.refl _ _, by rw [hb149]; rfl⟩
      refine Dc (fun Wd hd => ?_) ?_
      ·
       cases b149
       ·
        exact Dd (dx_move rfl rfl) rfl
       ·
        exact Dd (dv_off rfl) rfl
      refine Dc (fun Wd hd => ?_) ?_
      ·
       cases b149
       ·
        exact Dd (dx_gtr rfl rfl rfl) rfl
       ·
        exact Dd (dv_off rfl) rfl
      refine Dc (fun Wd hd => ?_) ?_
      ·
       cases b149
       ·
        exact DV.dr (dx_move rfl rfl) ⟨Below.refl _ _, by rw [hb150]; rfl⟩
       ·
        exact DV.dr (dv_off rfl) ⟨Below.refl _ _, by rw [hb150]; rfl⟩
      refine Dc (fun Wd hd => ?_) ?_
      ·
       cases b149
       ·
        cases b150
        ·
         exact Dd (dv_off rfl) rfl
        ·
         exact Dd (dx_fld (o1 := 3) rfl ty_fld_25_3_3 rfl rfl) rfl
       ·
        cases b150
        ·
         exact Dd (dv_off rfl) rfl
        ·
         exact absurd hb150 (by simp)
      refine Dc (fun Wd hd => ?_) ?_
      ·
       cases b149
       ·
        cases b150
        ·
         exact Dd (dv_off rfl) rfl
        ·
         have k118 := k118.below hd
         exact Dd (dx_load rfl ty_one_22 rfl (k118.cell (k := 3) rfl)) rfl
       ·
        cases b150
        ·
         exact Dd (dv_off rfl) rfl
        ·
         exact absurd hb150 (by simp)
      refine Dc (fun Wd hd => ?_) ?_
      ·
       cases b149
       ·
        cases b150
        ·
         exact Dd (dv_off rfl) rfl
        ·
         exact Dd (dx_move rfl rfl) rfl
       ·
        cases b150
        ·
         exact Dd (dv_off rfl) rfl
        ·
         exact absurd hb150 (by simp)
      refine Dc (fun Wd hd => ?_) ?_
      ·
       cases b149
       ·
        cases b150
        ·
         exact Dd (dv_off rfl) rfl
        ·
         exact Dd (dx_sub (r := (i : Int) - 1) rfl rfl rfl (wrap64_id (by omega))) rfl
       ·
        cases b150
        ·
         exact Dd (dv_off rfl) rfl
        ·
         exact absurd hb150 (by simp)
      refine Dc (fun Wd hd => ?_) ?_
      ·
       cases b149
       ·
        cases b150
        ·
         exact DV.dr (dv_off rfl) ⟨Below.refl _ _, fun h => by cases h⟩
        ·
         have hnt := hnt.below hd
         exact (dx_idxF (i - 1) rfl ty_slice_22 rfl rfl hnt (by first | omega | (have hq_ := of_decide_eq_true hb150.symm; omega)) (at_mapX e152)).mono (fun v W' h => ⟨by rw [← h.1]; exact Below.refl _ _, fun _ => by rw [← h.1]; exact h.2⟩)
       ·
        cases b150
        ·
         exact DV.dr (dv_off rfl) ⟨Below.refl _ _, fun h => by cases h⟩
        ·
         exact absurd hb150 (by simp)
      refine Dc (fun Wd hd => ?_) ?_
      ·
       intro u20_16 p20_16
       cases b149
       ·
        cases b150
        ·
         exact Dd (dv_off rfl) rfl
        ·
         replace p20_16 := p20_16 rfl
         exact Dd (dx_loadP rfl ty_one_9 rfl p20_16) rfl
       ·
        cases b150
        ·
         exact Dd (dv_off rfl) rfl
        ·
         replace p20_16 := p20_16 rfl
         exact absurd hb150 (by simp)
      refine Dc (fun Wd hd => ?_) ?_
      ·
       cases b149
       ·
        cases b150
        ·
         exact Dd (dv_off rfl) rfl
        ·
         exact Dd (dx_fld (o1 := 3) rfl ty_fld_25_3_3 rfl rfl) rfl
       ·
        cases b150
        ·
         exact Dd (dv_off rfl) rfl
        ·
         exact absurd hb150 (by simp)
      refine Dc (fun Wd hd => ?_) ?_
      ·
       cases b149
       ·
        cases b150
        ·
         exact Dd (dv_off rfl) rfl
        ·
         have k118 := k118.below hd
         exact Dd (dx_load rfl ty_one_22 rfl (k118.cell (k := 3) rfl)) rfl
       ·
        cases b150
        ·
         exact Dd (dv_off rfl) rfl
        ·
         exact absurd hb150 (by simp)
      refine Dc (fun Wd hd => ?_) ?_
      ·
       cases b149
       ·
        cases b150
        ·
         exact Dd (dv_off rfl) rfl
        ·
         exact Dd (dx_move rfl rfl) rfl
       ·
        cases b150
        ·
         exact Dd (dv_off rfl) rfl
        ·
         exact absurd hb150 (by simp)
      refine Dc (fun Wd hd => ?_) ?_
      ·
       cases b149
       ·
        cases b150
        ·
         exact DV.dr (dv_off rfl) ⟨Below.refl _ _, fun h => by cases h⟩
        ·
         have hnt := hnt.below hd
         exact (dx_idxF i rfl ty_slice_22 rfl rfl hnt (by first | omega | (have hq_ := of_decide_eq_true hb150.symm; omega)) (at_mapX e148)).mono (fun v W' h => ⟨by rw [← h.1]; exact Below.refl _ _, fun _ => by rw [← h.1]; exact h.2⟩)
       ·
        cases b150
        ·
         exact DV.dr (dv_off rfl) ⟨Below.refl _ _, fun h => by cases h⟩
        ·
         exact absurd hb150 (by simp)
      refine Dc (fun Wd hd => ?_) ?_
      ·
       intro u20_21 p20_21
       cases b149
       ·
        cases b150
        ·
         exact Dd (dv_off rfl) rfl
        ·
         replace p20_21 := p20_21 rfl
         exact Dd (dx_loadP rfl ty_one_9 rfl p20_21) rfl
       ·
        cases b150
        ·
         exact Dd (dv_off rfl) rfl
        ·
         replace p20_21 := p20_21 rfl
         exact absurd hb150 (by simp)
      refine Dc (fun Wd hd => ?_) ?_
      ·
       cases b149
       ·
        cases b150
        ·
         exact Dd (dv_off rfl) rfl
        ·
         exact Dd (dx_geqT rfl rfl rfl) rfl
       ·
        cases b150
        ·
         exact Dd (dv_off rfl) rfl
        ·
         exact absurd hb150 (by simp)
      refine Dc (fun Wd hd => ?_) ?_
      ·
       cases b149
       ·
        cases b150
        ·
         exact Dd (dx_pick rfl rfl rfl) rfl
        ·
         exact Dd (dx_pick rfl rfl rfl) rfl
       ·
        cases b150
        ·
         exact Dd (dv_off rfl) rfl
        ·
         exact absurd hb150 (by simp)
      refine Dc (fun Wd hd => ?_) ?_
      ·
       cases b149
       ·
        exact Dd (dx_pick rfl rfl rfl) rfl
       ·
        exact Dd (dx_pick rfl rfl rfl) rfl
      exact trivial
     ·
      intro W153 b154
      intro u20_3 p20_3
      intro u20_5 p20_5
      intro _ _
      intro _ _
      replace hnt := hnt.below b154
      replace hit := hit.below b154
      replace hct := hct.below b154
      replace k118 := k118.below b154
      replace hB := below_then hB b154
      replace hL := LL.below hL b154
      refine Ni (hK146 ?_)
      refine WC.cond rfl (fun c155 => ?_) (fun c155 => ?_)
      ·
       refine Sq fun K156 hK156 => (Rg (Pu rfl (Ni (hK156 ?_))))
       exact WC.ret fun a_ ha_ => hQ (cv_ret1 rfl (.tmp rfl) (by rw [right_node (by first | exact .inl hkt | exact .inr hkt)]; cases room with | zero => rfl | succ m => (show _ = Value.bool (_ && _); rw [node_er, show (risesJ t.names && t.names.all upB) = false from (by cases hu_ : upB r147 <;> first | exact names_f1 e148 hu_ | (have hi0 : 0 < i := (by rcases Nat.eq_zero_or_pos i with h0_ | h0_; exfalso; simp_all; exact h0_); exact names_f2 hi0 e152 e148 (by cases hs_ : sless r151 r147; rfl; exfalso; simp_all)))]; simp [hkt])) hB ha_)
      ·
       obtain ⟨g157, g158⟩ := bor_f c155
       replace g157 := bvar_f g157
       refine WC.skip (hK145 (Rg (Pu rfl (Va (dx_add (r := (i : Int) + 1) rfl rfl rfl (wrap64_id (by omega))) rfl rfl (Pu rfl (Ni ?_))))))
       exact hK140 (i + 1) ⟨(by omega), (fun k a hk ha => by rcases Nat.lt_or_ge k i with hl | hl; exact hv k a hl ha; obtain rfl : k = i := (by omega); rw [e148] at ha; cases ha; first | assumption | simp_all), (fun k a b hk ha hb => by rcases Nat.lt_or_ge (k + 1) i with hl | hl; exact hs k a b hl ha hb; obtain rfl : k = i - 1 := (by omega); rw [e152] at ha; rw [show i - 1 + 1 = i by omega, e148] at hb; cases ha; cases hb; cases hs_ : sless r151 r147 with | true => rfl | false => exfalso; have hi0 : (0 : Int) < (i : Int) := (by omega); simp_all), hB, hL, hnt, hit, hct, k118⟩ (by omega) (by repeat first | exact trivial | exact And.intro rfl trivial | refine And.intro rfl ?_ | refine And.intro (congrArg (fun z : Int => some (Value.int .i64 z)) (by omega)) ?_)
    ·
     replace c144 := dF c144
     refine WC.exit ?_
     refine hK122 (Sq fun K159 hK159 => (Sq fun K160 hK160 => ?_))
     cases room with
     | zero =>
      refine Rg (Pu rfl (Va (dv_T (dx_geq rfl rfl rfl) (by omega)) rfl rfl (Ni (hK160 (WC.condT rfl (Sq fun K161 hK161 => (Rg ?_)))))))
      refine Pu rfl (Ni (hK161 ?_))
      exact WC.ret fun a_ ha_ => hQ (cv_ret1 rfl (.tmp rfl) (by rw [right_node (by first | exact .inl hkt | exact .inr hkt)]) hB ha_)
     | succ m =>
      refine Rg (Pu rfl (Va (dv_N (dx_geq rfl rfl rfl) (by omega)) rfl rfl (Ni (hK160 (WC.condF rfl (WC.skip (hK159 ?_)))))))
      refine Sq fun K162 hK162 => (Sq fun K163 hK163 => ?_)
      obtain ⟨w1, w2, w3, w4⟩ := plain_leaf ‹plainT _ _ _ _ t = true›
      have hnm := names_t (up := upB) (l := t.names) (fun k a hk ha => hv k a (by omega) ha) (fun k a b hk ha hb => hs k a b (by omega) ha hb)
      have hln : t.names.length = t.items.length := by omega
      have hnode : nodeJ upB t.er = true := by rw [node_er, w1 rfl, w2 rfl, hkt]; rw [hnm, decide_eq_true hln]; rfl
      refine Rg (Pu rfl (Ni (hK163 (WC.block ?_))))
      refine WC.loop (fun (i : Nat) => [(1, .int .i64 (12 - ((m + 1 : Nat) : Int))), (2, .pointer (some ⟨w.heap.size, 0, none⟩)), (6, .int .i64 (i : Int))]) (fun (i : Nat) W => i ≤ t.items.length ∧ (∀ k c, k < i → t.items[k]? = some c → rightJ upB m c.er = true) ∧ Below w.heap.size w W ∧ LL (w.heap.size :: L) W ∧ RdF 1 (w.heap.size :: L) W t.nv (t.names.map eS) ∧ RdF 5 (w.heap.size :: L) W t.iv (t.items.map encT) ∧ RdTs n (w.heap.size :: L) W t.items ∧ Blk W w.heap.size [.int .i64 t.kind, .int .i64 t.num, .string t.text, t.nv, t.iv]) (fun (i : Nat) => t.items.length - i) 0 (by repeat first | exact trivial | exact And.intro rfl trivial | refine And.intro rfl ?_ | refine And.intro (congrArg (fun z : Int => some (Value.int .i64 z)) (by omega)) ?_) ⟨Nat.zero_le _, (fun k c hk => by omega), hB, hL, hnt, hit, hct, k118⟩ ?_
      clear hnt hit hct k118 hB hL
      rintro K164 i W165 ⟨hi, hv, hB, hL, hnt, hit, hct, k118⟩ hK164
      refine Sq fun K166 hK166 => (Sq fun K167 hK167 => (Rg (Pu rfl (Va (dx_fld (o1 := 4) rfl ty_fld_25_4_4 rfl rfl) rfl rfl (Va (dx_load rfl ty_one_23 rfl (k118.cell (k := 4) rfl)) rfl rfl (Va (dx_lenFM rfl ty_slice_23 rfl hit) rfl rfl (Va (dx_lss rfl rfl rfl) rfl rfl ?_)))))))
      refine Ni (hK167 ?_)
      refine WC.cond rfl (fun c168 => ?_) (fun c168 => ?_)
      ·
       replace c168 := dT c168
       refine WC.skip (hK166 (Sq fun K169 hK169 => (WC.block (Sq fun K170 hK170 => (Rg (Va (dx_fld (o1 := 4) rfl ty_fld_25_4_4 rfl rfl) rfl rfl (Va (dx_load rfl ty_one_23 rfl (k118.cell (k := 4) rfl)) rfl rfl ?_)))))))
       refine Pu rfl ?_
       obtain ⟨r171, e172⟩ : ∃ x, t.items[i]? = some x := ⟨_, List.getElem?_eq_getElem (by omega)⟩
       refine Ge (dx_idxF i rfl ty_slice_23 rfl rfl hit (by omega) (at_mapX e172)) rfl rfl ?_
       rintro u173 _ ⟨rfl, p174⟩
       refine Va (dx_loadPN rfl ty_agg_25_5 rfl p174 rfl) rfl rfl (Pu rfl (Va (dx_add (r := 12 - (m : Int)) rfl rfl rfl (by rw [wrap64_id (by omega)]; omega)) rfl rfl ?_))
       refine Ge (dx_cv rfl Tryd.func41 rfl rfl rfl (ih r171 m W165 _ hL (hct r171 (List.mem_of_getElem? e172)) (hz5 r171 (List.mem_of_getElem? e172)) (by omega))) rfl rfl ?_
       rintro _ W176 ⟨rfl, b175⟩
       replace hnt := hnt.below b175
       replace hit := hit.below b175
       replace hct := hct.below b175
       replace k118 := k118.below b175
       replace hB := below_then hB b175
       replace hL := LL.below hL b175
       refine Va (dx_not rfl rfl) rfl rfl (Ni (hK170 ?_))
       refine WC.cond rfl (fun c177 => ?_) (fun c177 => ?_)
       ·
        replace c177 := bnot_t c177
        refine Sq fun K178 hK178 => (Rg (Pu rfl (Ni (hK178 ?_))))
        exact WC.ret fun a_ ha_ => hQ (cv_ret1 rfl (.tmp rfl) (by rw [right_node (by first | exact .inl hkt | exact .inr hkt)]; show _ = Value.bool (_ && _); rw [er_items, items_f e172 (by first | assumption | simp_all), Bool.and_false]) hB ha_)
       ·
        replace c177 := bnot_f c177
        refine WC.skip (hK169 (Rg (Pu rfl (Va (dx_add (r := (i : Int) + 1) rfl rfl rfl (wrap64_id (by omega))) rfl rfl (Pu rfl (Ni ?_))))))
        exact hK164 (i + 1) ⟨(by omega), (fun k c hk hc_ => by rcases Nat.lt_or_ge k i with hl | hl; exact hv k c hl hc_; obtain rfl : k = i := (by omega); rw [e172] at hc_; cases hc_; first | assumption | simp_all), hB, hL, hnt, hit, hct, k118⟩ (by omega) (by repeat first | exact trivial | exact And.intro rfl trivial | refine And.intro rfl ?_ | refine And.intro (congrArg (fun z : Int => some (Value.int .i64 z)) (by omega)) ?_)
      ·
       replace c168 := dF c168
       refine WC.exit ?_
       refine hK162 (Sq fun K179 hK179 => (Rg (Pu rfl (Ni (hK179 ?_)))))
       exact WC.ret fun a_ ha_ => hQ (cv_ret1 rfl (.tmp rfl) (by rw [right_node (by first | exact .inl hkt | exact .inr hkt)]; show _ = Value.bool (_ && _); rw [hnode, er_items, items_t (fun k c hk hc_ => hv k c (by omega) hc_)]; rfl) hB ha_)
 ·
  refine Rg ?_
  refine Ge (dx_box rfl rfl rfl) rfl rfl ?_
  rintro _ W180 ⟨rfl, k181, b182, z183⟩
  have l184 := hB.size
  replace hB := below_then hB b182
  refine Pu rfl (Ni (hK1 (Sq fun K185 hK185 => (Sq fun K186 hK186 => (Rg (Va (dx_fld (o1 := 0) rfl ty_fld_25_0_0 rfl rfl) rfl rfl (Va (dx_load rfl ty_one_3 rfl (k181.cell (k := 0) rfl)) rfl rfl ?_)))))))
  refine Ni (hK186 (WC.block (Sq fun K187 hK187 => (Sq fun K188 hK188 => (Rg (Va (dv_N (dx_eql rfl rfl rfl) (by omega)) rfl rfl (Pu rfl ?_)))))))
  refine Ni (hK188 (WC.condF rfl (Sq fun K189 hK189 => (Rg (Va (dv_N (dx_eql rfl rfl rfl) (by omega)) rfl rfl (Pu rfl (Ni ?_)))))))
  refine hK189 (WC.condF rfl (Rg (Va (dv_N (dx_eql rfl rfl rfl) (by omega)) rfl rfl (Pu rfl (Ni (hK187 (WC.condF rfl ?_)))))))
  refine Sq fun K190 hK190 => (Rg (Va (dv_N (dx_eql rfl rfl rfl) (by omega)) rfl rfl (Pu rfl (Ni (hK190 (WC.condF rfl (Sq fun K191 hK191 => ?_)))))))
  refine Rg (Va (dv_N (dx_eql rfl rfl rfl) (by omega)) rfl rfl (Pu rfl (Ni (hK191 (WC.condF rfl (Sq fun K192 hK192 => (Rg ?_)))))))
  refine Va (dv_N (dx_eql rfl rfl rfl) (by omega)) rfl rfl (Pu rfl (Ni (hK192 (WC.condF rfl (Sq fun K193 hK193 => (Rg (Va (dv_N (dx_eql rfl rfl rfl) (by omega)) rfl rfl ?_)))))))
  refine Pu rfl (Ni (hK193 (WC.condF rfl (Sq fun K194 hK194 => (Rg (Pu rfl (Ni ?_)))))))
  refine hK194 ?_
  exact WC.ret fun a_ ha_ => hQ (cv_ret1 rfl (.tmp rfl) (by rw [right_leaf (by first | (rw [hkt]; decide) | omega) (by first | (rw [hkt]; decide) | omega), leaf_er]; (try unfold plainT at *); by_cases a1 : t.num = 0 <;> by_cases a2 : t.text = ⟨#[]⟩ <;> by_cases a3 : t.names = [] <;> by_cases a4 : t.items = [] <;> simp_all <;> omega) hB ha_)

theorem refRight_all : ∀ n, RefRightAt n
 | 0 => fun t _ _ _ _ h => h.elim
 | n + 1 => fun t room w L hL ht hz hr => refRight_step n (refRight_all n) t room w L hL ht hz hr
set_option maxHeartbeats 1000000 in
theorem rRight_v (n : Nat) (t : Tr) (w : World) (L : List Nat) (hL : LL L w) (ht : RdT (n + 1) L w t)  (hz : SzT 1000000 (n + 1) t) : CV Tryd.prog 25 [.agg #[.int .i64 t.kind, .int .i64 t.num, .string t.text, t.nv, t.iv]] w fun v W => v = .bool (rightJ upB 12 t.er) := by
 refine cv_enter (N := 5) (f := [(0, .agg #[.int .i64 t.kind, .int .i64 t.num, .string t.text, t.nv, t.iv])]) Tryd.func25 rfl rfl rfl rfl fun Q hQ hE => ?_
 have hB := Below.refl w.heap.size w
 refine Sq fun K1 hK1 => ?_
 obtain ⟨hnt, hit, hct⟩ := ht
 replace hct : RdTs n (L) w t.items := hct
 refine Rg ?_
 refine Ge (dx_box rfl rfl rfl) rfl rfl ?_
 rintro _ W2 ⟨rfl, k3, b4, z5⟩
 have l6 := hB.size
 replace hnt := hnt.more b4 (Nat.le_refl _)
 replace hit := hit.more b4 (Nat.le_refl _)
 replace hct := hct.more b4 (Nat.le_refl _)
 replace hB := below_then hB b4
 replace hL := LL.more hL z5
 refine Pu rfl (Ni (hK1 (Sq fun K7 hK7 => (Rg (Va (dx_loadN rfl ty_agg_25_5 rfl k3.range rfl) rfl rfl ?_)))))
 refine Ge (dx_cv rfl Tryd.func41 rfl rfl rfl ((show CV _ _ [_, .int .i64 0] _ _ from refRight_all (n + 1) t 12 W2 _ hL (show RdT (n + 1) (w.heap.size :: L) W2 t from ⟨hnt, hit, hct⟩) hz (by decide)))) rfl rfl ?_
 rintro _ W9 ⟨rfl, b8⟩
 replace hB := below_then hB b8
 refine Pu rfl (Ni (hK7 ?_))
 exact WC.ret fun a_ ha_ => hQ (cv_ret1 rfl (.tmp rfl) rfl hB ha_)


section
variable {P : Program} {ops : Array Oper} {o : Oper} {N : Nat} {f : Fl} {w : World}
end
theorem esc_hi {c : Int} (h : 128 ≤ c) : escJ c = [c] := by unfold escJ; rw [if_neg (by omega), if_neg (by omega), if_neg (by omega), if_neg (by omega), if_neg (by omega), if_neg (by omega), if_neg (by omega)]
theorem ok_low : ∀ l : List Int, (∀ x ∈ l, 0 ≤ x ∧ x < 128) → OKL l
 | [], _ => ok_nil
 | c :: l, h => by
  have h1 := ok_one (h c (.head _)).1 (h c (.head _)).2
  have := h1.app (ok_low l fun x hx => h x (.tail _ hx))
  simpa using this
theorem esc_low {c : Int} (h0 : 0 ≤ c) (h : c < 128) : ∀ x ∈ escJ c, 0 ≤ x ∧ x < 128 := by
 unfold escJ
 repeat' split
 all_goals (intro x hx; simp only [List.mem_cons, List.not_mem_nil, or_false] at hx)
 · omega
 · omega
 · omega
 · omega
 · omega
 · omega
 · unfold hexL at hx; rcases hx with h1 | h1 | h1 | h1 | h1 | h1 <;> (try split at h1) <;> omega
 · omega
theorem flat_id {l : List Int} (h : ∀ c ∈ l, escJ c = [c]) : l.flatMap escJ = l := flat_plain h
theorem ok_esc : ∀ (rs l : List Int), encS rs = some l → OKL (l.flatMap escJ)
  | [], l, h => by cases h; exact ok_nil
  | r :: t, l, h => by
    obtain ⟨hr, ts, ht, rfl⟩ := enc_split h
    rw [List.flatMap_append]
    refine OKL.app ?_ (ok_esc t ts ht)
    have hrange := isRune_range hr
    by_cases hc : r < 128
    · rw [encI1 hc, List.flatMap_cons, List.flatMap_nil, List.append_nil]
      exact ok_low _ (esc_low hrange.1 hc)
    · rw [flat_id fun c hx => esc_hi (enc_hi (by omega) c hx)]
      exact ok_rune hr
theorem ok_quo {s : ByteArray} (h : upB s = true) : OKL (quoJ s) := by
 obtain ⟨rs, hrs⟩ := ok_of_up h
 have := (ok_one (c := 34) (by decide) (by decide)).app ((ok_esc rs _ hrs).app (ok_one (c := 34) (by decide) (by decide)))
 exact this
theorem ok_num (n : Int) : OKL (numJ n) := by
  have d : ∀ u, ∀ x ∈ decL u, 0 ≤ x ∧ x < 128 := fun u x hx => by have := isDig_le ((decL_spec u).1 x hx); omega
  unfold numJ
  split
  · exact ok_low _ fun x hx => by
      rcases List.mem_cons.1 hx with rfl | hx
      · decide
      · exact d _ x hx
  · exact ok_low _ (d _)
theorem ok_comma {ps : List (List Int)} (h : ∀ p ∈ ps, OKL p) : OKL (commaJ ps) := by
 cases ps with
 | nil => exact ok_nil
 | cons x l =>
  refine OKL.app (h x (.head _)) ?_
  have : ∀ l : List (List Int), (∀ p ∈ l, OKL p) → OKL (l.flatMap fun y => 44 :: y) := fun l => by
   induction l with
   | nil => exact fun _ => ok_nil
   | cons y l ih =>
    intro hl
    rw [List.flatMap_cons]
    exact ((ok_one (c := 44) (by decide) (by decide)).app (hl y (.head _))).app (ih fun p hp => hl p (.tail _ hp))
  exact this l fun p hp => h p (.tail _ hp)
theorem ok_leaf {j : Js} (h : leafJ upB j = true) : OKL (leafP j) := by
 obtain ⟨_, _, ⟨e, _⟩ | ⟨e, _, hu⟩ | ⟨e | e | e, _⟩⟩ := leaf_cases h
 · rw [leafP_3 e]; exact ok_num _
 · rw [leafP_4 e]; exact ok_quo hu
 · rw [leafP_0 e]; exact ok_low _ (by decide)
 · rw [leafP_1 e]; exact ok_low _ (by decide)
 · rw [leafP_2 e]; exact ok_low _ (by decide)
theorem node_up {j : Js} (h : nodeJ upB j = true) (hk : j.kind = 6) : ∀ a ∈ j.names, upB a = true := by
 unfold nodeJ at h
 simp only [Bool.and_eq_true, Bool.or_eq_true, decide_eq_true_eq, List.all_eq_true] at h
 rcases h.2 with h | h
 · omega
 · exact h.2.2.2
theorem ok_pr : ∀ (n : Nat) (j : Js), rightJ upB n j = true → OKL (prJ n j)
  | 0, j, h => by rw [rightJ] at h; exact ok_leaf h
  | n + 1, j, h => by
    rw [rightJ, Bool.or_eq_true] at h
    rcases h with h | h
    · rw [leaf_pr h]; exact ok_leaf h
    · rw [Bool.and_eq_true, List.all_eq_true] at h
      have c : ∀ x : Int, 0 ≤ x → x < 128 → OKL [x] := fun x h0 h1 => ok_one h0 h1
      rcases node_kind h.1 with hk | hk
      · rw [prJ_5 hk]
        exact (c 91 (by decide) (by decide)).app ((ok_comma fun p hp => by obtain ⟨x, hx, rfl⟩ := List.mem_map.1 hp; exact ok_pr n x (h.2 x hx)).app (c 93 (by decide) (by decide)))
      · rw [prJ_6 hk]
        refine (c 123 (by decide) (by decide)).app ((ok_comma fun p hp => ?_).app (c 125 (by decide) (by decide)))
        obtain ⟨x, hx, rfl⟩ := List.mem_map.1 hp
        have hm := List.of_mem_zip hx
        exact (ok_quo (node_up h.1 hk x.1 hm.1)).app ((c 58 (by decide) (by decide)).app (ok_pr n x.2 (h.2 x.2 hm.2)))
theorem textJ_ok {j : Js} (h : rightJ upB 12 j = true) : OKL (textJ j) := ok_pr 12 j h
theorem print_parse {j : Js} (h : (prtS j).2 = 0) : rightJ upB 12 j = true ∧ (prtS j).1 = strOfNums (textJ j) ∧ parJ (prtS j).1 = .ok j := by
  unfold prtS at h ⊢
  by_cases hr : rightJ upB 12 j = true
  · rw [if_pos hr] at h ⊢
    by_cases hl : 8192 < (textJ j).length
    · rw [if_pos hl] at h; cases h
    · rw [if_neg hl]
      have ho := textJ_ok hr
      have hs : sb (strOfNums (textJ j)) = textJ j := sb_strOf ho.bytes
      exact ⟨hr, rfl, par_pr hr hs (by rw [← sb_length, hs]; omega) (up_of_ok ho)⟩
  · rw [if_neg hr] at h; cases h
theorem prt_err {j : Js} (h : ¬ (prtS j).2 = 0) : (prtS j).1 = ⟨#[]⟩ ∧ (rightJ upB 12 j = true → (prtS j).2 = 3) := by
  unfold prtS at h ⊢
  by_cases hr : rightJ upB 12 j = true
  · rw [if_pos hr] at h ⊢
    by_cases hl : 8192 < (textJ j).length
    · rw [if_pos hl]; exact ⟨rfl, fun _ => rfl⟩
    · rw [if_neg hl] at h; exact absurd rfl h
  · rw [if_neg hr]; exact ⟨rfl, fun q => absurd q hr⟩
def canS (s : ByteArray) : Bool := match parJ s with
 | .ok j => decide ((prtS j).2 = 0) && decide ((prtS j).1 = s)
 | .error _ => false
theorem can_e {s : ByteArray} {e : Int} (h : parJ s = .error e) : canS s = false := by unfold canS; rw [h]
theorem can_k {s : ByteArray} {j : Js} (h : parJ s = .ok j) : canS s = (decide ((prtS j).2 = 0) && decide ((prtS j).1 = s)) := by unfold canS; rw [h]
theorem can_p {j : Js} (h : (prtS j).2 = 0) : canS (prtS j).1 = true := by
 obtain ⟨_, _, h3⟩ := print_parse h
 rw [can_k h3, decide_eq_true h, decide_eq_true rfl]; rfl
end Go.Proofs.YtghpdnfdbhjmpaaDoor
