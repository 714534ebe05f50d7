/- What stands behind a backslash. The bytes of an escape. A text between its quotes. Plain words and numbers. Contracts that change two blocks and what  -/
import Derived.Laws.BytesString
import Derived.Test.YtghpdnfdbhjmpaaGreatDoorZB
namespace Go.Proofs.YtghpdnfdbhjmpaaGreatDoor
open Go.RowKit
set_option linter.unusedVariables false
set_option linter.unusedSimpArgs false
set_option maxRecDepth 8000
set_option maxHeartbeats 2000000

def hexD (c : Int) : Int := if 48 ≤ c ∧ c ≤ 57 then c - 48 else if 97 ≤ c ∧ c ≤ 102 then c - 87 else if 65 ≤ c ∧ c ≤ 70 then c - 55 else -1
theorem hexD_le (c : Int) : -1 ≤ hexD c ∧ hexD c ≤ 15 := by
 unfold hexD
 repeat' split
 all_goals omega
def fourN (s : ByteArray) : Nat → Nat → Int → Option Int
 | 0, _, r => some r
 | n + 1, k, r => if (decide (k < s.size) && decide (0 ≤ hexD (atS s k))) = true then fourN s n (k + 1) (r * 16 + hexD (atS s k)) else none
theorem four_go {s : ByteArray} {n k : Nat} {r : Int} (h : k < s.size) (hb : 0 ≤ hexD (atS s k)) : fourN s (n + 1) k r = fourN s n (k + 1) (r * 16 + hexD (atS s k)) := by
 rw [fourN, decide_eq_true h, decide_eq_true hb]
 rfl
theorem four_stop {s : ByteArray} {n k : Nat} {r : Int} (h : ¬ (k < s.size ∧ 0 ≤ hexD (atS s k))) : fourN s (n + 1) k r = none := by
 rw [fourN, if_neg]
 intro hc
 rw [Bool.and_eq_true, decide_eq_true_eq, decide_eq_true_eq] at hc
 exact h hc
def fourS (s : ByteArray) (k : Nat) : Option Int := fourN s 4 k 0
def escR (s : ByteArray) (k : Nat) : Option (Int × Nat) :=
 match fourS s k with
 | none => none
 | some r => if r < 55296 ∨ 56319 < r then some (r, k + 4) else if (takeS s (k + 4) 92 && takeS s (k + 5) 117) = true then
   match fourS s (k + 6) with
   | none => none
   | some q => if q < 56320 ∨ 57343 < q then none else some (65536 + (r - 55296) * 1024 + (q - 56320), k + 10)
  else none
def escB (s : ByteArray) (k : Nat) : Option (List Int × Nat) :=
 if takeS s k 117 = true then
  match escR s (k + 1) with
  | none => none
  | some (r, k') => if isRuneB r = true then some (encI r, k') else none
 else if k < s.size then
  if atS s k = 34 ∨ atS s k = 92 ∨ atS s k = 47 then some ([atS s k], k + 1) else if atS s k = 98 then some ([8], k + 1) else if atS s k = 102 then some ([12], k + 1)
  else if atS s k = 110 then some ([10], k + 1) else if atS s k = 114 then some ([13], k + 1) else if atS s k = 116 then some ([9], k + 1) else none
 else none
theorem wrap32_id {x : Int} (h : -2147483648 ≤ x ∧ x ≤ 2147483647) : IntKind.i32.wrap x = x := by rw [IntKind.wrap_i32]; omega
section
variable {P : Program} {ops : Array Oper} {o : Oper} {N : Nat} {f : Fl} {w : World}
theorem dx_shl {t t' : TypeId} {x y : Operand} {K K2 : IntKind} {m n r : Int} (ho : o.op = .binOp .shl t x y t') (hx : ev f x = some (.int K m)) (hy : ev f y = some (.int K2 n)) (hn : 0 ≤ n) (hn2 : n ≤ K.bits) (hr : K.wrap (m * 2 ^ n.toNat) = r) (hw : wantF ops o f = some true := by rfl) : DV P ops o N f w (.int K r) := fun a ha =>
 Does.shl (wantF_of ha hw) ho (ha.ev hx) (ha.ev hy) hn hn2 hr ⟨rfl, rfl⟩
end
theorem Chg.thenBase {B : Nat} {w W W' : World} (h : Chg B w W) (k : Below w.heap.size W W') : Chg B w W' := ⟨k.os.trans h.os, k.tape.trans h.tape, k.output.trans h.output, Nat.le_trans h.size k.size, fun i hi hne => (k.block i hi).trans (h.block i hi hne)⟩
theorem Blk.base {w w' : World} {B n : Nat} {cs : List Value} (h : Blk w B cs) (k : Below n w w') (hB : B < n) : Blk w' B cs := by
 obtain ⟨t, ht⟩ := h
 exact ⟨t, (k.block B hB).trans ht⟩
theorem LL.base {L : List Nat} {w w' : World} {n : Nat} (h : LL L w) (k : Below n w w') : LL L w' := fun x hx => Nat.lt_of_lt_of_le (h x hx) k.size
theorem NewW.chg {s base B : Nat} {rs : List (List Value)} {u : Value} {w w' : World} (h : NewW s base rs u w) (g : Chg B w w') (hB : B < base) : NewW s base rs u w' := by
 rcases h with h | ⟨C, h1, h2⟩
 · exact .inl h
 · exact .inr ⟨C, h1, h2.chgL g (by omega)⟩
theorem NewW.of_own {s base B : Nat} {rs : List (List Value)} {u : Value} {w : World} (h : OwS s w u rs B) (hb : base ≤ B) : NewW s base rs u w := .inr ⟨B, hb, h⟩
theorem NewW.of_row {w : World} {base e n : Nat} {v : Value} {bs : List Int} (h : w.ownsRow base e 1 v n (bs.map (Value.int .u8))) : NewW 1 base (bs.map e8) v w := by
  obtain ⟨hl, h2⟩ := h
  rw [List.length_map, Nat.mul_one] at hl
  subst hl
  rcases h2 with ⟨rfl, h0⟩ | ⟨g, cap, cur, rfl, hb, hh, hn, hm, hs, ht⟩
  · exact .inl ⟨rfl, by rw [List.length_eq_zero_iff.1 h0]; rfl, by decide⟩
  · refine .inr ⟨g, hb, by decide, fun r hr => ?_, cap, cur.toList.drop bs.length, by rw [List.length_map], by rw [List.length_map]; exact hn, hm, ?_, e, ?_⟩
    · obtain ⟨x, _, rfl⟩ := List.mem_map.1 hr
      rfl
    · rw [List.length_drop, Array.length_toList, hs, List.length_map]; omega
    · rw [Nat.mul_one] at ht
      rw [show (bs.map e8).flatten = bs.map (Value.int .u8) from flat_one bs, ← ht, List.take_append_drop, hh]
theorem rdI32_of {L : List Nat} {w : World} {v : Value} {z : Int} (h : RdF 1 L w v [[.int .i32 z]]) : RdI .i32 w v [z] := by
 obtain ⟨_, _, a, cap, rfl, h2, h3, h4, h5⟩ := h
 refine ⟨a, cap, rfl, h2, h3, fun k hk => ?_, h4⟩
 obtain ⟨X, q, rfl, _, hr⟩ := h5 (by simp)
 obtain rfl : k = 0 := Nat.lt_one_iff.1 hk
 exact ⟨X, q, rfl, hr 0 (.int .i32 z) rfl⟩
theorem encode_cv (u : Value) (r : Int) (w : World) (h : RdI .i32 w u [r]) : CV Tryz.prog 70 [u] w fun v W => (∃ x, v = .tuple #[x, .int .i64 0] ∧ isRuneB r = true ∧ NewW 1 w.heap.size ((encI r).map e8) x W) ∨ (v = .tuple #[.slice none 0 0, .int .i64 2] ∧ isRuneB r = false) :=
  Calls.mono (encode_any u [r] w h (show 1 ≤ 1000000 by decide)) fun e w' h => by
    obtain ⟨v, c, rfl, hb, h⟩ := h
    refine ⟨_, rfl, ?_, hb⟩
    rcases h with ⟨bs, h1, rfl, h2, h3, h4⟩ | ⟨h1, rfl, rfl⟩
    · cases hr : isRuneB r with
      | false => rw [encS, hr] at h1; cases h1
      | true =>
        rw [encS, hr] at h1
        obtain rfl : encI r ++ [] = bs := Option.some.inj h1
        rw [List.append_nil] at h4
        exact .inl ⟨v, rfl, rfl, .of_row h4⟩
    · cases hr : isRuneB r with
      | true => rw [encS, hr] at h1; cases h1
      | false => exact .inr ⟨rfl, rfl⟩
set_option maxHeartbeats 1000000 in
theorem digit_v (c : Int) (w : World) (L : List Nat) (hL : LL L w)   (hc : 0 ≤ c ∧ c < 256) : CV Tryz.prog 93 [.int .u8 c] w fun v W => v = .int .i32 (hexD c) := by
 refine cv_enter (N := 35) (f := [(0, .int .u8 c)]) Tryz.func93 rfl rfl rfl rfl fun Q hQ hE => ?_
 have hB := Below.refl w.heap.size w
 refine Sq fun K1 hK1 => (Rg (Pu rfl (Ni (hK1 (Sq fun K2 hK2 => (WC.block (Sq fun K3 hK3 => ?_)))))))
 refine Rg (Pu rfl (Va (dx_geq rfl rfl rfl) rfl rfl (Pu rfl ?_)))
 refine WL.split 6 rfl (fun g4 => ?_) (fun g4 => ?_)
 ·
  replace g4 := dT g4
  refine Pu rfl (Va (dx_leq rfl rfl rfl) rfl rfl (Pu rfl (Pu rfl (Ni (hK3 ?_)))))
  refine WC.cond rfl (fun c5 => ?_) (fun c5 => ?_)
  ·
   replace c5 := dT c5
   refine Sq fun K6 hK6 => (Rg (Pu rfl (Va (dx_sub (r := c - 48) rfl rfl rfl (wrapu8_id (by omega))) rfl rfl (Va (dx_conv (r := c - 48) rfl Tryz.underlying5 Tryz.underlying21 rfl (wrap32_id (by omega))) rfl rfl (Pu rfl (Ni (hK6 ?_)))))))
   exact WC.ret fun a_ ha_ => hQ (cv_ret1 rfl (.tmp rfl) (by (try simp only [Bool.and_eq_false_iff, decide_eq_false_iff_not, Int.not_le] at *); congr 1; unfold hexD; repeat' split; all_goals omega) hB ha_)
  ·
   replace c5 := dF c5
   refine Sq fun K7 hK7 => (Rg (Pu rfl (Va (dx_geq rfl rfl rfl) rfl rfl (Pu rfl ?_))))
   refine WL.split 16 rfl (fun g8 => ?_) (fun g8 => ?_)
   ·
    replace g8 := dT g8
    refine Pu rfl (Va (dx_leq rfl rfl rfl) rfl rfl (Pu rfl (Pu rfl (Ni (hK7 ?_)))))
    refine WC.cond rfl (fun c9 => ?_) (fun c9 => ?_)
    ·
     replace c9 := dT c9
     refine Sq fun K10 hK10 => (Rg (Pu rfl (Va (dx_sub (r := c - 97) rfl rfl rfl (wrapu8_id (by omega))) rfl rfl (Va (dx_conv (r := c - 97) rfl Tryz.underlying5 Tryz.underlying21 rfl (wrap32_id (by omega))) rfl rfl (Va (dx_add (r := (c - 97) + 10) rfl rfl rfl (wrap32_id (by omega))) rfl rfl (Pu rfl (Ni ?_)))))))
     refine hK10 ?_
     exact WC.ret fun a_ ha_ => hQ (cv_ret1 rfl (.tmp rfl) (by (try simp only [Bool.and_eq_false_iff, decide_eq_false_iff_not, Int.not_le] at *); congr 1; unfold hexD; repeat' split; all_goals omega) hB ha_)
    ·
     replace c9 := dF c9
     refine Sq fun K11 hK11 => (Rg (Pu rfl (Va (dx_geq rfl rfl rfl) rfl rfl (Pu rfl ?_))))
     refine WL.split 27 rfl (fun g12 => ?_) (fun g12 => ?_)
     ·
      replace g12 := dT g12
      refine Pu rfl (Va (dx_leq rfl rfl rfl) rfl rfl (Pu rfl (Pu rfl (Ni (hK11 ?_)))))
      refine WC.cond rfl (fun c13 => ?_) (fun c13 => ?_)
      ·
       replace c13 := dT c13
       refine Sq fun K14 hK14 => (Rg (Pu rfl (Va (dx_sub (r := c - 65) rfl rfl rfl (wrapu8_id (by omega))) rfl rfl (Va (dx_conv (r := c - 65) rfl Tryz.underlying5 Tryz.underlying21 rfl (wrap32_id (by omega))) rfl rfl (Va (dx_add (r := (c - 65) + 10) rfl rfl rfl (wrap32_id (by omega))) rfl rfl (Pu rfl (Ni ?_)))))))
       refine hK14 ?_
       exact WC.ret fun a_ ha_ => hQ (cv_ret1 rfl (.tmp rfl) (by (try simp only [Bool.and_eq_false_iff, decide_eq_false_iff_not, Int.not_le] at *); congr 1; unfold hexD; repeat' split; all_goals omega) hB ha_)
      ·
       replace c13 := dF c13
       refine WC.skip (hK2 (Sq fun K15 hK15 => (Rg (Pu rfl (Ni (hK15 ?_))))))
       exact WC.ret fun a_ ha_ => hQ (cv_ret1 rfl (.tmp rfl) (by (try simp only [Bool.and_eq_false_iff, decide_eq_false_iff_not, Int.not_le] at *); congr 1; unfold hexD; repeat' split; all_goals omega) hB ha_)
     ·
      replace g12 := dF g12
      refine Of rfl (Of rfl (Pu rfl (Pu rfl (Ni (hK11 (WC.condF rfl (WC.skip ?_)))))))
      refine hK2 (Sq fun K16 hK16 => (Rg (Pu rfl (Ni (hK16 ?_)))))
      exact WC.ret fun a_ ha_ => hQ (cv_ret1 rfl (.tmp rfl) (by (try simp only [Bool.and_eq_false_iff, decide_eq_false_iff_not, Int.not_le] at *); congr 1; unfold hexD; repeat' split; all_goals omega) hB ha_)
   ·
    replace g8 := dF g8
    refine Of rfl (Of rfl (Pu rfl (Pu rfl (Ni (hK7 (WC.condF rfl (Sq fun K17 hK17 => ?_)))))))
    refine Rg (Pu rfl (Va (dx_geq rfl rfl rfl) rfl rfl (Pu rfl ?_)))
    refine WL.split 27 rfl (fun g18 => ?_) (fun g18 => ?_)
    ·
     replace g18 := dT g18
     refine Pu rfl (Va (dx_leq rfl rfl rfl) rfl rfl (Pu rfl (Pu rfl (Ni (hK17 ?_)))))
     refine WC.cond rfl (fun c19 => ?_) (fun c19 => ?_)
     ·
      replace c19 := dT c19
      refine Sq fun K20 hK20 => (Rg (Pu rfl (Va (dx_sub (r := c - 65) rfl rfl rfl (wrapu8_id (by omega))) rfl rfl (Va (dx_conv (r := c - 65) rfl Tryz.underlying5 Tryz.underlying21 rfl (wrap32_id (by omega))) rfl rfl (Va (dx_add (r := (c - 65) + 10) rfl rfl rfl (wrap32_id (by omega))) rfl rfl (Pu rfl (Ni ?_)))))))
      refine hK20 ?_
      exact WC.ret fun a_ ha_ => hQ (cv_ret1 rfl (.tmp rfl) (by (try simp only [Bool.and_eq_false_iff, decide_eq_false_iff_not, Int.not_le] at *); congr 1; unfold hexD; repeat' split; all_goals omega) hB ha_)
     ·
      replace c19 := dF c19
      refine WC.skip (hK2 (Sq fun K21 hK21 => (Rg (Pu rfl (Ni (hK21 ?_))))))
      exact WC.ret fun a_ ha_ => hQ (cv_ret1 rfl (.tmp rfl) (by (try simp only [Bool.and_eq_false_iff, decide_eq_false_iff_not, Int.not_le] at *); congr 1; unfold hexD; repeat' split; all_goals omega) hB ha_)
    ·
     replace g18 := dF g18
     refine Of rfl (Of rfl (Pu rfl (Pu rfl (Ni (hK17 (WC.condF rfl (WC.skip ?_)))))))
     refine hK2 (Sq fun K22 hK22 => (Rg (Pu rfl (Ni (hK22 ?_)))))
     exact WC.ret fun a_ ha_ => hQ (cv_ret1 rfl (.tmp rfl) (by (try simp only [Bool.and_eq_false_iff, decide_eq_false_iff_not, Int.not_le] at *); congr 1; unfold hexD; repeat' split; all_goals omega) hB ha_)
 ·
  replace g4 := dF g4
  refine Of rfl (Of rfl (Pu rfl (Pu rfl (Ni (hK3 (WC.condF rfl (Sq fun K23 hK23 => ?_)))))))
  refine Rg (Pu rfl (Va (dx_geq rfl rfl rfl) rfl rfl (Pu rfl ?_)))
  refine WL.split 16 rfl (fun g24 => ?_) (fun g24 => ?_)
  ·
   replace g24 := dT g24
   refine Pu rfl (Va (dx_leq rfl rfl rfl) rfl rfl (Pu rfl (Pu rfl (Ni (hK23 ?_)))))
   refine WC.cond rfl (fun c25 => ?_) (fun c25 => ?_)
   ·
    replace c25 := dT c25
    refine Sq fun K26 hK26 => (Rg (Pu rfl (Va (dx_sub (r := c - 97) rfl rfl rfl (wrapu8_id (by omega))) rfl rfl (Va (dx_conv (r := c - 97) rfl Tryz.underlying5 Tryz.underlying21 rfl (wrap32_id (by omega))) rfl rfl (Va (dx_add (r := (c - 97) + 10) rfl rfl rfl (wrap32_id (by omega))) rfl rfl (Pu rfl (Ni ?_)))))))
    refine hK26 ?_
    exact WC.ret fun a_ ha_ => hQ (cv_ret1 rfl (.tmp rfl) (by (try simp only [Bool.and_eq_false_iff, decide_eq_false_iff_not, Int.not_le] at *); congr 1; unfold hexD; repeat' split; all_goals omega) hB ha_)
   ·
    replace c25 := dF c25
    refine Sq fun K27 hK27 => (Rg (Pu rfl (Va (dx_geq rfl rfl rfl) rfl rfl (Pu rfl ?_))))
    refine WL.split 27 rfl (fun g28 => ?_) (fun g28 => ?_)
    ·
     replace g28 := dT g28
     refine Pu rfl (Va (dx_leq rfl rfl rfl) rfl rfl (Pu rfl (Pu rfl (Ni (hK27 ?_)))))
     refine WC.cond rfl (fun c29 => ?_) (fun c29 => ?_)
     ·
      replace c29 := dT c29
      refine Sq fun K30 hK30 => (Rg (Pu rfl (Va (dx_sub (r := c - 65) rfl rfl rfl (wrapu8_id (by omega))) rfl rfl (Va (dx_conv (r := c - 65) rfl Tryz.underlying5 Tryz.underlying21 rfl (wrap32_id (by omega))) rfl rfl (Va (dx_add (r := (c - 65) + 10) rfl rfl rfl (wrap32_id (by omega))) rfl rfl (Pu rfl (Ni ?_)))))))
      refine hK30 ?_
      exact WC.ret fun a_ ha_ => hQ (cv_ret1 rfl (.tmp rfl) (by (try simp only [Bool.and_eq_false_iff, decide_eq_false_iff_not, Int.not_le] at *); congr 1; unfold hexD; repeat' split; all_goals omega) hB ha_)
     ·
      replace c29 := dF c29
      refine WC.skip (hK2 (Sq fun K31 hK31 => (Rg (Pu rfl (Ni (hK31 ?_))))))
      exact WC.ret fun a_ ha_ => hQ (cv_ret1 rfl (.tmp rfl) (by (try simp only [Bool.and_eq_false_iff, decide_eq_false_iff_not, Int.not_le] at *); congr 1; unfold hexD; repeat' split; all_goals omega) hB ha_)
    ·
     replace g28 := dF g28
     refine Of rfl (Of rfl (Pu rfl (Pu rfl (Ni (hK27 (WC.condF rfl (WC.skip ?_)))))))
     refine hK2 (Sq fun K32 hK32 => (Rg (Pu rfl (Ni (hK32 ?_)))))
     exact WC.ret fun a_ ha_ => hQ (cv_ret1 rfl (.tmp rfl) (by (try simp only [Bool.and_eq_false_iff, decide_eq_false_iff_not, Int.not_le] at *); congr 1; unfold hexD; repeat' split; all_goals omega) hB ha_)
  ·
   replace g24 := dF g24
   refine Of rfl (Of rfl (Pu rfl (Pu rfl (Ni (hK23 (WC.condF rfl (Sq fun K33 hK33 => ?_)))))))
   refine Rg (Pu rfl (Va (dx_geq rfl rfl rfl) rfl rfl (Pu rfl ?_)))
   refine WL.split 27 rfl (fun g34 => ?_) (fun g34 => ?_)
   ·
    replace g34 := dT g34
    refine Pu rfl (Va (dx_leq rfl rfl rfl) rfl rfl (Pu rfl (Pu rfl (Ni (hK33 ?_)))))
    refine WC.cond rfl (fun c35 => ?_) (fun c35 => ?_)
    ·
     replace c35 := dT c35
     refine Sq fun K36 hK36 => (Rg (Pu rfl (Va (dx_sub (r := c - 65) rfl rfl rfl (wrapu8_id (by omega))) rfl rfl (Va (dx_conv (r := c - 65) rfl Tryz.underlying5 Tryz.underlying21 rfl (wrap32_id (by omega))) rfl rfl (Va (dx_add (r := (c - 65) + 10) rfl rfl rfl (wrap32_id (by omega))) rfl rfl (Pu rfl (Ni ?_)))))))
     refine hK36 ?_
     exact WC.ret fun a_ ha_ => hQ (cv_ret1 rfl (.tmp rfl) (by (try simp only [Bool.and_eq_false_iff, decide_eq_false_iff_not, Int.not_le] at *); congr 1; unfold hexD; repeat' split; all_goals omega) hB ha_)
    ·
     replace c35 := dF c35
     refine WC.skip (hK2 (Sq fun K37 hK37 => (Rg (Pu rfl (Ni (hK37 ?_))))))
     exact WC.ret fun a_ ha_ => hQ (cv_ret1 rfl (.tmp rfl) (by (try simp only [Bool.and_eq_false_iff, decide_eq_false_iff_not, Int.not_le] at *); congr 1; unfold hexD; repeat' split; all_goals omega) hB ha_)
   ·
    replace g34 := dF g34
    refine Of rfl (Of rfl (Pu rfl (Pu rfl (Ni (hK33 (WC.condF rfl (WC.skip ?_)))))))
    refine hK2 (Sq fun K38 hK38 => (Rg (Pu rfl (Ni (hK38 ?_)))))
    exact WC.ret fun a_ ha_ => hQ (cv_ret1 rfl (.tmp rfl) (by (try simp only [Bool.and_eq_false_iff, decide_eq_false_iff_not, Int.not_le] at *); congr 1; unfold hexD; repeat' split; all_goals omega) hB ha_)

theorem hexD_in {c : Int} (h : 0 ≤ hexD c) : 48 ≤ c := by
 unfold hexD at h
 repeat' split at h
 all_goals omega
theorem peek_c (s : ByteArray) (P ka dp : Nat) (w : World) (L : List Nat) (hL : LL L w) (hPL : P ∈ L) (hs : s.size ≤ 1000000) (hk : ka ≤ s.size) (hp : Blk w P (psC s ka dp)) :
  CV Tryz.prog 26 [.pointer (some ⟨P, 0, none⟩)] w fun v W => ∃ c, v = .int .u8 c ∧ 0 ≤ c ∧ c < 256 ∧ (ka < s.size → c = atS s ka) ∧ (s.size ≤ ka → c = 0) :=
 (peek_v s P ka dp w L hL hPL hs hk hp).mono fun v W _ h => ⟨_, h, by have := atS_lo s ka; split <;> omega, by have := atS_lo s ka; split <;> omega, fun h => if_pos h, fun h => if_neg (by omega)⟩
theorem or16 {x d : Int} (h0 : 0 ≤ x) (h1 : x ≤ 4095) (h2 : 0 ≤ d) (h3 : d ≤ 15) : bits .or .i32 (x * 16) d = x * 16 + d := bits_join .i32 31 (by decide) wraps_i32 4 (x * 16) d (by omega) (by omega) (by omega) h2 (by omega) (by omega)
section
variable {s : ByteArray} {k k1 k2 k3 k4 : Nat} {r q : Int}
theorem escR_n (h : fourS s k = none) : escR s k = none := by unfold escR; rw [h]
theorem escR_a (h : fourS s k = some r) (hr : r < 55296 ∨ 56319 < r) (e : k1 = k + 4) : escR s k = some (r, k1) := by unfold escR; rw [h]; dsimp only; rw [if_pos hr, e]
theorem escR_b (h : fourS s k = some r) (hr : ¬ (r < 55296 ∨ 56319 < r)) (e1 : k1 = k + 4) (t1 : takeS s k1 92 = false) : escR s k = none := by
 subst e1; unfold escR; rw [h]; dsimp only; rw [if_neg hr, t1]; rfl
theorem escR_b' (h : fourS s k = some r) (hr : ¬ (r < 55296 ∨ 56319 < r)) (e1 : k1 = k + 4) (t1 : takeS s k1 92 = true) (e2 : k2 = k1 + 1) (t2 : takeS s k2 117 = false) : escR s k = none := by
 subst e2 e1; unfold escR; rw [h]; dsimp only; rw [if_neg hr, t1, t2]; rfl
theorem escR_c (h : fourS s k = some r) (hr : ¬ (r < 55296 ∨ 56319 < r)) (e1 : k1 = k + 4) (t1 : takeS s k1 92 = true) (e2 : k2 = k1 + 1) (t2 : takeS s k2 117 = true) (e3 : k3 = k2 + 1) (h2 : fourS s k3 = none) : escR s k = none := by
 subst e3 e2 e1; unfold escR; rw [h]; dsimp only; rw [if_neg hr, t1, t2, Bool.true_and, if_pos rfl, h2]
theorem escR_d (h : fourS s k = some r) (hr : ¬ (r < 55296 ∨ 56319 < r)) (e1 : k1 = k + 4) (t1 : takeS s k1 92 = true) (e2 : k2 = k1 + 1) (t2 : takeS s k2 117 = true) (e3 : k3 = k2 + 1) (h2 : fourS s k3 = some q) (hq : q < 56320 ∨ 57343 < q) : escR s k = none := by
 subst e3 e2 e1; unfold escR; rw [h]; dsimp only; rw [if_neg hr, t1, t2, Bool.true_and, if_pos rfl, h2]; dsimp only; rw [if_pos hq]
theorem escR_e (h : fourS s k = some r) (hr : ¬ (r < 55296 ∨ 56319 < r)) (e1 : k1 = k + 4) (t1 : takeS s k1 92 = true) (e2 : k2 = k1 + 1) (t2 : takeS s k2 117 = true) (e3 : k3 = k2 + 1) (h2 : fourS s k3 = some q) (hq : ¬ (q < 56320 ∨ 57343 < q)) (e4 : k4 = k3 + 4) : escR s k = some (65536 + (r - 55296) * 1024 + (q - 56320), k4) := by
 subst e4 e3 e2 e1; unfold escR; rw [h]; dsimp only; rw [if_neg hr, t1, t2, Bool.true_and, if_pos rfl, h2]; dsimp only; rw [if_neg hq]
end
set_option maxHeartbeats 1000000 in
theorem four_v  (s : ByteArray) (P ka dp : Nat) (w : World) (L : List Nat) (hL : LL L w) (hPL : P ∈ L) (hs : s.size ≤ 1000000) (hk : ka ≤ s.size) (hp : Blk w P (psC s ka dp))   : CW Tryz.prog 80 [.pointer (some ⟨P, 0, none⟩)] w P fun v W => (∃ k' r, v = .tuple #[.int .i32 r, .bool true] ∧ fourS s ka = some r ∧ 0 ≤ r ∧ r ≤ 65535 ∧ k' = ka + 4 ∧ k' ≤ s.size ∧ Blk W P (psC s k' dp)) ∨ (∃ k', v = .tuple #[.int .i32 0, .bool false] ∧ fourS s ka = none ∧ k' ≤ s.size ∧ Blk W P (psC s k' dp)) := by
 refine cw_enter (N := 31) (f := [(0, .pointer (some ⟨P, 0, none⟩))]) Tryz.func80 rfl rfl rfl rfl fun Q hQ hE => ?_
 have hB := Chg.refl P w
 have hL0 := hL
 refine Sq fun K1 hK1 => (Rg (Pu rfl (Pu rfl (Ni (hK1 (Sq fun K2 hK2 => (Rg ?_)))))))
 refine Pu rfl (Ni (hK2 (Sq fun K3 hK3 => (Sq fun K4 hK4 => (Rg (Pu rfl (Ni ?_)))))))
 refine hK4 (WC.block ?_)
 refine WC.loop3 (fun (i : Nat) (kb : Nat) (r : Int) => [(0, .pointer (some ⟨P, 0, none⟩)), (7, .int .i64 (i : Int)), (4, .int .i32 r)]) (fun (i : Nat) (kb : Nat) (r : Int) W => i ≤ 4 ∧ kb = ka + i ∧ kb ≤ s.size ∧ 0 ≤ r ∧ ((i = 0 → r = 0) ∧ (i ≤ 1 → r ≤ 15) ∧ (i ≤ 2 → r ≤ 255) ∧ (i ≤ 3 → r ≤ 4095) ∧ r ≤ 65535) ∧ fourS s ka = fourN s (4 - i) kb r ∧ Chg P w W ∧ LL (L) W ∧ Blk W P [.string s, .int .i64 (kb : Int), .int .i64 (dp : Int)]) (fun (i : Nat) (kb : Nat) (r : Int) => 4 - i) 0 ka 0 (by repeat first | exact trivial | refine aR ?_ | refine aI (by omega) ?_) ⟨(by omega), rfl, hk, (by omega), (by omega), rfl, hB, hL, hp⟩ ?_
 clear hp hB hL
 rintro K5 i kb r W6 ⟨hi, hki, hkb, hr0, hr1, hv, hB, hL, hp⟩ hK5
 refine Sq fun K7 hK7 => (Rg (Va (dx_lss rfl rfl rfl) rfl rfl (Ni (hK7 (Sq fun K8 hK8 => ?_)))))
 refine WC.cond rfl (fun c9 => ?_) (fun c9 => ?_)
 ·
  replace c9 := dT c9
  refine WC.skip (hK8 (Sq fun K10 hK10 => (WC.block (Sq fun K11 hK11 => (Rg (Pu rfl (Va (dx_nilCheck rfl rfl) rfl rfl ?_)))))))
  refine Va (dx_fld (o1 := 0) rfl ty_fld_39_0_0 rfl rfl) rfl rfl ?_
  refine Ge (dx_cv rfl Tryz.func26 rfl rfl rfl (peek_c s P kb dp W6 _ hL hPL hs (by omega) hp)) rfl rfl ?_
  rintro _ W28 ⟨⟨c22, rfl, hc23, hc24, hc25, hc26⟩, b27⟩
  replace hp := hp.below b27
  replace hB := Chg.thenB hB b27
  replace hL := LL.below hL b27
  refine Pu rfl (Ni (hK11 (Sq fun K29 hK29 => (Rg (Pu rfl ?_)))))
  refine Ge (dx_cv rfl Tryz.func93 rfl rfl rfl ((show CV _ _ [.int .u8 c22] _ (fun v _ => v = .int .i32 (hexD c22)) from digit_v c22 W28 _ hL (by first | exact if_byte _ _ | omega)))) rfl rfl ?_
  rintro _ W34 ⟨rfl, b33⟩
  replace hp := hp.below b33
  replace hB := Chg.thenB hB b33
  replace hL := LL.below hL b33
  have hd32 := hexD_le c22
  refine Pu rfl (Ni (hK29 (Sq fun K35 hK35 => (Sq fun K36 hK36 => (Rg (Pu rfl (Va (dx_lss rfl rfl rfl) rfl rfl ?_)))))))
  refine Pu rfl ?_
  refine WL.split 17 rfl (fun g37 => ?_) (fun g37 => ?_)
  ·
   replace g37 := dT g37
   refine Of rfl (Of rfl (Of rfl (Of rfl (Of rfl (Of rfl (Pu rfl (Ni ?_)))))))
   refine hK36 (WC.condT rfl (Sq fun K38 hK38 => (Rg (Pu rfl (Pu rfl (Ni (hK38 ?_)))))))
   exact WC.ret fun a_ ha_ => hQ (cw_ret2 rfl (.tmp rfl) (.tmp rfl) (by refine .inr ⟨kb, rfl, ?_, by omega, hp⟩; obtain ⟨n, hn⟩ : ∃ n, 4 - i = n + 1 := ⟨3 - i, by omega⟩; rw [hn] at hv; exact hv.trans (four_stop (fun ⟨h1_, h2_⟩ => by have e_ := hc25 h1_; rw [← e_] at h2_; first | omega | exact absurd e_.symm (take_f (by assumption) h1_)))) hB ha_)
  ·
   replace g37 := dF g37
   refine Pu rfl (Va (dx_nilCheck rfl rfl) rfl rfl (Va (dx_fld (o1 := 0) rfl ty_fld_39_0_0 rfl rfl) rfl rfl (Pu rfl ?_)))
   refine Ge (dx_cw rfl Tryz.func25 rfl rfl rfl (take_v c22 s P kb dp W34 _ hL hPL hs (by omega) hp)) rfl rfl ?_
   rintro _ W46 ⟨⟨k42, rfl, hk43, hk44, hp47⟩, g45⟩
   replace hB := Chg.both hB g45
   replace hL := hL.chg g45
   cases hT48 : takeS s kb c22 with
   | false =>
    rw [hT48] at hk43
    replace hk43 : kb = k42 := Eq.symm hk43
    subst hk43
    refine Va (dx_not rfl rfl) rfl rfl (Pu rfl (Ni (hK36 (WC.condT rfl (Sq fun K49 hK49 => (Rg (Pu rfl ?_)))))))
    refine Pu rfl (Ni (hK49 ?_))
    exact WC.ret fun a_ ha_ => hQ (cw_ret2 rfl (.tmp rfl) (.tmp rfl) (by refine .inr ⟨kb, rfl, ?_, by omega, hp47⟩; obtain ⟨n, hn⟩ : ∃ n, 4 - i = n + 1 := ⟨3 - i, by omega⟩; rw [hn] at hv; exact hv.trans (four_stop (fun ⟨h1_, h2_⟩ => by have e_ := hc25 h1_; rw [← e_] at h2_; first | omega | exact absurd e_.symm (take_f (by assumption) h1_)))) hB ha_)
   | true =>
    rw [hT48] at hk43
    have hthT48 := take_t hT48
    replace hk43 : k42 = kb + 1 := hk43
    refine Va (dx_not rfl rfl) rfl rfl (Pu rfl (Ni (hK36 (WC.condF rfl (WC.skip (hK35 (Rg ?_)))))))
    refine Pu rfl (Va (dx_shl (r := r * 16) rfl rfl rfl (by decide) (by decide) (by rw [show (2 : Int) ^ (4 : Int).toNat = 16 from by decide]; exact wrap32_id (by omega))) rfl rfl (Pu rfl (Va (dx_or_i (r := r * 16 + (hexD c22)) rfl rfl rfl (or16 (by omega) (by omega) (by omega) (by omega))) rfl rfl (Pu rfl (Ni (hK10 (Rg ?_)))))))
    refine Va (dx_add (r := (i : Int) + 1) rfl rfl rfl (wrap64_id (by omega))) rfl rfl (Pu rfl (Ni ?_))
    have h49 := hexD_in (c := c22) (by omega)
    have hlt : kb < s.size := by rcases Nat.lt_or_ge kb s.size with h_ | h_; exact h_; (have := hc26 h_; omega)
    have hce := hc25 hlt
    obtain ⟨n, hn⟩ : ∃ n, 4 - i = n + 1 := ⟨3 - i, by omega⟩
    rw [hn] at hv
    have hv2 := hv.trans (four_go (n := n) (r := r) hlt (by rw [← hce]; omega))
    rw [← hce] at hv2
    exact hK5 (i + 1) k42 (r * 16 + hexD c22) ⟨(by omega), (by omega), (by omega), (by omega), (by omega), (by rw [hv2]; congr 1 <;> omega), hB, hL, hp47⟩ (by omega) (by repeat first | exact trivial | refine aR ?_ | refine aI (by omega) ?_)
 ·
  replace c9 := dF c9
  refine WC.exit ?_
  refine hK3 (Sq fun K50 hK50 => (Rg (Pu rfl (Pu rfl (Pu rfl (Ni (hK50 ?_)))))))
  exact WC.ret fun a_ ha_ => hQ (cw_ret2 rfl (.tmp rfl) (.tmp rfl) (by obtain rfl : i = 4 := (by omega); exact .inl ⟨kb, r, rfl, hv, hr0, by omega, hki, hkb, hp⟩) hB ha_)

set_option maxHeartbeats 1000000 in
theorem escRune_v  (s : ByteArray) (P ka dp : Nat) (w : World) (L : List Nat) (hL : LL L w) (hPL : P ∈ L) (hs : s.size ≤ 1000000) (hk : ka ≤ s.size) (hp : Blk w P (psC s ka dp))   : CW Tryz.prog 69 [.pointer (some ⟨P, 0, none⟩)] w P fun v W => (∃ k' r, v = .tuple #[.int .i32 r, .int .i64 0] ∧ escR s ka = some (r, k') ∧ 0 ≤ r ∧ r ≤ 1114111 ∧ ka + 4 ≤ k' ∧ k' ≤ s.size ∧ Blk W P (psC s k' dp)) ∨ (∃ k', v = .tuple #[.int .i32 0, .int .i64 2] ∧ escR s ka = none ∧ k' ≤ s.size ∧ Blk W P (psC s k' dp)) := by
 refine cw_enter (N := 55) (f := [(0, .pointer (some ⟨P, 0, none⟩))]) Tryz.func69 rfl rfl rfl rfl fun Q hQ hE => ?_
 have hB := Chg.refl P w
 have hL0 := hL
 refine Sq fun K1 hK1 => (Rg (Pu rfl (Pu rfl (Ni (hK1 (Sq fun K2 hK2 => (Rg ?_)))))))
 refine Pu rfl ?_
 refine Ge (dx_cw rfl Tryz.func80 rfl rfl rfl (four_v s P ka dp w _ hL hPL hs (by omega) hp)) rfl rfl ?_
 rintro _ W14 ⟨(⟨k3, r4, rfl, hf5, hf6, hf7, hf8, hf9, hp15⟩ | ⟨k12, rfl, hf10, hf11, hp15⟩), g13⟩
 ·
  replace hB := Chg.both hB g13
  replace hL := hL.chg g13
  refine Pu rfl (Pu rfl (Pu rfl (Pu rfl (Pu rfl (Ni (hK2 (Sq fun K16 hK16 => ?_)))))))
  refine Sq fun K17 hK17 => (Rg (Pu rfl (Va (dx_not rfl rfl) rfl rfl (Ni (hK17 (WC.condF rfl (WC.skip ?_)))))))
  refine hK16 (Sq fun K18 hK18 => (Sq fun K19 hK19 => (Rg (Pu rfl (Va (dx_lss rfl rfl rfl) rfl rfl (Pu rfl ?_))))))
  refine WL.split 16 rfl (fun g20 => ?_) (fun g20 => ?_)
  ·
   replace g20 := dT g20
   refine Of rfl (Of rfl (Pu rfl (Ni (hK19 (WC.condT rfl (Sq fun K21 hK21 => (Rg ?_)))))))
   refine Pu rfl (Pu rfl (Pu rfl (Ni (hK21 ?_))))
   exact WC.ret fun a_ ha_ => hQ (cw_ret2 rfl (.tmp rfl) (.tmp rfl) (.inl ⟨k3, _, rfl, (by first | (apply escR_a <;> first | assumption | omega; done) | (apply escR_e <;> first | assumption | omega; done)), by omega, by omega, by omega, by omega, hp15⟩) hB ha_)
  ·
   replace g20 := dF g20
   refine Pu rfl (Va (dx_gtr rfl rfl rfl) rfl rfl (Pu rfl (Ni (hK19 ?_))))
   refine WC.cond rfl (fun c22 => ?_) (fun c22 => ?_)
   ·
    replace c22 := dT c22
    refine Sq fun K23 hK23 => (Rg (Pu rfl (Pu rfl (Pu rfl (Ni (hK23 ?_))))))
    exact WC.ret fun a_ ha_ => hQ (cw_ret2 rfl (.tmp rfl) (.tmp rfl) (.inl ⟨k3, _, rfl, (by first | (apply escR_a <;> first | assumption | omega; done) | (apply escR_e <;> first | assumption | omega; done)), by omega, by omega, by omega, by omega, hp15⟩) hB ha_)
   ·
    replace c22 := dF c22
    refine WC.skip (hK18 (Sq fun K24 hK24 => (Sq fun K25 hK25 => (Rg (Pu rfl (Va (dx_nilCheck rfl rfl) rfl rfl (Va (dx_fld (o1 := 0) rfl ty_fld_39_0_0 rfl rfl) rfl rfl ?_)))))))
    refine Ge (dx_cw rfl Tryz.func25 rfl rfl rfl (take_v 92 s P k3 dp W14 _ hL hPL hs (by omega) hp15)) rfl rfl ?_
    rintro _ W33 ⟨⟨k29, rfl, hk30, hk31, hp34⟩, g32⟩
    replace hB := Chg.both hB g32
    replace hL := hL.chg g32
    cases hT35 : takeS s k3 92 with
    | false =>
     rw [hT35] at hk30
     replace hk30 : k3 = k29 := Eq.symm hk30
     subst hk30
     refine Va (dx_not rfl rfl) rfl rfl (Pu rfl (Of rfl (Of rfl (Of rfl (Of rfl (Of rfl (Pu rfl ?_)))))))
     refine Ni (hK25 (WC.condT rfl (Sq fun K36 hK36 => (Rg (Pu rfl (Pu rfl (Ni ?_)))))))
     refine hK36 ?_
     exact WC.ret fun a_ ha_ => hQ (cw_ret2 rfl (.tmp rfl) (.tmp rfl) (.inr ⟨k3, rfl, (by first | exact escR_n (by assumption) | (apply escR_b <;> first | assumption | omega; done) | (apply escR_b' <;> first | assumption | omega; done) | (apply escR_c <;> first | assumption | omega; done) | (apply escR_d <;> first | assumption | omega; done)), by omega, hp34⟩) hB ha_)
    | true =>
     rw [hT35] at hk30
     have hthT35 := take_t hT35
     replace hk30 : k29 = k3 + 1 := hk30
     refine Va (dx_not rfl rfl) rfl rfl (Pu rfl (Pu rfl (Va (dx_nilCheck rfl rfl) rfl rfl (Va (dx_fld (o1 := 0) rfl ty_fld_39_0_0 rfl rfl) rfl rfl ?_))))
     refine Ge (dx_cw rfl Tryz.func25 rfl rfl rfl (take_v 117 s P k29 dp W33 _ hL hPL hs (by omega) hp34)) rfl rfl ?_
     rintro _ W44 ⟨⟨k40, rfl, hk41, hk42, hp45⟩, g43⟩
     replace hB := Chg.both hB g43
     replace hL := hL.chg g43
     cases hT46 : takeS s k29 117 with
     | false =>
      rw [hT46] at hk41
      replace hk41 : k29 = k40 := Eq.symm hk41
      subst hk41
      refine Va (dx_not rfl rfl) rfl rfl (Pu rfl (Ni (hK25 (WC.condT rfl (Sq fun K47 hK47 => (Rg (Pu rfl ?_)))))))
      refine Pu rfl (Ni (hK47 ?_))
      exact WC.ret fun a_ ha_ => hQ (cw_ret2 rfl (.tmp rfl) (.tmp rfl) (.inr ⟨k29, rfl, (by first | exact escR_n (by assumption) | (apply escR_b <;> first | assumption | omega; done) | (apply escR_b' <;> first | assumption | omega; done) | (apply escR_c <;> first | assumption | omega; done) | (apply escR_d <;> first | assumption | omega; done)), by omega, hp45⟩) hB ha_)
     | true =>
      rw [hT46] at hk41
      have hthT46 := take_t hT46
      replace hk41 : k40 = k29 + 1 := hk41
      refine Va (dx_not rfl rfl) rfl rfl (Pu rfl (Ni (hK25 (WC.condF rfl (WC.skip (hK24 (Sq fun K48 hK48 => ?_)))))))
      refine Rg (Pu rfl ?_)
      refine Ge (dx_cw rfl Tryz.func80 rfl rfl rfl (four_v s P k40 dp W44 _ hL hPL hs (by omega) hp45)) rfl rfl ?_
      rintro _ W60 ⟨(⟨k49, r50, rfl, hf51, hf52, hf53, hf54, hf55, hp61⟩ | ⟨k58, rfl, hf56, hf57, hp61⟩), g59⟩
      ·
       replace hB := Chg.both hB g59
       refine Pu rfl (Pu rfl (Pu rfl (Pu rfl (Pu rfl (Ni (hK48 (Sq fun K62 hK62 => ?_)))))))
       refine Sq fun K63 hK63 => (Rg (Pu rfl (Va (dx_not rfl rfl) rfl rfl (Pu rfl (Pu rfl (Va (dx_lss rfl rfl rfl) rfl rfl (Pu rfl ?_)))))))
       refine Pu rfl ?_
       refine WL.split 44 rfl (fun g64 => ?_) (fun g64 => ?_)
       ·
        replace g64 := dT g64
        refine Of rfl (Of rfl (Pu rfl (Ni (hK63 (WC.condT rfl (Sq fun K65 hK65 => (Rg ?_)))))))
        refine Pu rfl (Pu rfl (Ni (hK65 ?_)))
        exact WC.ret fun a_ ha_ => hQ (cw_ret2 rfl (.tmp rfl) (.tmp rfl) (.inr ⟨k49, rfl, (by first | exact escR_n (by assumption) | (apply escR_b <;> first | assumption | omega; done) | (apply escR_b' <;> first | assumption | omega; done) | (apply escR_c <;> first | assumption | omega; done) | (apply escR_d <;> first | assumption | omega; done)), by omega, hp61⟩) hB ha_)
       ·
        replace g64 := dF g64
        refine Pu rfl (Va (dx_gtr rfl rfl rfl) rfl rfl (Pu rfl (Ni (hK63 ?_))))
        refine WC.cond rfl (fun c66 => ?_) (fun c66 => ?_)
        ·
         replace c66 := dT c66
         refine Sq fun K67 hK67 => (Rg (Pu rfl (Pu rfl (Ni (hK67 ?_)))))
         exact WC.ret fun a_ ha_ => hQ (cw_ret2 rfl (.tmp rfl) (.tmp rfl) (.inr ⟨k49, rfl, (by first | exact escR_n (by assumption) | (apply escR_b <;> first | assumption | omega; done) | (apply escR_b' <;> first | assumption | omega; done) | (apply escR_c <;> first | assumption | omega; done) | (apply escR_d <;> first | assumption | omega; done)), by omega, hp61⟩) hB ha_)
        ·
         replace c66 := dF c66
         refine WC.skip (hK62 (Sq fun K68 hK68 => (Rg (Pu rfl (Va (dx_sub (r := r4 - 55296) rfl rfl rfl (wrap32_id (by omega))) rfl rfl (Va (dx_shl (r := (r4 - 55296) * 1024) rfl rfl rfl (by decide) (by decide) (by rw [show (2 : Int) ^ (10 : Int).toNat = 1024 from by decide]; exact wrap32_id (by omega))) rfl rfl (Va (dx_add (r := 65536 + ((r4 - 55296) * 1024)) rfl rfl rfl (wrap32_id (by omega))) rfl rfl ?_)))))))
         refine Pu rfl (Va (dx_sub (r := r50 - 56320) rfl rfl rfl (wrap32_id (by omega))) rfl rfl (Va (dx_add (r := (65536 + ((r4 - 55296) * 1024)) + (r50 - 56320)) rfl rfl rfl (wrap32_id (by omega))) rfl rfl (Pu rfl (Pu rfl (Ni (hK68 ?_))))))
         exact WC.ret fun a_ ha_ => hQ (cw_ret2 rfl (.tmp rfl) (.tmp rfl) (.inl ⟨k49, _, rfl, (by first | (apply escR_a <;> first | assumption | omega; done) | (apply escR_e <;> first | assumption | omega; done)), by omega, by omega, by omega, by omega, hp61⟩) hB ha_)
      ·
       replace hB := Chg.both hB g59
       refine Pu rfl (Pu rfl (Pu rfl (Pu rfl (Pu rfl (Ni (hK48 (Sq fun K69 hK69 => ?_)))))))
       refine Sq fun K70 hK70 => (Rg (Pu rfl (Va (dx_not rfl rfl) rfl rfl (Pu rfl (Of rfl (Of rfl (Pu rfl ?_)))))))
       refine Pu rfl (Of rfl (Of rfl (Pu rfl (Ni (hK70 (WC.condT rfl (Sq fun K71 hK71 => ?_)))))))
       refine Rg (Pu rfl (Pu rfl (Ni (hK71 ?_))))
       exact WC.ret fun a_ ha_ => hQ (cw_ret2 rfl (.tmp rfl) (.tmp rfl) (.inr ⟨k58, rfl, (by first | exact escR_n (by assumption) | (apply escR_b <;> first | assumption | omega; done) | (apply escR_b' <;> first | assumption | omega; done) | (apply escR_c <;> first | assumption | omega; done) | (apply escR_d <;> first | assumption | omega; done)), by omega, hp61⟩) hB ha_)
 ·
  replace hB := Chg.both hB g13
  refine Pu rfl (Pu rfl (Pu rfl (Pu rfl (Pu rfl (Ni (hK2 (Sq fun K72 hK72 => ?_)))))))
  refine Sq fun K73 hK73 => (Rg (Pu rfl (Va (dx_not rfl rfl) rfl rfl (Ni (hK73 (WC.condT rfl (Sq fun K74 hK74 => ?_)))))))
  refine Rg (Pu rfl (Pu rfl (Ni (hK74 ?_))))
  exact WC.ret fun a_ ha_ => hQ (cw_ret2 rfl (.tmp rfl) (.tmp rfl) (.inr ⟨k12, rfl, (by first | exact escR_n (by assumption) | (apply escR_b <;> first | assumption | omega; done) | (apply escR_b' <;> first | assumption | omega; done) | (apply escR_c <;> first | assumption | omega; done) | (apply escR_d <;> first | assumption | omega; done)), by omega, hp15⟩) hB ha_)

section
variable {s : ByteArray} {k k1 k2 : Nat} {r c : Int}
theorem isRune_in (h : isRuneB r = true) : 0 ≤ r ∧ r ≤ 1114111 := isRune_range h
theorem escB_n (t : takeS s k 117 = true) (e : k1 = k + 1) (h : escR s k1 = none) : escB s k = none := by subst e; unfold escB; rw [t, if_pos rfl, h]
theorem escB_x (t : takeS s k 117 = true) (e : k1 = k + 1) (h : escR s k1 = some (r, k2)) (hr : isRuneB r = false) : escB s k = none := by subst e; unfold escB; rw [t, if_pos rfl, h]; dsimp only; rw [hr]; rfl
theorem escB_r (t : takeS s k 117 = true) (e : k1 = k + 1) (h : escR s k1 = some (r, k2)) (hr : isRuneB r = true) : escB s k = some (encI r, k2) := by subst e; unfold escB; rw [t, if_pos rfl, h]; dsimp only; rw [hr]; rfl
theorem escB_e (t : takeS s k 117 = false) (h : ¬ k < s.size) : escB s k = none := by unfold escB; rw [t, if_neg (by decide), if_neg h]
theorem take_c (h : k < s.size → c = atS s k) (t : takeS s k c = false) : ¬ k < s.size := fun hk => absurd (h hk).symm (take_f t hk)
theorem escB_g (t : takeS s k 117 = false) (h : k < s.size) (hc : atS s k = c) : escB s k = (if c = 34 ∨ c = 92 ∨ c = 47 then some ([c], k + 1) else if c = 98 then some ([8], k + 1) else if c = 102 then some ([12], k + 1) else if c = 110 then some ([10], k + 1) else if c = 114 then some ([13], k + 1) else if c = 116 then some ([9], k + 1) else none) := by
 subst hc; unfold escB; rw [t, if_neg (by decide), if_pos h]
theorem bytes_one {z : Int} (h : 0 ≤ z ∧ z ≤ 255) : Bytes [z] := fun x hx => by obtain rfl := List.mem_singleton.1 hx; exact h
end
set_option maxHeartbeats 1000000 in
theorem escape_v  (s : ByteArray) (P ka dp : Nat) (w : World) (L : List Nat) (hL : LL L w) (hPL : P ∈ L) (hs : s.size ≤ 1000000) (hk : ka ≤ s.size) (hp : Blk w P (psC s ka dp))   : CW Tryz.prog 52 [.pointer (some ⟨P, 0, none⟩)] w P fun v W => (∃ k' l x, v = .tuple #[x, .int .i64 0] ∧ escB s ka = some (l, k') ∧ Bytes l ∧ ka + l.length ≤ k' ∧ k' ≤ s.size ∧ NewW 1 w.heap.size (l.map e8) x W ∧ Blk W P (psC s k' dp)) ∨ (∃ k', v = .tuple #[.slice none 0 0, .int .i64 2] ∧ escB s ka = none ∧ k' ≤ s.size ∧ Blk W P (psC s k' dp)) := by
 refine cw_enter (N := 56) (f := [(0, .pointer (some ⟨P, 0, none⟩))]) Tryz.func52 rfl rfl rfl rfl fun Q hQ hE => ?_
 have hB := Chg.refl P w
 have hL0 := hL
 refine Sq fun K1 hK1 => (Rg (Pu rfl (Pu rfl (Ni (hK1 (Sq fun K2 hK2 => (Rg ?_)))))))
 refine Pu rfl (Va (dx_nilCheck rfl rfl) rfl rfl (Va (dx_fld (o1 := 0) rfl ty_fld_39_0_0 rfl rfl) rfl rfl ?_))
 refine Ge (dx_cv rfl Tryz.func26 rfl rfl rfl (peek_c s P ka dp w _ hL hPL hs (by omega) hp)) rfl rfl ?_
 rintro _ W19 ⟨⟨c13, rfl, hc14, hc15, hc16, hc17⟩, b18⟩
 replace hp := hp.below b18
 replace hB := Chg.thenB hB b18
 replace hL := LL.below hL b18
 refine Pu rfl (Ni (hK2 (Sq fun K20 hK20 => (Sq fun K21 hK21 => (Rg (Pu rfl (Va (dx_nilCheck rfl rfl) rfl rfl ?_)))))))
 refine Va (dx_fld (o1 := 0) rfl ty_fld_39_0_0 rfl rfl) rfl rfl ?_
 refine Ge (dx_cw rfl Tryz.func25 rfl rfl rfl (take_v 117 s P ka dp W19 _ hL hPL hs (by omega) hp)) rfl rfl ?_
 rintro _ W29 ⟨⟨k25, rfl, hk26, hk27, hp30⟩, g28⟩
 replace hB := Chg.both hB g28
 replace hL := hL.chg g28
 cases hT31 : takeS s ka 117 with
 | false =>
  rw [hT31] at hk26
  replace hk26 : ka = k25 := Eq.symm hk26
  subst hk26
  refine Ni (hK21 (WC.condF rfl (WC.skip (hK20 (Sq fun K32 hK32 => (Sq fun K33 hK33 => (Rg ?_)))))))
  refine Pu rfl (Va (dx_nilCheck rfl rfl) rfl rfl (Va (dx_fld (o1 := 0) rfl ty_fld_39_0_0 rfl rfl) rfl rfl (Pu rfl ?_)))
  refine Ge (dx_cw rfl Tryz.func25 rfl rfl rfl (take_v c13 s P ka dp W29 _ hL hPL hs (by omega) hp30)) rfl rfl ?_
  rintro _ W41 ⟨⟨k37, rfl, hk38, hk39, hp42⟩, g40⟩
  replace hB := Chg.both hB g40
  cases hT43 : takeS s ka c13 with
  | false =>
   rw [hT43] at hk38
   replace hk38 : ka = k37 := Eq.symm hk38
   subst hk38
   refine Va (dx_not rfl rfl) rfl rfl (Ni (hK33 (WC.condT rfl (Sq fun K44 hK44 => (Rg (Pu rfl (Pu rfl ?_)))))))
   refine Ni (hK44 ?_)
   exact WC.ret fun a_ ha_ => hQ (cw_ret2 rfl (.tmp rfl) (.tmp rfl) (.inr ⟨ka, rfl, (by first | (apply escB_n <;> first | assumption | omega; done) | (apply escB_x <;> first | assumption | omega; done) | (refine escB_e (by assumption) (take_c (c := c13) (by assumption) (by assumption)); done) | (rw [escB_g (c := c13) (by assumption) (by omega) (by omega)]; repeat' split; all_goals first | rfl | omega)), by omega, hp42⟩) hB ha_)
  | true =>
   rw [hT43] at hk38
   have hthT43 := take_t hT43
   replace hk38 : k37 = ka + 1 := hk38
   refine Va (dx_not rfl rfl) rfl rfl (Ni (hK33 (WC.condF rfl (WC.skip (hK32 (Sq fun K45 hK45 => (Sq fun K46 hK46 => ?_)))))))
   refine Rg (Pu rfl (Ni (hK46 (WC.block (Sq fun K47 hK47 => ?_)))))
   have hJ10 : ∀ (b_ : Bool) (f_ : Fl), b_ = (decide (c13 = 34) || (decide (c13 = 92) || decide (c13 = 47))) → Sub [(0, .pointer (some ⟨P, 0, none⟩)), (2, .slice none 0 0), (3, .int .i64 0), (7, .pointer (some ⟨P, 0, none⟩)), (8, .pointer (some ⟨P, 0, none⟩)), (9, .pointer (some ⟨P, 0, none⟩)), (10, .int .u8 c13), (4, .int .u8 c13), (11, .pointer (some ⟨P, 0, none⟩)), (12, .pointer (some ⟨P, 0, none⟩)), (13, .pointer (some ⟨P, 0, none⟩)), (14, .bool false), (28, .pointer (some ⟨P, 0, none⟩)), (29, .pointer (some ⟨P, 0, none⟩)), (30, .pointer (some ⟨P, 0, none⟩)), (31, .int .u8 c13), (32, .bool true), (33, .bool false), (34, .int .u8 c13), (35, .bool b_)] f_ → ∀ a, Fr 56 a f_ → K47 a W41 := by
    intro b_ f_ hb_ hs_
    have hb3 := hb_
    refine hK47 (WC.sub hs_ ?_)
    refine WC.cond rfl (fun c48 => ?_) (fun c48 => ?_)
    ·
     refine Sq fun K49 hK49 => ?_
     have h3_ : c13 = 34 ∨ c13 = 92 ∨ c13 = 47 := by have q_ := hb3.symm.trans (show b_ = true by assumption); simpa using q_
     refine Rg (Pu rfl ?_)
     refine Ge (dx_lit1 (r := [.int .u8 c13]) rfl ty_ap_34 (by decide) (by decide) rfl rfl rfl) rfl rfl ?_
     rintro u54 W50 ⟨k51, b52, z53⟩
     have l56 := hB.size
     replace hp42 := hp42.below b52
     replace hB := Chg.thenB hB b52
     refine Pu rfl (Pu rfl (Ni (hK49 ?_)))
     exact WC.ret fun a_ ha_ => hQ (cw_ret2 rfl (.tmp rfl) (.tmp rfl) (.inl ⟨k37, [c13], _, rfl, (by rw [escB_g (c := c13) (by assumption) (by omega) (by omega)]; repeat' split; all_goals first | omega | (congr 2 <;> first | omega | (congr 1; done); done)), bytes_one (by omega), (by show ka + 1 ≤ _; omega), by omega, .of_own k51 l56, hp42⟩) hB ha_)
    ·
     replace c48 := bvar_f c48
     refine Sq fun K57 hK57 => ?_
     have h3_ : ¬ (c13 = 34 ∨ c13 = 92 ∨ c13 = 47) := by have q_ := hb3.symm.trans (show b_ = false by first | assumption | exact Bool.eq_false_iff.2 (by assumption)); simpa using q_
     refine Rg (Va (dx_eql rfl rfl rfl) rfl rfl (Pu rfl (Ni (hK57 ?_))))
     refine WC.cond rfl (fun c58 => ?_) (fun c58 => ?_)
     ·
      replace c58 := dT c58
      refine Sq fun K59 hK59 => (Rg ?_)
      refine Ge (dx_lit1 (r := [.int .u8 8]) rfl ty_ap_34 (by decide) (by decide) rfl rfl rfl) rfl rfl ?_
      rintro u64 W60 ⟨k61, b62, z63⟩
      have l66 := hB.size
      replace hp42 := hp42.below b62
      replace hB := Chg.thenB hB b62
      refine Pu rfl (Pu rfl (Ni (hK59 ?_)))
      exact WC.ret fun a_ ha_ => hQ (cw_ret2 rfl (.tmp rfl) (.tmp rfl) (.inl ⟨k37, [8], _, rfl, (by rw [escB_g (c := c13) (by assumption) (by omega) (by omega)]; repeat' split; all_goals first | omega | (congr 2 <;> first | omega | (congr 1; done); done)), bytes_one (by omega), (by show ka + 1 ≤ _; omega), by omega, .of_own k61 l66, hp42⟩) hB ha_)
     ·
      replace c58 := dF c58
      refine Sq fun K67 hK67 => (Rg (Va (dx_eql rfl rfl rfl) rfl rfl (Pu rfl (Ni (hK67 ?_)))))
      refine WC.cond rfl (fun c68 => ?_) (fun c68 => ?_)
      ·
       replace c68 := dT c68
       refine Sq fun K69 hK69 => (Rg ?_)
       refine Ge (dx_lit1 (r := [.int .u8 12]) rfl ty_ap_34 (by decide) (by decide) rfl rfl rfl) rfl rfl ?_
       rintro u74 W70 ⟨k71, b72, z73⟩
       have l76 := hB.size
       replace hp42 := hp42.below b72
       replace hB := Chg.thenB hB b72
       refine Pu rfl (Pu rfl (Ni (hK69 ?_)))
       exact WC.ret fun a_ ha_ => hQ (cw_ret2 rfl (.tmp rfl) (.tmp rfl) (.inl ⟨k37, [12], _, rfl, (by rw [escB_g (c := c13) (by assumption) (by omega) (by omega)]; repeat' split; all_goals first | omega | (congr 2 <;> first | omega | (congr 1; done); done)), bytes_one (by omega), (by show ka + 1 ≤ _; omega), by omega, .of_own k71 l76, hp42⟩) hB ha_)
      ·
       replace c68 := dF c68
       refine Sq fun K77 hK77 => (Rg (Va (dx_eql rfl rfl rfl) rfl rfl (Pu rfl (Ni (hK77 ?_)))))
       refine WC.cond rfl (fun c78 => ?_) (fun c78 => ?_)
       ·
        replace c78 := dT c78
        refine Sq fun K79 hK79 => (Rg ?_)
        refine Ge (dx_lit1 (r := [.int .u8 10]) rfl ty_ap_34 (by decide) (by decide) rfl rfl rfl) rfl rfl ?_
        rintro u84 W80 ⟨k81, b82, z83⟩
        have l86 := hB.size
        replace hp42 := hp42.below b82
        replace hB := Chg.thenB hB b82
        refine Pu rfl (Pu rfl (Ni (hK79 ?_)))
        exact WC.ret fun a_ ha_ => hQ (cw_ret2 rfl (.tmp rfl) (.tmp rfl) (.inl ⟨k37, [10], _, rfl, (by rw [escB_g (c := c13) (by assumption) (by omega) (by omega)]; repeat' split; all_goals first | omega | (congr 2 <;> first | omega | (congr 1; done); done)), bytes_one (by omega), (by show ka + 1 ≤ _; omega), by omega, .of_own k81 l86, hp42⟩) hB ha_)
       ·
        replace c78 := dF c78
        refine Sq fun K87 hK87 => (Rg (Va (dx_eql rfl rfl rfl) rfl rfl (Pu rfl (Ni (hK87 ?_)))))
        refine WC.cond rfl (fun c88 => ?_) (fun c88 => ?_)
        ·
         replace c88 := dT c88
         refine Sq fun K89 hK89 => (Rg ?_)
         refine Ge (dx_lit1 (r := [.int .u8 13]) rfl ty_ap_34 (by decide) (by decide) rfl rfl rfl) rfl rfl ?_
         rintro u94 W90 ⟨k91, b92, z93⟩
         have l96 := hB.size
         replace hp42 := hp42.below b92
         replace hB := Chg.thenB hB b92
         refine Pu rfl (Pu rfl (Ni (hK89 ?_)))
         exact WC.ret fun a_ ha_ => hQ (cw_ret2 rfl (.tmp rfl) (.tmp rfl) (.inl ⟨k37, [13], _, rfl, (by rw [escB_g (c := c13) (by assumption) (by omega) (by omega)]; repeat' split; all_goals first | omega | (congr 2 <;> first | omega | (congr 1; done); done)), bytes_one (by omega), (by show ka + 1 ≤ _; omega), by omega, .of_own k91 l96, hp42⟩) hB ha_)
        ·
         replace c88 := dF c88
         refine Sq fun K97 hK97 => (Rg (Va (dx_eql rfl rfl rfl) rfl rfl (Pu rfl (Ni (hK97 ?_)))))
         refine WC.cond rfl (fun c98 => ?_) (fun c98 => ?_)
         ·
          replace c98 := dT c98
          refine Sq fun K99 hK99 => (Rg ?_)
          refine Ge (dx_lit1 (r := [.int .u8 9]) rfl ty_ap_34 (by decide) (by decide) rfl rfl rfl) rfl rfl ?_
          rintro u104 W100 ⟨k101, b102, z103⟩
          have l106 := hB.size
          replace hp42 := hp42.below b102
          replace hB := Chg.thenB hB b102
          refine Pu rfl (Pu rfl (Ni (hK99 ?_)))
          exact WC.ret fun a_ ha_ => hQ (cw_ret2 rfl (.tmp rfl) (.tmp rfl) (.inl ⟨k37, [9], _, rfl, (by rw [escB_g (c := c13) (by assumption) (by omega) (by omega)]; repeat' split; all_goals first | omega | (congr 2 <;> first | omega | (congr 1; done); done)), bytes_one (by omega), (by show ka + 1 ≤ _; omega), by omega, .of_own k101 l106, hp42⟩) hB ha_)
         ·
          replace c98 := dF c98
          refine WC.skip (hK45 (Sq fun K107 hK107 => (Rg (Pu rfl (Pu rfl (Ni (hK107 ?_)))))))
          exact WC.ret fun a_ ha_ => hQ (cw_ret2 rfl (.tmp rfl) (.tmp rfl) (.inr ⟨k37, rfl, (by first | (apply escB_n <;> first | assumption | omega; done) | (apply escB_x <;> first | assumption | omega; done) | (refine escB_e (by assumption) (take_c (c := c13) (by assumption) (by assumption)); done) | (rw [escB_g (c := c13) (by assumption) (by omega) (by omega)]; repeat' split; all_goals first | rfl | omega)), by omega, hp42⟩) hB ha_)
   refine Sq fun K108 hK108 => (Rg (Va (dx_eql rfl rfl rfl) rfl rfl (Pu rfl (Ni (hK108 ?_)))))
   refine WC.cond rfl (fun c109 => ?_) (fun c109 => ?_)
   ·
    replace c109 := dT c109
    refine WC.skip ?_
    exact hJ10 (decide (c13 = 34)) _ (by rw [Bool.eq_iff_iff]; simp only [Bool.or_eq_true, decide_eq_true_eq, eq_self, true_iff, iff_true, Bool.false_eq_true, false_iff]; omega) (by repeat first | exact trivial | refine aR ?_)
   ·
    replace c109 := dF c109
    refine Sq fun K110 hK110 => (Rg (Va (dx_eql rfl rfl rfl) rfl rfl (Pu rfl (Ni (hK110 ?_)))))
    refine WC.cond rfl (fun c111 => ?_) (fun c111 => ?_)
    ·
     replace c111 := dT c111
     refine WC.skip ?_
     exact hJ10 (decide (c13 = 92)) _ (by rw [Bool.eq_iff_iff]; simp only [Bool.or_eq_true, decide_eq_true_eq, eq_self, true_iff, iff_true, Bool.false_eq_true, false_iff]; omega) (by repeat first | exact trivial | refine aR ?_)
    ·
     replace c111 := dF c111
     refine Rg (Va (dx_eql rfl rfl rfl) rfl rfl (Pu rfl (Ni ?_)))
     exact hJ10 (decide (c13 = 47)) _ (by rw [Bool.eq_iff_iff]; simp only [Bool.or_eq_true, decide_eq_true_eq, eq_self, true_iff, iff_true, Bool.false_eq_true, false_iff]; omega) (by repeat first | exact trivial | refine aR ?_)
 | true =>
  rw [hT31] at hk26
  have hthT31 := take_t hT31
  replace hk26 : k25 = ka + 1 := hk26
  refine Ni (hK21 (WC.condT rfl (Sq fun K112 hK112 => (Rg (Pu rfl ?_)))))
  refine Ge (dx_cw rfl Tryz.func69 rfl rfl rfl (escRune_v s P k25 dp W29 _ hL hPL hs (by omega) hp30)) rfl rfl ?_
  rintro _ W124 ⟨(⟨k113, r114, rfl, hf115, hf116, hf117, hf118, hf119, hp125⟩ | ⟨k122, rfl, hf120, hf121, hp125⟩), g123⟩
  ·
   replace hB := Chg.both hB g123
   refine Pu rfl (Pu rfl (Pu rfl (Pu rfl (Pu rfl (Ni (hK112 (Sq fun K126 hK126 => ?_)))))))
   refine Sq fun K127 hK127 => (Rg (Pu rfl (Va (dx_neq rfl rfl rfl) rfl rfl (Ni (hK127 (WC.condF rfl (WC.skip ?_)))))))
   refine hK126 (Sq fun K128 hK128 => (Rg (Pu rfl ?_)))
   refine Ge (dx_lit1 (r := [.int .i32 r114]) rfl ty_ap_73 (by decide) (by decide) rfl rfl rfl) rfl rfl ?_
   rintro u133 W129 ⟨k130, b131, z132⟩
   have l135 := hB.size
   replace hp125 := hp125.below b131
   replace hB := Chg.thenB hB b131
   have hsz := hB.size
   refine Ge (dx_cv rfl Tryz.func70 rfl rfl rfl (encode_cv u133 r114 W129 (rdI32_of (k130.rd (L := []) (by simp))))) rfl rfl ?_
   rintro _ W140 ⟨(⟨x136, rfl, hr137, hN138⟩ | ⟨rfl, hr137⟩), g139⟩
   ·
    replace hp125 := hp125.below g139
    replace hB := Chg.thenB hB g139
    refine Pu rfl (Pu rfl (Pu rfl (Pu rfl (Ni (hK128 ?_)))))
    exact WC.ret fun a_ ha_ => hQ (cw_ret2 rfl (.tmp rfl) (.tmp rfl) (.inl ⟨k113, encI r114, _, rfl, (by apply escB_r <;> first | assumption | omega), encI_bytes (isRune_in hr137).1 (isRune_in hr137).2, (by have := encI_len r114; omega), by omega, hN138.le hsz, hp125⟩) hB ha_)
   ·
    replace hp125 := hp125.below g139
    replace hB := Chg.thenB hB g139
    refine Pu rfl (Pu rfl (Pu rfl (Pu rfl (Ni (hK128 ?_)))))
    exact WC.ret fun a_ ha_ => hQ (cw_ret2 rfl (.tmp rfl) (.tmp rfl) (.inr ⟨k113, rfl, (by first | (apply escB_n <;> first | assumption | omega; done) | (apply escB_x <;> first | assumption | omega; done) | (refine escB_e (by assumption) (take_c (c := c13) (by assumption) (by assumption)); done) | (rw [escB_g (c := c13) (by assumption) (by omega) (by omega)]; repeat' split; all_goals first | rfl | omega)), by omega, hp125⟩) hB ha_)
  ·
   replace hB := Chg.both hB g123
   refine Pu rfl (Pu rfl (Pu rfl (Pu rfl (Pu rfl (Ni (hK112 (Sq fun K142 hK142 => ?_)))))))
   refine Sq fun K143 hK143 => (Rg (Pu rfl (Va (dx_neq rfl rfl rfl) rfl rfl (Ni (hK143 (WC.condT rfl (Sq fun K144 hK144 => ?_)))))))
   refine Rg (Pu rfl (Pu rfl (Pu rfl (Ni (hK144 ?_)))))
   exact WC.ret fun a_ ha_ => hQ (cw_ret2 rfl (.tmp rfl) (.tmp rfl) (.inr ⟨k122, rfl, (by first | (apply escB_n <;> first | assumption | omega; done) | (apply escB_x <;> first | assumption | omega; done) | (refine escB_e (by assumption) (take_c (c := c13) (by assumption) (by assumption)); done) | (rw [escB_g (c := c13) (by assumption) (by omega) (by omega)]; repeat' split; all_goals first | rfl | omega)), by omega, hp125⟩) hB ha_)

def qN (s : ByteArray) : Nat → Nat → List Int → Option (List Int × Nat)
 | 0, _, _ => none
 | n + 1, k, out => if k < s.size then
   (if atS s k < 32 then none else if atS s k = 34 then some (out, k + 1) else if atS s k = 92 then
    match escB s (k + 1) with
    | none => none
    | some (l, k') => qN s n k' (out ++ l)
   else qN s n (k + 1) (out ++ [atS s k]))
  else none
def quoS (s : ByteArray) (k : Nat) : Option (List Int × Nat) := qN s (s.size + 1) (k + 1) []
section
variable {s : ByteArray} {n k k1 k2 : Nat} {out l : List Int} {c : Int}
theorem qN_end (h : ¬ k < s.size) : qN s (n + 1) k out = none := by rw [qN, if_neg h]
theorem qN_lo (h : k < s.size) (hc : c = atS s k) (h1 : c < 32) : qN s (n + 1) k out = none := by subst hc; rw [qN, if_pos h, if_pos h1]
theorem qN_q (h : k < s.size) (hc : c = atS s k) (h1 : ¬ c < 32) (h2 : c = 34) (e : k1 = k + 1) : qN s (n + 1) k out = some (out, k1) := by subst hc e; rw [qN, if_pos h, if_neg h1, if_pos h2]
theorem qN_e0 (h : k < s.size) (hc : c = atS s k) (h1 : ¬ c < 32) (h2 : ¬ c = 34) (h3 : c = 92) (e : k1 = k + 1) (he : escB s k1 = none) : qN s (n + 1) k out = none := by subst hc e; rw [qN, if_pos h, if_neg h1, if_neg h2, if_pos h3, he]
theorem qN_e1 (h : k < s.size) (hc : c = atS s k) (h1 : ¬ c < 32) (h2 : ¬ c = 34) (h3 : c = 92) (e : k1 = k + 1) (he : escB s k1 = some (l, k2)) : qN s (n + 1) k out = qN s n k2 (out ++ l) := by subst hc e; rw [qN, if_pos h, if_neg h1, if_neg h2, if_pos h3, he]
theorem qN_d (h : k < s.size) (hc : c = atS s k) (h1 : ¬ c < 32) (h2 : ¬ c = 34) (h3 : ¬ c = 92) (e : k1 = k + 1) : qN s (n + 1) k out = qN s n k1 (out ++ [c]) := by subst hc e; rw [qN, if_pos h, if_neg h1, if_neg h2, if_neg h3]
theorem take_of (h : k < s.size) (hc : c = atS s k) : takeS s k c = true := by unfold takeS; rw [decide_eq_true h, decide_eq_true hc.symm]; rfl
end
theorem take_y (c : Int) (s : ByteArray) (P ka dp : Nat) (w : World) (L : List Nat) (hL : LL L w) (hPL : P ∈ L) (hs : s.size ≤ 1000000) (hk : ka ≤ s.size) (hp : Blk w P (psC s ka dp)) (hq : takeS s ka c = true) :
  CW Tryz.prog 25 [.pointer (some ⟨P, 0, none⟩), .int .u8 c] w P fun v W => ∃ k', v = .bool true ∧ k' = ka + 1 ∧ k' ≤ s.size ∧ Blk W P (psC s k' dp) :=
 Calls.mono (take_v c s P ka dp w L hL hPL hs hk hp) fun e w' h => by
  obtain ⟨v, he, ⟨k', h1, h2, h3⟩, h4⟩ := h
  rw [hq] at h1 h2
  exact ⟨v, he, ⟨k', h1, h2, h3⟩, h4⟩
def NwP (P base : Nat) (l : List Int) (u : Value) (w : World) : Prop := P < base ∧ NewW 1 base (l.map e8) u w
theorem NwP.below {P base : Nat} {l : List Int} {u : Value} {w w' : World} (h : NwP P base l u w) (hb : Below w.heap.size w w') : NwP P base l u w' := ⟨h.1, h.2.below hb⟩
theorem NwP.chgL {P base : Nat} {l : List Int} {u : Value} {w w' : World} (h : NwP P base l u w) (g : Chg P w w') {L : List Nat} (_ : P ∈ L) : NwP P base l u w' := ⟨h.1, h.2.chg g h.1⟩
theorem fold_push (ns : List Int) : ∀ s : ByteArray, (ns.foldl (fun r n => r.push (UInt8.ofNat n.toNat)) s).data.toList = s.data.toList ++ ns.map fun n => UInt8.ofNat n.toNat := by
 induction ns with
 | nil => intro s; simp
 | cons n ns ih => intro s; rw [List.foldl_cons, ih]; simp
theorem fold_strOf (ns : List Int) : ns.foldl (fun r n => r.push (UInt8.ofNat n.toNat)) ByteArray.empty = strOfNums ns := by
 have h := fold_push ns ByteArray.empty
 generalize ns.foldl (fun r n => r.push (UInt8.ofNat n.toNat)) ByteArray.empty = x at h
 cases x with
 | mk d =>
  unfold strOfNums
  congr 1
  apply Array.toList_inj.1
  exact h
section
variable {P : Program} {ops : Array Oper} {o : Oper} {N : Nat} {f : Fl} {w : World}
theorem dx_bs {t d e : TypeId} {x : Operand} {u : Value} {l : List Int} {L : List Nat} (ho : o.op = .convert t d x) (hs : P.underlying t = some (.slice e)) (hd : P.underlying d = some .string) (he : P.underlying e = some (.int .u8)) (hx : ev f x = some u) (h : RdF 1 L w u (l.map e8)) (hw : wantF ops o f = some true := by rfl) : DV P ops o N f w (.string (strOfNums l)) := fun a ha => by
 obtain ⟨_, _, A, cap, rfl, h2, h3, h4, h5⟩ := h
 have hx := ha.ev hx
 have hc : (Conv.bytesToString (.slice A (l.map e8).length cap)).run P w = .ok (.string (strOfNums l)) w := by
  cases hl : l with
  | nil =>
   cases A with
   | none => unfold Conv.bytesToString; simp [Sem.run_pure]; rfl
   | some q =>
    have := run_bytesToString (P := P) w q 0 cap [] (run_loadCells_list w q [] (fun j v hj => by cases hj))
    exact this
  | cons z t =>
   obtain ⟨X, q, rfl, _, hr⟩ := h5 (by rw [hl]; exact List.cons_ne_nil _ _)
   rw [← hl, List.length_map]
   have hq := run_loadCells_list (P := P) w ⟨X, q, none⟩ (l.map (Value.int .u8)) (fun j v hj => by have := hr j v (by rw [show (l.map e8).flatten = l.map (Value.int .u8) from flat_one l]; exact hj); simp only [Addr.add]; split; (rename_i h0; subst h0; exact this); exact this)
   rw [List.length_map] at hq
   rw [run_bytesToString w ⟨X, q, none⟩ l.length cap l hq, fold_strOf]
 exact Does.pure (wantF_of ha hw) _ (by unfold execOp; simp only [ho, hx, Sem.run_bind, Sem.run_pure, run_convert_bytes_string w t d e A _ _ hs he hd, hc, Result.andThen_ok]) ⟨rfl, rfl⟩
end
set_option maxHeartbeats 1000000 in
theorem quoted_v  (s : ByteArray) (P ka dp : Nat) (w : World) (L : List Nat) (hL : LL L w) (hPL : P ∈ L) (hs : s.size ≤ 1000000) (hk : ka ≤ s.size) (hp : Blk w P (psC s ka dp))  (hq : takeS s ka 34 = true) : CW Tryz.prog 29 [.pointer (some ⟨P, 0, none⟩)] w P fun v W => (∃ k' l, v = .tuple #[.string (strOfNums l), .int .i64 0] ∧ quoS s ka = some (l, k') ∧ Bytes l ∧ l.length ≤ k' ∧ ka < k' ∧ k' ≤ s.size ∧ Blk W P (psC s k' dp)) ∨ (∃ k', v = .tuple #[.string ⟨#[]⟩, .int .i64 2] ∧ quoS s ka = none ∧ k' ≤ s.size ∧ Blk W P (psC s k' dp)) := by
 refine cw_enter (N := 62) (f := [(0, .pointer (some ⟨P, 0, none⟩))]) Tryz.func29 rfl rfl rfl rfl fun Q hQ hE => ?_
 have hB := Chg.refl P w
 have hL0 := hL
 refine Sq fun K1 hK1 => (Rg (Pu rfl (Pu rfl (Ni (hK1 (Sq fun K2 hK2 => (Rg ?_)))))))
 refine Pu rfl (Va (dx_nilCheck rfl rfl) rfl rfl (Va (dx_fld (o1 := 0) rfl ty_fld_39_0_0 rfl rfl) rfl rfl ?_))
 refine Ge (dx_cw rfl Tryz.func25 rfl rfl rfl (take_y 34 s P ka dp w _ hL hPL hs (by omega) hp hq)) rfl rfl ?_
 rintro _ W10 ⟨⟨k6, rfl, hk7, hk8, hp11⟩, g9⟩
 replace hB := Chg.both hB g9
 replace hL := hL.chg g9
 refine Ni (hK2 (Sq fun K12 hK12 => ?_))
 have hPw : P < w.heap.size := hL0 P hPL
 have h5 : NwP P w.heap.size [] (.slice none 0 0) W10 := ⟨hPw, .inl ⟨rfl, rfl, by decide⟩⟩
 refine Rg (Pu rfl (Ni (hK12 (Sq fun K13 hK13 => (WC.block ?_)))))
 refine WC.loop3 (fun (kb : Nat) (ov : Value) (out : List Int) => [(0, .pointer (some ⟨P, 0, none⟩)), (4, ov)]) (fun (kb : Nat) (ov : Value) (out : List Int) W => kb ≤ s.size ∧ ka < kb ∧ Bytes out ∧ out.length ≤ kb ∧ (∃ n, s.size - kb < n ∧ quoS s ka = qN s n kb out) ∧ Chg P w W ∧ LL (L) W ∧ NwP P w.heap.size out ov W ∧ Blk W P [.string s, .int .i64 (kb : Int), .int .i64 (dp : Int)]) (fun (kb : Nat) (ov : Value) (out : List Int) => s.size - kb) k6 (.slice none 0 0) [] (by repeat first | exact trivial | refine aR ?_ | refine aI (by omega) ?_) ⟨(by omega), (by omega), (fun x hx => by cases hx), (Nat.zero_le _), ⟨s.size + 1, by omega, by rw [hk7]; rfl⟩, hB, hL, h5, hp11⟩ ?_
 clear h5 hp11 hB hL
 rintro K14 kb ov out W15 ⟨hkb, hkk, hB8, hol, hv, hB, hL, h5, hp11⟩ hK14
 refine Sq fun K16 hK16 => (Sq fun K17 hK17 => (Rg (Pu rfl (Va (dx_nilCheck rfl rfl) rfl rfl (Va (dx_fld (o1 := 0) rfl ty_fld_39_0_0 rfl rfl) rfl rfl ?_)))))
 refine Ge (dx_cv rfl Tryz.func14 rfl rfl rfl (ended_v s P kb dp W15 _ hL hPL hs (by omega) hp11)) rfl rfl ?_
 rintro _ W19 ⟨rfl, b18⟩
 replace h5 := h5.below b18
 replace hp11 := hp11.below b18
 replace hB := Chg.thenB hB b18
 replace hL := LL.below hL b18
 refine Va (dx_not rfl rfl) rfl rfl (Ni (hK17 ?_))
 refine WC.cond rfl (fun c20 => ?_) (fun c20 => ?_)
 ·
  replace c20 := bnot_t c20
  replace c20 := dF c20
  refine WC.skip (hK16 (WC.block (Sq fun K21 hK21 => ?_)))
  obtain ⟨n_, hn1, hv⟩ := hv
  obtain ⟨n, rfl⟩ : ∃ m, n_ = m + 1 := ⟨n_ - 1, by omega⟩
  refine Rg (Pu rfl (Va (dx_nilCheck rfl rfl) rfl rfl (Va (dx_fld (o1 := 0) rfl ty_fld_39_0_0 rfl rfl) rfl rfl ?_)))
  refine Ge (dx_cv rfl Tryz.func26 rfl rfl rfl (peek_c s P kb dp W19 _ hL hPL hs (by omega) hp11)) rfl rfl ?_
  rintro _ W38 ⟨⟨c32, rfl, hc33, hc34, hc35, hc36⟩, b37⟩
  replace h5 := h5.below b37
  replace hp11 := hp11.below b37
  replace hB := Chg.thenB hB b37
  replace hL := LL.below hL b37
  refine Pu rfl (Ni (hK21 (WC.block (Sq fun K39 hK39 => (Rg (Pu rfl (Va (dx_lss rfl rfl rfl) rfl rfl ?_)))))))
  refine Pu rfl (Ni (hK39 ?_))
  refine WC.cond rfl (fun c40 => ?_) (fun c40 => ?_)
  ·
   replace c40 := dT c40
   refine Sq fun K41 hK41 => (Rg (Pu rfl (Pu rfl (Ni (hK41 ?_)))))
   exact WC.ret fun a_ ha_ => hQ (cw_ret2 rfl (.tmp rfl) (.tmp rfl) (.inr ⟨kb, rfl, (by first | exact hv.trans (qN_lo (by omega) (hc35 (by omega)) (by omega)) | exact hv.trans (qN_e0 (by omega) (hc35 (by omega)) (by omega) (by omega) (by omega) (by assumption) (by assumption)) | (obtain ⟨n_, hn1, hv⟩ := hv; obtain ⟨n, rfl⟩ : ∃ m, n_ = m + 1 := ⟨n_ - 1, by omega⟩; exact hv.trans (qN_end (by omega)))), by omega, hp11⟩) hB ha_)
  ·
   replace c40 := dF c40
   refine Sq fun K42 hK42 => (Rg (Pu rfl (Va (dx_eql rfl rfl rfl) rfl rfl (Pu rfl (Ni (hK42 ?_))))))
   refine WC.cond rfl (fun c43 => ?_) (fun c43 => ?_)
   ·
    replace c43 := dT c43
    refine Sq fun K44 hK44 => (Rg (Pu rfl (Va (dx_nilCheck rfl rfl) rfl rfl (Va (dx_fld (o1 := 0) rfl ty_fld_39_0_0 rfl rfl) rfl rfl (Pu rfl ?_)))))
    refine Ge (dx_cw rfl Tryz.func25 rfl rfl rfl (take_y c32 s P kb dp W38 _ hL hPL hs (by omega) hp11 (take_of (by omega) (hc35 (by omega))))) rfl rfl ?_
    rintro _ W52 ⟨⟨k48, rfl, hk49, hk50, hp53⟩, g51⟩
    replace h5 := h5.chgL g51 hPL
    replace hB := Chg.both hB g51
    refine Ni (hK44 (Sq fun K54 hK54 => (Rg (Pu rfl (Va (dx_bs (l := out) rfl Tryz.underlying34 Tryz.underlying9 Tryz.underlying5 rfl (h5.2.rd (L := []) (by simp))) rfl rfl (Pu rfl (Pu rfl ?_)))))))
    refine Ni (hK54 ?_)
    exact WC.ret fun a_ ha_ => hQ (cw_ret2 rfl (.tmp rfl) (.tmp rfl) (.inl ⟨k48, out, rfl, hv.trans (qN_q (by omega) (hc35 (by omega)) (by omega) (by omega) (by assumption)), hB8, by omega, by omega, by omega, hp53⟩) hB ha_)
   ·
    replace c43 := dF c43
    refine Sq fun K55 hK55 => (Rg (Pu rfl (Va (dx_eql rfl rfl rfl) rfl rfl (Pu rfl (Ni (hK55 ?_))))))
    refine WC.cond rfl (fun c56 => ?_) (fun c56 => ?_)
    ·
     replace c56 := dT c56
     refine Sq fun K57 hK57 => (Rg (Pu rfl (Va (dx_nilCheck rfl rfl) rfl rfl (Va (dx_fld (o1 := 0) rfl ty_fld_39_0_0 rfl rfl) rfl rfl (Pu rfl ?_)))))
     refine Ge (dx_cw rfl Tryz.func25 rfl rfl rfl (take_y c32 s P kb dp W38 _ hL hPL hs (by omega) hp11 (take_of (by omega) (hc35 (by omega))))) rfl rfl ?_
     rintro _ W65 ⟨⟨k61, rfl, hk62, hk63, hp66⟩, g64⟩
     replace h5 := h5.chgL g64 hPL
     replace hB := Chg.both hB g64
     replace hL := hL.chg g64
     refine Ni (hK57 (Sq fun K67 hK67 => (Rg (Pu rfl ?_))))
     refine Ge (dx_cw rfl Tryz.func52 rfl rfl rfl (escape_v s P k61 dp W65 _ hL hPL hs (by omega) hp66)) rfl rfl ?_
     rintro _ W79 ⟨(⟨k68, l69, x70, rfl, hf71, hf72, hf73, hf74, hf75, hp80⟩ | ⟨k77, rfl, hf71, hf74, hp80⟩), g78⟩
     ·
      replace h5 := h5.chgL g78 hPL
      replace hB := Chg.both hB g78
      replace hL := hL.chg g78
      refine Pu rfl (Pu rfl (Pu rfl (Pu rfl (Pu rfl (Ni (hK67 (Sq fun K81 hK81 => ?_)))))))
      refine Sq fun K82 hK82 => (Rg (Pu rfl (Va (dx_neq rfl rfl rfl) rfl rfl (Ni (hK82 (WC.condF rfl (WC.skip ?_)))))))
      refine hK81 (Rg (Pu rfl (Pu rfl ?_)))
      refine Ge (dx_apW (base := w.heap.size) (news := l69.map e8) rfl ty_ap_34 rfl rfl h5.2 (hf75.rd (L := []) (by simp)) (oc_e8 l69) (by simp [maxLen]; omega) (by simp; omega) hB.size) rfl rfl ?_
      rintro x83 W84 ⟨h6, b85⟩
      replace h5 : NwP P w.heap.size (out ++ l69) x83 W84 := ⟨hPw, by rw [List.map_append]; exact h6⟩
      replace hp80 := hp80.base b85 hPw
      replace hB := hB.thenBase b85
      replace hL := hL.base b85
      refine Pu rfl (Ni ?_)
      exact hK14 k68 x83 (out ++ l69) ⟨(by omega), (by omega), (hB8.append hf72), (by simp; omega), ⟨n, by omega, hv.trans (qN_e1 (by omega) (hc35 (by omega)) (by omega) (by omega) (by omega) (by assumption) hf71)⟩, hB, hL, h5, hp80⟩ (by omega) (by repeat first | exact trivial | refine aR ?_ | refine aI (by omega) ?_)
     ·
      replace hB := Chg.both hB g78
      refine Pu rfl (Pu rfl (Pu rfl (Pu rfl (Pu rfl (Ni (hK67 (Sq fun K86 hK86 => ?_)))))))
      refine Sq fun K87 hK87 => (Rg (Pu rfl (Va (dx_neq rfl rfl rfl) rfl rfl (Ni (hK87 (WC.condT rfl (Sq fun K88 hK88 => ?_)))))))
      refine Rg (Pu rfl (Pu rfl (Pu rfl (Ni (hK88 ?_)))))
      exact WC.ret fun a_ ha_ => hQ (cw_ret2 rfl (.tmp rfl) (.tmp rfl) (.inr ⟨k77, rfl, (by first | exact hv.trans (qN_lo (by omega) (hc35 (by omega)) (by omega)) | exact hv.trans (qN_e0 (by omega) (hc35 (by omega)) (by omega) (by omega) (by omega) (by assumption) (by assumption)) | (obtain ⟨n_, hn1, hv⟩ := hv; obtain ⟨n, rfl⟩ : ∃ m, n_ = m + 1 := ⟨n_ - 1, by omega⟩; exact hv.trans (qN_end (by omega)))), by omega, hp80⟩) hB ha_)
    ·
     replace c56 := dF c56
     refine Sq fun K89 hK89 => (Rg (Pu rfl (Va (dx_nilCheck rfl rfl) rfl rfl (Va (dx_fld (o1 := 0) rfl ty_fld_39_0_0 rfl rfl) rfl rfl (Pu rfl ?_)))))
     refine Ge (dx_cw rfl Tryz.func25 rfl rfl rfl (take_y c32 s P kb dp W38 _ hL hPL hs (by omega) hp11 (take_of (by omega) (hc35 (by omega))))) rfl rfl ?_
     rintro _ W97 ⟨⟨k93, rfl, hk94, hk95, hp98⟩, g96⟩
     replace h5 := h5.chgL g96 hPL
     replace hB := Chg.both hB g96
     replace hL := hL.chg g96
     refine Ni (hK89 (Rg (Pu rfl (Pu rfl ?_))))
     refine Ge (dx_lit1 (r := e8 c32) rfl ty_ap_34 (by decide) (by decide) rfl rfl rfl) rfl rfl ?_
     rintro x99 W100 ⟨k102, b101, z103⟩
     replace h5 := h5.below b101
     replace hp98 := hp98.below b101
     replace hB := Chg.thenB hB b101
     replace hL := LL.below hL b101
     have hx := k102.rd (L := []) (by simp)
     refine Ge (dx_apW (base := w.heap.size) (news := [c32].map e8) rfl ty_ap_34 rfl rfl h5.2 hx (oc_e8 [c32]) (by simp [maxLen]; omega) (by simp; omega) hB.size) rfl rfl ?_
     rintro x104 W105 ⟨h6, b106⟩
     replace h5 : NwP P w.heap.size (out ++ [c32]) x104 W105 := ⟨hPw, by rw [List.map_append]; exact h6⟩
     replace hp98 := hp98.base b106 hPw
     replace hB := hB.thenBase b106
     replace hL := hL.base b106
     refine Pu rfl (Ni ?_)
     exact hK14 k93 x104 (out ++ [c32]) ⟨(by omega), (by omega), (hB8.append (bytes_one (by omega))), (by simp; omega), ⟨n, by omega, hv.trans (qN_d (by omega) (hc35 (by omega)) (by omega) (by omega) (by omega) (by omega))⟩, hB, hL, h5, hp98⟩ (by omega) (by repeat first | exact trivial | refine aR ?_ | refine aI (by omega) ?_)
 ·
  replace c20 := bnot_f c20
  replace c20 := dT c20
  refine WC.exit ?_
  refine hK13 (Sq fun K107 hK107 => (Rg (Pu rfl (Pu rfl (Ni (hK107 ?_))))))
  exact WC.ret fun a_ ha_ => hQ (cw_ret2 rfl (.tmp rfl) (.tmp rfl) (.inr ⟨kb, rfl, (by first | exact hv.trans (qN_lo (by omega) (hc35 (by omega)) (by omega)) | exact hv.trans (qN_e0 (by omega) (hc35 (by omega)) (by omega) (by omega) (by omega) (by assumption) (by assumption)) | (obtain ⟨n_, hn1, hv⟩ := hv; obtain ⟨n, rfl⟩ : ∃ m, n_ = m + 1 := ⟨n_ - 1, by omega⟩; exact hv.trans (qN_end (by omega)))), by omega, hp11⟩) hB ha_)

def accN (s : ByteArray) : Nat → Nat → Int → Option Int
 | 0, _, n => some n
 | i + 1, k, n => if 9007199254740991 < n * 10 + (atS s k - 48) then none else accN s i (k + 1) (n * 10 + (atS s k - 48))
def numT (s : ByteArray) (m : Bool) (k : Nat) : Except Int (Int × Nat) :=
 if k < s.size ∧ atS s k = 48 then (if m = true then .error 2 else .ok (0, k + 1))
 else if digS s k = k then .error 2 else match accN s (digS s k - k) k 0 with
  | none => .error 5
  | some n => .ok (if m = true then -n else n, digS s k)
def numS (s : ByteArray) (k : Nat) : Except Int (Int × Nat) := if takeS s k 45 = true then numT s true (k + 1) else numT s false k
section
variable {s : ByteArray} {k k1 k2 : Nat} {m : Bool} {n : Int}
theorem numS_t (h : takeS s k 45 = true) (e : k1 = k + 1) : numS s k = numT s true k1 := by subst e; unfold numS; rw [if_pos h]
theorem numS_f (h : takeS s k 45 = false) : numS s k = numT s false k := by unfold numS; rw [h]; rfl
theorem numT_z (h : k < s.size ∧ atS s k = 48) (e : k1 = k + 1) : numT s false k = .ok (0, k1) := by subst e; unfold numT; rw [if_pos h]; rfl
theorem numT_m (h : k < s.size ∧ atS s k = 48) : numT s true k = .error 2 := by unfold numT; rw [if_pos h]; rfl
theorem numT_0 (h : ¬ (k < s.size ∧ atS s k = 48)) (h2 : digS s k = k) : numT s m k = .error 2 := by unfold numT; rw [if_neg h, if_pos h2]
theorem numT_n (h : ¬ (k < s.size ∧ atS s k = 48)) (h2 : ¬ digS s k = k) (h3 : accN s (digS s k - k) k 0 = none) : numT s m k = .error 5 := by unfold numT; rw [if_neg h, if_neg h2, h3]
theorem numT_s (h : ¬ (k < s.size ∧ atS s k = 48)) (h2 : ¬ digS s k = k) (h3 : accN s (digS s k - k) k 0 = some n) : numT s m k = .ok (if m = true then -n else n, digS s k) := by unfold numT; rw [if_neg h, if_neg h2, h3]
end
theorem dig_all (s : ByteArray) : ∀ (f k i : Nat), k ≤ i → i < digN s f k → isDig (atS s i) = true
  | 0, k, i, h1, h2 => by unfold digN at h2; omega
  | f + 1, k, i, h1, h2 => by
    unfold digN at h2
    split at h2
    · rename_i hc
      rw [Bool.and_eq_true, decide_eq_true_eq] at hc
      rcases Nat.eq_or_lt_of_le h1 with rfl | h3
      · exact hc.2
      · exact dig_all s f (k + 1) i h3 h2
    · omega
theorem digS_all {s : ByteArray} {k i : Nat} (h1 : k ≤ i) (h2 : i < digS s k) : 48 ≤ atS s i ∧ atS s i ≤ 57 := by
 have := dig_all s _ k i h1 h2
 unfold isDig at this
 rw [Bool.and_eq_true, decide_eq_true_eq, decide_eq_true_eq] at this
 exact this
theorem at_extract (s : ByteArray) (i j k : Nat) (h : i + k < j) (hj : j ≤ s.size) : atS (s.extract i j) k = atS s (i + k) := by
 unfold atS
 have h1 : (s.extract i j).data = s.data.extract i j := by simp [ByteArray.data_extract]
 rw [h1, Array.getElem?_extract, if_pos (by have : s.data.size = s.size := rfl; omega)]
theorem empty_of {t : ByteArray} (h : t.size = 0) : t = ⟨#[]⟩ := by
 cases t with
 | mk d => congr 1; exact Array.eq_empty_of_size_eq_zero h
theorem digits_c (s : ByteArray) (P ka dp : Nat) (w : World) (L : List Nat) (hL : LL L w) (hPL : P ∈ L) (hs : s.size ≤ 1000000) (hk : ka ≤ s.size) (hp : Blk w P (psC s ka dp)) :
  CW Tryz.prog 51 [.pointer (some ⟨P, 0, none⟩)] w P fun v W => ∃ k' tx, v = .string tx ∧ k' = digS s ka ∧ ka ≤ k' ∧ k' ≤ s.size ∧ tx.size = k' - ka ∧ (∀ i, i < k' - ka → atS tx i = atS s (ka + i)) ∧ (∀ i, i < k' - ka → 48 ≤ atS s (ka + i) ∧ atS s (ka + i) ≤ 57) ∧ Blk W P (psC s k' dp) :=
 Calls.mono (digits_v s P ka dp w L hL hPL hs hk hp) fun e w' h => by
  obtain ⟨v, he, ⟨h1, h2⟩, h3⟩ := h
  have h4 := digS_le (s := s) (k := ka) hk
  exact ⟨v, he, ⟨digS s ka, _, h1, rfl, h4.1, h4.2, by rw [ByteArray.size_extract]; omega, fun i hi => at_extract s ka (digS s ka) i (by omega) h4.2, fun i hi => digS_all (k := ka) (i := ka + i) (by omega) (by omega), h2⟩, h3⟩
section
variable {P : Program} {ops : Array Oper} {o : Oper} {N : Nat} {f : Fl} {w : World}
theorem dx_neg {t : TypeId} {x : Operand} {K : IntKind} {m r : Int} (ho : o.op = .unOp .neg t x) (hx : ev f x = some (.int K m)) (hr : K.wrap (-m) = r) (hw : wantF ops o f = some true := by rfl) : DV P ops o N f w (.int K r) := fun a ha =>
 Does.pure (wantF_of ha hw) _ (by unfold execOp; simp only [ho, ha.ev hx]; simp [Op.unary, Op.intArith, hr, Sem.run_pure]) ⟨rfl, rfl⟩
end
theorem acc_go {s : ByteArray} {i k : Nat} {n : Int} (h : ¬ 9007199254740991 < n * 10 + (atS s k - 48)) : accN s (i + 1) k n = accN s i (k + 1) (n * 10 + (atS s k - 48)) := by rw [accN, if_neg h]
theorem acc_no {s : ByteArray} {i k : Nat} {n : Int} (h : 9007199254740991 < n * 10 + (atS s k - 48)) : accN s (i + 1) k n = none := by rw [accN, if_pos h]
set_option maxHeartbeats 1000000 in
theorem plain_v (wd : ByteArray) (kd : Int) (s : ByteArray) (P ka dp : Nat) (w : World) (L : List Nat) (hL : LL L w) (hPL : P ∈ L) (hs : s.size ≤ 1000000) (hk : ka ≤ s.size) (hp : Blk w P (psC s ka dp))  (hwd : wd.size ≤ 1000) : CW Tryz.prog 27 [.pointer (some ⟨P, 0, none⟩), .string wd, .int .i64 kd] w P fun v W => (∃ k', v = .tuple #[.agg #[.int .i64 kd, .int .i64 0, .string ⟨#[]⟩, .slice none 0 0, .slice none 0 0], .int .i64 0] ∧ wordS s wd ka = true ∧ k' = ka + wd.size ∧ k' ≤ s.size ∧ Blk W P (psC s k' dp)) ∨ (∃ k', v = .tuple #[.agg #[.int .i64 0, .int .i64 0, .string ⟨#[]⟩, .slice none 0 0, .slice none 0 0], .int .i64 2] ∧ wordS s wd ka = false ∧ k' ≤ s.size ∧ Blk W P (psC s k' dp)) := by
 refine cw_enter (N := 17) (f := [(0, .pointer (some ⟨P, 0, none⟩)), (1, .string wd), (2, .int .i64 kd)]) Tryz.func27 rfl rfl rfl rfl fun Q hQ hE => ?_
 have hB := Chg.refl P w
 have hL0 := hL
 refine Sq fun K1 hK1 => (Rg ?_)
 refine Ge (dx_alloc rfl ty_zero_27 rfl) rfl rfl ?_
 rintro _ W2 ⟨rfl, k3, b4, z5⟩
 have n6 : P ≠ w.heap.size := Nat.ne_of_lt hp.lt
 have l7 := hB.size
 replace hp := hp.below b4
 replace hB := Chg.thenB hB b4
 replace hL := LL.more hL z5
 refine Pu rfl (Ni (hK1 (Sq fun K8 hK8 => (Sq fun K9 hK9 => (Rg (Pu rfl (Va (dx_nilCheck rfl rfl) rfl rfl ?_)))))))
 refine Va (dx_fld (o1 := 0) rfl ty_fld_39_0_0 rfl rfl) rfl rfl (Pu rfl ?_)
 refine Ge (dx_cw rfl Tryz.func50 rfl rfl rfl (word_v wd s P ka dp W2 _ hL (.tail _ hPL) hs (by omega) hp hwd)) rfl rfl ?_
 rintro _ W19 ⟨⟨k14, rfl, hk15, hk16, hk17, hp20⟩, g18⟩
 replace k3 := k3.chg g18 n6.symm
 replace hB := Chg.both hB g18
 cases hT21 : wordS s wd ka with
 | false =>
  clear hk17
  refine Va (dx_not rfl rfl) rfl rfl (Ni (hK9 (WC.condT rfl (Sq fun K22 hK22 => (Rg (Va (dx_build rfl rfl (built_of_O (cs := zV) (by kernel_rfl) oc_nil)) rfl rfl ?_))))))
  refine WL.do (dx_store (cs' := zV) (vs := zV) rfl ty_size_27_5 rfl rfl rfl o5 k3 rfl (nB rfl) rfl) rfl ?_
  rintro _ W23 ⟨k25, o24⟩
  replace hp20 := hp20.other o24 n6
  clear k3
  replace hB := Chg.only hB o24 (.inr l7)
  refine Pu rfl (Ni (hK22 ?_))
  exact WC.ret fun a_ ha_ => hQ (cw_ret2 rfl (.agg rfl ty_agg_27_5 k25.range rfl) (.tmp rfl) (.inr ⟨k14, rfl, by assumption, by omega, hp20⟩) hB ha_)
 | true =>
  replace hk17 := hk17 hT21
  refine Va (dx_not rfl rfl) rfl rfl (Ni (hK9 (WC.condF rfl (WC.skip (hK8 (Sq fun K26 hK26 => (Rg ?_)))))))
  refine Pu rfl (Va (dx_build rfl rfl (built_of_O (cs := [.int .i64 kd, .int .i64 0, .string ⟨#[]⟩, .slice none 0 0, .slice none 0 0]) (by kernel_rfl) (oC rfl oc_nil))) rfl rfl ?_)
  refine WL.do (dx_store (cs' := [.int .i64 kd, .int .i64 0, .string ⟨#[]⟩, .slice none 0 0, .slice none 0 0]) (vs := [.int .i64 kd, .int .i64 0, .string ⟨#[]⟩, .slice none 0 0, .slice none 0 0]) rfl ty_size_27_5 rfl rfl rfl o5 k3 rfl (nB rfl) rfl) rfl ?_
  rintro _ W27 ⟨k29, o28⟩
  replace hp20 := hp20.other o28 n6
  clear k3
  replace hB := Chg.only hB o28 (.inr l7)
  refine Pu rfl (Ni (hK26 ?_))
  exact WC.ret fun a_ ha_ => hQ (cw_ret2 rfl (.agg rfl ty_agg_27_5 k29.range rfl) (.tmp rfl) (.inl ⟨k14, rfl, by assumption, by omega, by omega, hp20⟩) hB ha_)

set_option maxHeartbeats 1000000 in
theorem number_v  (s : ByteArray) (P ka dp : Nat) (w : World) (L : List Nat) (hL : LL L w) (hPL : P ∈ L) (hs : s.size ≤ 1000000) (hk : ka ≤ s.size) (hp : Blk w P (psC s ka dp))   : CW Tryz.prog 28 [.pointer (some ⟨P, 0, none⟩)] w P fun v W => (∃ k' n, v = .tuple #[.agg #[.int .i64 3, .int .i64 n, .string ⟨#[]⟩, .slice none 0 0, .slice none 0 0], .int .i64 0] ∧ numS s ka = .ok (n, k') ∧ -9007199254740991 ≤ n ∧ n ≤ 9007199254740991 ∧ ka < k' ∧ k' ≤ s.size ∧ Blk W P (psC s k' dp)) ∨ (∃ k' e, v = .tuple #[.agg #[.int .i64 0, .int .i64 0, .string ⟨#[]⟩, .slice none 0 0, .slice none 0 0], .int .i64 e] ∧ e ≠ 0 ∧ numS s ka = .error e ∧ k' ≤ s.size ∧ Blk W P (psC s k' dp)) := by
 refine cw_enter (N := 53) (f := [(0, .pointer (some ⟨P, 0, none⟩))]) Tryz.func28 rfl rfl rfl rfl fun Q hQ hE => ?_
 have hB := Chg.refl P w
 have hL0 := hL
 refine Sq fun K1 hK1 => (Rg ?_)
 refine Ge (dx_alloc rfl ty_zero_27 rfl) rfl rfl ?_
 rintro _ W2 ⟨rfl, k3, b4, z5⟩
 have n6 : P ≠ w.heap.size := Nat.ne_of_lt hp.lt
 have l7 := hB.size
 replace hp := hp.below b4
 replace hB := Chg.thenB hB b4
 replace hL := LL.more hL z5
 refine Pu rfl (Ni (hK1 (Sq fun K8 hK8 => ?_)))
 have hJ1 : ∀ (kx : Nat) (mi : Bool) (W9 : World) (f_ : Fl), numS s ka = numT s mi kx ∧ ka ≤ kx ∧ kx ≤ s.size ∧ Chg P w W9 ∧ LL (w.heap.size :: L) W9 ∧ Blk W9 P [.string s, .int .i64 (kx : Int), .int .i64 (dp : Int)] ∧ Blk W9 w.heap.size [.int .i64 0, .int .i64 0, .string ⟨#[]⟩, .slice none 0 0, .slice none 0 0] → Sub [(0, .pointer (some ⟨P, 0, none⟩)), (2, .pointer (some ⟨w.heap.size, 0, none⟩)), (3, .int .i64 0), (4, .bool mi)] f_ → ∀ a, Fr 53 a f_ → K8 a W9 := by
  clear hp k3 hB hL
  rintro kx mi W9 f_ ⟨hnum, hkx1, hkx2, hB, hL, hp, k3⟩ hs_
  refine hK8 (WC.sub hs_ ?_)
  refine Sq fun K10 hK10 => (Sq fun K11 hK11 => (Rg (Pu rfl (Va (dx_nilCheck rfl rfl) rfl rfl (Va (dx_fld (o1 := 0) rfl ty_fld_39_0_0 rfl rfl) rfl rfl ?_)))))
  refine Ge (dx_cv rfl Tryz.func26 rfl rfl rfl (peek_c s P kx dp W9 _ hL (.tail _ hPL) hs (by omega) hp)) rfl rfl ?_
  rintro _ W28 ⟨⟨c22, rfl, hc23, hc24, hc25, hc26⟩, b27⟩
  replace hp := hp.below b27
  replace k3 := k3.below b27
  replace hB := Chg.thenB hB b27
  replace hL := LL.below hL b27
  refine Va (dx_eql rfl rfl rfl) rfl rfl (Ni (hK11 ?_))
  refine WC.cond rfl (fun c29 => ?_) (fun c29 => ?_)
  ·
   replace c29 := dT c29
   refine Sq fun K30 hK30 => (Rg (Pu rfl (Va (dx_nilCheck rfl rfl) rfl rfl (Va (dx_fld (o1 := 0) rfl ty_fld_39_0_0 rfl rfl) rfl rfl ?_))))
   refine Ge (dx_cw rfl Tryz.func25 rfl rfl rfl (take_y 48 s P kx dp W28 _ hL (.tail _ hPL) hs (by omega) hp (take_of (by rcases Nat.lt_or_ge kx s.size with h_ | h_; exact h_; (have := hc26 h_; omega)) (by have h_ : kx < s.size := (by rcases Nat.lt_or_ge kx s.size with h_ | h_; exact h_; (have := hc26 h_; omega)); have := hc25 h_; omega)))) rfl rfl ?_
   rintro _ W38 ⟨⟨k34, rfl, hk35, hk36, hp39⟩, g37⟩
   replace k3 := k3.chg g37 n6.symm
   replace hB := Chg.both hB g37
   refine Ni (hK30 (Sq fun K40 hK40 => (Sq fun K41 hK41 => (Rg (Pu rfl (Ni (hK41 ?_)))))))
   refine WC.cond rfl (fun c42 => ?_) (fun c42 => ?_)
   ·
    refine Sq fun K43 hK43 => (Rg (Va (dx_build rfl rfl (built_of_O (cs := zV) (by kernel_rfl) oc_nil)) rfl rfl ?_))
    refine WL.do (dx_store (cs' := zV) (vs := zV) rfl ty_size_27_5 rfl rfl rfl o5 k3 rfl (nB rfl) rfl) rfl ?_
    rintro _ W44 ⟨k46, o45⟩
    replace hp39 := hp39.other o45 n6
    clear k3
    replace hB := Chg.only hB o45 (.inr l7)
    refine Pu rfl (Ni (hK43 ?_))
    exact WC.ret fun a_ ha_ => hQ (cw_ret2 rfl (.agg rfl ty_agg_27_5 k46.range rfl) (.tmp rfl) (.inr ⟨k34, 2, rfl, by decide, (by rw [hnum, (show mi = true by assumption)]; exact numT_m (by have h_ : kx < s.size := (by rcases Nat.lt_or_ge kx s.size with h_ | h_; exact h_; (have := hc26 h_; omega)); exact ⟨h_, by have := hc25 h_; omega⟩)), by omega, hp39⟩) hB ha_)
   ·
    replace c42 := bvar_f c42
    refine WC.skip (hK40 (Sq fun K47 hK47 => (Rg (Va (dx_build rfl rfl (built_of_O (cs := [.int .i64 3, .int .i64 0, .string ⟨#[]⟩, .slice none 0 0, .slice none 0 0]) (by kernel_rfl) (oC rfl oc_nil))) rfl rfl ?_))))
    refine WL.do (dx_store (cs' := [.int .i64 3, .int .i64 0, .string ⟨#[]⟩, .slice none 0 0, .slice none 0 0]) (vs := [.int .i64 3, .int .i64 0, .string ⟨#[]⟩, .slice none 0 0, .slice none 0 0]) rfl ty_size_27_5 rfl rfl rfl o5 k3 rfl (nB rfl) rfl) rfl ?_
    rintro _ W48 ⟨k50, o49⟩
    replace hp39 := hp39.other o49 n6
    clear k3
    replace hB := Chg.only hB o49 (.inr l7)
    refine Pu rfl (Ni (hK47 ?_))
    exact WC.ret fun a_ ha_ => hQ (cw_ret2 rfl (.agg rfl ty_agg_27_5 k50.range rfl) (.tmp rfl) (.inl ⟨k34, 0, rfl, (by rw [hnum, (show mi = false by first | assumption | exact Bool.eq_false_iff.2 (by assumption))]; exact numT_z (by have h_ : kx < s.size := (by rcases Nat.lt_or_ge kx s.size with h_ | h_; exact h_; (have := hc26 h_; omega)); exact ⟨h_, by have := hc25 h_; omega⟩) (by assumption)), by decide, by decide, by omega, by omega, hp39⟩) hB ha_)
  ·
   replace c29 := dF c29
   refine WC.skip (hK10 (Sq fun K51 hK51 => (Rg (Pu rfl (Va (dx_nilCheck rfl rfl) rfl rfl (Va (dx_fld (o1 := 0) rfl ty_fld_39_0_0 rfl rfl) rfl rfl ?_))))))
   refine Ge (dx_cw rfl Tryz.func51 rfl rfl rfl (digits_c s P kx dp W28 _ hL (.tail _ hPL) hs (by omega) hp)) rfl rfl ?_
   rintro _ W69 ⟨⟨k60, tx61, rfl, hd62, hd63, hd64, hd65, hd66, hd67, hp70⟩, g68⟩
   replace k3 := k3.chg g68 n6.symm
   replace hB := Chg.both hB g68
   replace hL := hL.chg g68
   refine Pu rfl (Ni (hK51 (Sq fun K71 hK71 => (Sq fun K72 hK72 => (Rg (Pu rfl (Va (dx_eqlT rfl rfl rfl) rfl rfl ?_)))))))
   refine Ni (hK72 ?_)
   refine WC.cond rfl (fun c73 => ?_) (fun c73 => ?_)
   ·
    replace c73 := dT c73
    refine Sq fun K74 hK74 => (Rg (Va (dx_build rfl rfl (built_of_O (cs := zV) (by kernel_rfl) oc_nil)) rfl rfl ?_))
    refine WL.do (dx_store (cs' := zV) (vs := zV) rfl ty_size_27_5 rfl rfl rfl o5 k3 rfl (nB rfl) rfl) rfl ?_
    rintro _ W75 ⟨k77, o76⟩
    replace hp70 := hp70.other o76 n6
    clear k3
    replace hB := Chg.only hB o76 (.inr l7)
    refine Pu rfl (Ni (hK74 ?_))
    exact WC.ret fun a_ ha_ => hQ (cw_ret2 rfl (.agg rfl ty_agg_27_5 k77.range rfl) (.tmp rfl) (.inr ⟨k60, 2, rfl, by decide, (by rw [hnum, numT_0 (fun h_ => by have := hc25 h_.1; omega) (by have hs_ : tx61.size = 0 := (by have := congrArg ByteArray.size (show tx61 = ⟨#[]⟩ by assumption); exact this); omega)]), by omega, hp70⟩) hB ha_)
   ·
    replace c73 := dF c73
    refine WC.skip (hK71 (Sq fun K78 hK78 => (Rg (Pu rfl (Ni (hK78 (Sq fun K79 hK79 => ?_)))))))
    refine Sq fun K80 hK80 => (Rg (Pu rfl (Va (dx_lenT rfl Tryz.underlying9 rfl) rfl rfl (Pu rfl (Ni (hK80 (WC.block ?_)))))))
    have htz : ¬ k60 = kx := fun e_ => absurd (empty_of (t := tx61) (by omega)) (by assumption)
    refine WC.loop2 (fun (i : Nat) (n : Int) => [(0, .pointer (some ⟨P, 0, none⟩)), (4, .bool mi), (5, .string tx61), (32, .int .i64 (tx61.size : Int)), (2, .pointer (some ⟨w.heap.size, 0, none⟩)), (33, .int .i64 (i : Int)), (6, .int .i64 n)]) (fun (i : Nat) (n : Int) W => i ≤ k60 - kx ∧ 0 ≤ n ∧ n ≤ 9007199254740991 ∧ accN s (k60 - kx) kx 0 = accN s (k60 - kx - i) (kx + i) n ∧ Chg P w W ∧ LL (w.heap.size :: L) W ∧ Blk W P [.string s, .int .i64 (k60 : Int), .int .i64 (dp : Int)] ∧ Blk W w.heap.size [.int .i64 0, .int .i64 0, .string ⟨#[]⟩, .slice none 0 0, .slice none 0 0]) (fun (i : Nat) (n : Int) => k60 - kx - i) 0 0 (by repeat first | exact trivial | refine aR ?_ | refine aI (by omega) ?_) ⟨(by omega), (by omega), (by omega), rfl, hB, hL, hp70, k3⟩ ?_
    clear hp70 k3 hB hL
    rintro K81 i n W82 ⟨hi, hn0, hn1, hv, hB, hL, hp70, k3⟩ hK81
    refine Sq fun K83 hK83 => (Rg (Va (dx_lss rfl rfl rfl) rfl rfl (Ni (hK83 (Sq fun K84 hK84 => ?_)))))
    refine WC.cond rfl (fun c85 => ?_) (fun c85 => ?_)
    ·
     replace c85 := dT c85
     refine WC.skip (hK84 (Sq fun K86 hK86 => (WC.block (Sq fun K87 hK87 => ?_))))
     have hil : i < k60 - kx := by omega
     have hax := hd66 i hil
     have har := hd67 i hil
     rw [← hax] at har
     refine Rg (Pu rfl (Pu rfl (Ni (hK87 (Sq fun K88 hK88 => (Rg (Pu rfl ?_)))))))
     refine Va (dx_mul (r := n * 10) rfl rfl rfl (wrap64_id (by omega))) rfl rfl (Pu rfl (Pu rfl (Va (dx_at i rfl Tryz.underlying9 rfl rfl (by omega) (by omega)) rfl rfl (Va (dx_sub (r := (atS tx61 i) - 48) rfl rfl rfl (wrapu8_id (by omega))) rfl rfl (Va (dx_conv (r := (atS tx61 i) - 48) rfl Tryz.underlying5 Tryz.underlying3 rfl (wrap64_id (by omega))) rfl rfl (Va (dx_add (r := (n * 10) + ((atS tx61 i) - 48)) rfl rfl rfl (wrap64_id (by omega))) rfl rfl (Pu rfl ?_)))))))
     refine Ni (hK88 (Sq fun K89 hK89 => (Rg (Pu rfl (Va (dx_gtr rfl rfl rfl) rfl rfl (Ni (hK89 ?_)))))))
     refine WC.cond rfl (fun c90 => ?_) (fun c90 => ?_)
     ·
      replace c90 := dT c90
      refine Sq fun K91 hK91 => (Rg (Va (dx_build rfl rfl (built_of_O (cs := zV) (by kernel_rfl) oc_nil)) rfl rfl ?_))
      refine WL.do (dx_store (cs' := zV) (vs := zV) rfl ty_size_27_5 rfl rfl rfl o5 k3 rfl (nB rfl) rfl) rfl ?_
      rintro _ W92 ⟨k94, o93⟩
      replace hp70 := hp70.other o93 n6
      clear k3
      replace hB := Chg.only hB o93 (.inr l7)
      refine Pu rfl (Ni (hK91 ?_))
      exact WC.ret fun a_ ha_ => hQ (cw_ret2 rfl (.agg rfl ty_agg_27_5 k94.range rfl) (.tmp rfl) (.inr ⟨k60, 5, rfl, by decide, (by rw [hnum, numT_n (fun h_ => by have := hc25 h_.1; omega) (by omega) (by obtain ⟨q_, hq_⟩ : ∃ q_, k60 - kx - i = q_ + 1 := ⟨k60 - kx - i - 1, by omega⟩; rw [← hd62, hv, hq_]; exact acc_no (by rw [← hax]; omega))]), by omega, hp70⟩) hB ha_)
     ·
      replace c90 := dF c90
      refine WC.skip (hK86 (Rg (Va (dx_add (r := (i : Int) + 1) rfl rfl rfl (wrap64_id (by omega))) rfl rfl (Pu rfl (Ni ?_)))))
      obtain ⟨q, hq_⟩ : ∃ q, k60 - kx - i = q + 1 := ⟨k60 - kx - i - 1, by omega⟩
      exact hK81 (i + 1) ((n * 10) + ((atS tx61 i) - 48)) ⟨(by omega), (by omega), (by omega), (by rw [hv, hq_, acc_go (by rw [← hax]; omega), ← hax]; congr 1 <;> omega), hB, hL, hp70, k3⟩ (by omega) (by repeat first | exact trivial | refine aR ?_ | refine aI (by omega) ?_)
    ·
     replace c85 := dF c85
     refine WC.exit ?_
     refine hK79 (Sq fun K95 hK95 => (Sq fun K96 hK96 => (Rg (Pu rfl (Ni (hK96 ?_))))))
     refine WC.cond rfl (fun c97 => ?_) (fun c97 => ?_)
     ·
      refine Rg (Pu rfl (Va (dx_neg rfl rfl (wrap64_id (by omega))) rfl rfl (Pu rfl (Ni (hK95 (Sq fun K98 hK98 => (Rg ?_)))))))
      refine Pu rfl (Va (dx_build rfl rfl (built_of_O (cs := [.int .i64 3, .int .i64 (-n), .string ⟨#[]⟩, .slice none 0 0, .slice none 0 0]) (by kernel_rfl) (oC rfl (oC rfl oc_nil)))) rfl rfl ?_)
      refine WL.do (dx_store (cs' := [.int .i64 3, .int .i64 (-n), .string ⟨#[]⟩, .slice none 0 0, .slice none 0 0]) (vs := [.int .i64 3, .int .i64 (-n), .string ⟨#[]⟩, .slice none 0 0, .slice none 0 0]) rfl ty_size_27_5 rfl rfl rfl o5 k3 rfl (nB rfl) rfl) rfl ?_
      rintro _ W99 ⟨k101, o100⟩
      replace hp70 := hp70.other o100 n6
      clear k3
      replace hB := Chg.only hB o100 (.inr l7)
      refine Pu rfl (Ni (hK98 ?_))
      exact WC.ret fun a_ ha_ => hQ (cw_ret2 rfl (.agg rfl ty_agg_27_5 k101.range rfl) (.tmp rfl) (.inl ⟨k60, -n, rfl, (by rw [hnum, (show mi = true by assumption), numT_s (n := n) (fun h_ => by have := hc25 h_.1; omega) (by omega) (by rw [← hd62, hv, show k60 - kx - i = 0 by omega]; rfl), ← hd62]; rfl), by omega, by omega, by omega, by omega, hp70⟩) hB ha_)
     ·
      replace c97 := bvar_f c97
      refine WC.skip (hK95 (Sq fun K102 hK102 => (Rg (Pu rfl (Va (dx_build rfl rfl (built_of_O (cs := [.int .i64 3, .int .i64 n, .string ⟨#[]⟩, .slice none 0 0, .slice none 0 0]) (by kernel_rfl) (oC rfl (oC rfl oc_nil)))) rfl rfl ?_)))))
      refine WL.do (dx_store (cs' := [.int .i64 3, .int .i64 n, .string ⟨#[]⟩, .slice none 0 0, .slice none 0 0]) (vs := [.int .i64 3, .int .i64 n, .string ⟨#[]⟩, .slice none 0 0, .slice none 0 0]) rfl ty_size_27_5 rfl rfl rfl o5 k3 rfl (nB rfl) rfl) rfl ?_
      rintro _ W103 ⟨k105, o104⟩
      replace hp70 := hp70.other o104 n6
      clear k3
      replace hB := Chg.only hB o104 (.inr l7)
      refine Pu rfl (Ni (hK102 ?_))
      exact WC.ret fun a_ ha_ => hQ (cw_ret2 rfl (.agg rfl ty_agg_27_5 k105.range rfl) (.tmp rfl) (.inl ⟨k60, n, rfl, (by rw [hnum, (show mi = false by first | assumption | exact Bool.eq_false_iff.2 (by assumption)), numT_s (n := n) (fun h_ => by have := hc25 h_.1; omega) (by omega) (by rw [← hd62, hv, show k60 - kx - i = 0 by omega]; rfl), ← hd62]; rfl), by omega, by omega, by omega, by omega, hp70⟩) hB ha_)
 refine Rg (Pu rfl (Va (dx_nilCheck rfl rfl) rfl rfl (Va (dx_fld (o1 := 0) rfl ty_fld_39_0_0 rfl rfl) rfl rfl ?_)))
 refine Ge (dx_cw rfl Tryz.func25 rfl rfl rfl (take_v 45 s P ka dp W2 _ hL (.tail _ hPL) hs (by omega) hp)) rfl rfl ?_
 rintro _ W113 ⟨⟨k109, rfl, hk110, hk111, hp114⟩, g112⟩
 replace k3 := k3.chg g112 n6.symm
 replace hB := Chg.both hB g112
 replace hL := hL.chg g112
 cases hT115 : takeS s ka 45 with
 | false =>
  rw [hT115] at hk110
  replace hk110 : ka = k109 := Eq.symm hk110
  subst hk110
  refine Pu rfl (Ni ?_)
  have hnum : numS s ka = numT s false ka := numS_f (by assumption)
  exact hJ1 ka false _ _ ⟨hnum, (by omega), (by omega), hB, hL, hp114, k3⟩ (by repeat first | exact trivial | refine aR ?_ | refine aI (by omega) ?_)
 | true =>
  rw [hT115] at hk110
  have hthT115 := take_t hT115
  replace hk110 : k109 = ka + 1 := hk110
  refine Pu rfl (Ni ?_)
  have hnum : numS s ka = numT s true k109 := numS_t hT115 (by assumption)
  exact hJ1 k109 true _ _ ⟨hnum, (by omega), (by omega), hB, hL, hp114, k3⟩ (by repeat first | exact trivial | refine aR ?_ | refine aI (by omega) ?_)

structure ChgV (b B C : Nat) (w w' : World) : Prop where
 os : w'.os = w.os
 tape : w'.tape = w.tape
 output : w'.output = w.output
 size : w.heap.size ≤ w'.heap.size
 block : ∀ k, k < b → k ≠ B → k ≠ C → w'.heap[k]? = w.heap[k]?
theorem ChgV.refl (b B C : Nat) (w : World) : ChgV b B C w w := ⟨rfl, rfl, rfl, Nat.le_refl _, fun _ _ _ _ => rfl⟩
theorem ChgV.both {b B C : Nat} {w W W' : World} (h : ChgV b B C w W) (k : ChgV b B C W W') : ChgV b B C w W' :=
 ⟨k.os.trans h.os, k.tape.trans h.tape, k.output.trans h.output, Nat.le_trans h.size k.size, fun i hi h1 h2 => (k.block i hi h1 h2).trans (h.block i hi h1 h2)⟩
theorem ChgV.of_chg {b B C : Nat} {w w' : World} (h : Chg B w w') (hb : b ≤ w.heap.size) : ChgV b B C w w' := ⟨h.os, h.tape, h.output, h.size, fun k hk h1 _ => h.block k (Nat.lt_of_lt_of_le hk hb) h1⟩
theorem ChgV.of_below {b B C : Nat} {w w' : World} (h : Below b w w') : ChgV b B C w w' := ⟨h.os, h.tape, h.output, h.size, fun k hk _ _ => h.block k hk⟩
theorem ChgV.of_only {b B C D : Nat} {w w' : World} (h : Only D w w') (hD : D = B ∨ D = C ∨ b ≤ D) : ChgV b B C w w' := ⟨h.os, h.tape, h.output, by rw [h.size]; exact Nat.le_refl _, fun k hk h1 h2 => h.block k (by omega)⟩
theorem ChgV.chg {b B C : Nat} {w W W' : World} (h : ChgV b B C w W) (k : Chg B W W') (hb : b ≤ W.heap.size) : ChgV b B C w W' := h.both (.of_chg k hb)
theorem ChgV.toChg {b B C : Nat} {w0 w w' : World} (h : Chg B w0 w) (k : ChgV b B C w w') (hb : w0.heap.size ≤ b) (hC : w0.heap.size ≤ C) : Chg B w0 w' :=
 ⟨k.os.trans h.os, k.tape.trans h.tape, k.output.trans h.output, Nat.le_trans h.size k.size, fun i hi h1 => (k.block i (Nat.lt_of_lt_of_le hi hb) h1 (by omega)).trans (h.block i hi h1)⟩
theorem Blk.chgV {b B C D : Nat} {w w' : World} {cs : List Value} (h : Blk w D cs) (k : ChgV b B C w w') (hb : D < b) (h1 : D ≠ B) (h2 : D ≠ C) : Blk w' D cs := by
 obtain ⟨t, ht⟩ := h
 exact ⟨t, (k.block D hb h1 h2).trans ht⟩
theorem LL.chgV {L : List Nat} {b B C : Nat} {w w' : World} (h : LL L w) (k : ChgV b B C w w') : LL L w' := fun x hx => Nat.lt_of_lt_of_le (h x hx) k.size
def CX (P : Program) (F : FuncId) (args : List Value) (w : World) (D : World → World → Prop) (R : Value → World → Prop) : Prop := Calls P F args.toArray w fun e w' => ∃ v, e = .returned v ∧ R v w' ∧ D w w'
def finX (P : Program) (fn : Func) (R : Value → World → Prop) (D : World → World → Prop) (w0 : World) (a : Act) (w : World) : Prop := a.defers = [] ∧ ∃ v, (results fn a.tmps).run P w = .ok v w ∧ R v w ∧ D w0 w
theorem cx_enter {P : Program} {F : FuncId} {fn : Func} {body : Code} {w : World} {D : World → World → Prop} {R : Value → World → Prop} {N : Nat} {vs : List Value} (hf : P.funcs[F]? = some fn) (hb : fn.body = some body) (hn : fn.ntmps = N) (hN : decide (vs.length ≤ N) = true) {f : Fl}
  (hfr : (vs.zipIdx.map fun p => (p.2, p.1)) = f) (h : ∀ Q : Exit → Act → World → Prop, (∀ {a W}, finX P fn R D w a W → Q .ret a W) → (∀ {a W}, finX P fn R D w a W → Q .normal a W) → WC P N body Q f w) : CX P F vs w D R :=
 calls_sx vs f hf hb hn hN hfr.symm (h _ (fun {a W} ⟨h1, v, h2, h3, h4⟩ => ⟨h1, v, h2, v, rfl, h3, h4⟩) (fun {a W} ⟨h1, v, h2, h3, h4⟩ => ⟨h1, v, h2, v, rfl, h3, h4⟩))
section
variable {P : Program} {ops : Array Oper} {o : Oper} {N : Nat} {f : Fl} {w : World} {R : Value → World → Prop} {fn : Func} {D : World → World → Prop}
theorem cx_ret1 {w0 : World} {r0 : ResultVar} {v0 : Value} (h : fn.results = #[r0]) (h0 : RV P f w r0 v0) (hR : R v0 w) (hb : D w0 w) {a : Act} (ha : Fr N a f) : finX P fn R D w0 a w := by
 obtain ⟨x, v, hv, v', he, h1, h2⟩ := fn1 (Rr := fun e w' => ∃ v, e = .returned v ∧ R v w' ∧ D w0 w') h h0 ⟨_, rfl, hR, hb⟩ ha
 cases he
 exact ⟨x, _, hv, h1, h2⟩
theorem dx_cx {F : FuncId} {fn : Func} {xs : List Operand} {ts : Array TypeId} {vs : List Value} (ho : o.op = .call { callee := .value (.func F), args := xs.toArray, argTypes := ts }) (hf : P.funcs[F]? = some fn) (hn : (fn.name == "runtime.NumGoroutine") = false) (hb : fn.body.isNone = false)
  (hx : evl f xs = some vs) (hc : CX P F vs w D R) (hw : wantF ops o f = some true := by rfl) : DR P ops o N f w fun v W => R v W ∧ D w W :=
 dx_call (cap := #[]) ho rfl hf hn hb hx (by rw [Array.append_empty]; exact Calls.mono hc fun e w' ⟨v, he, h⟩ => ⟨v, he, h⟩) hw
def FX (P : Program) (g : Value) (args : List Value) (w : World) (D : World → World → Prop) (R : Value → World → Prop) : Prop := ∃ F fs cs fn, g = .func (.func F) fs cs ∧ P.funcs[F]? = some fn ∧ (fn.name == "runtime.NumGoroutine") = false ∧ fn.body.isNone = false ∧ CX P F (fs.toList ++ args ++ cs.toList) w D R
theorem dx_fx {c : Operand} {g : Value} {xs : List Operand} {ts : Array TypeId} {vs : List Value} (ho : o.op = .call { callee := .value c, args := xs.toArray, argTypes := ts }) (hcv : ev f c = some g)
  (hx : evl f xs = some vs) (hc : FX P g vs w D R) (hw : wantF ops o f = some true := by rfl) : DR P ops o N f w fun v W => R v W ∧ D w W := fun a ha => by
 obtain ⟨F, fs, cs, fn, rfl, hf, hn, hb, hc⟩ := hc
 have he := evl_args (ha.evl hx)
 have hc' := ha.ev hcv
 exact Does.call (wantF_of ha hw) F (fs ++ vs.toArray ++ cs) (by
  unfold execOp
  simp only [ho, resolve, he, hc', Deferred.ofValue, Sem.run_bind, Sem.run_pure, Result.andThen_ok, invoke]
  simp only [callFunc, Sem.run_bind, run_program, Result.andThen_ok, hf, hn, hb]
  rfl) (by
  unfold CX at hc
  rw [show (fs.toList ++ vs ++ cs.toList).toArray = fs ++ vs.toArray ++ cs from by apply Array.ext'; simp] at hc
  exact Calls.mono hc fun e w' ⟨v, he, h⟩ => ⟨v, he, h⟩)
end
def StI {σ : Type} (P : Nat) (I : σ → World → Prop) (st : σ) (W : World) : Prop := (∀ st W W', I st W → Chg P W W' → I st W') ∧ I st W
theorem StI.chgL {σ : Type} {P : Nat} {I : σ → World → Prop} {st : σ} {W W' : World} (h : StI P I st W) (g : Chg P W W') {L : List Nat} (_ : P ∈ L) : StI P I st W' := ⟨h.1, h.1 _ _ _ h.2 g⟩
theorem StI.below {σ : Type} {P : Nat} {I : σ → World → Prop} {st : σ} {W W' : World} (h : StI P I st W) (g : Below W.heap.size W W') : StI P I st W' := ⟨h.1, h.1 _ _ _ h.2 (.of_below g)⟩
def memL {σ : Type} (s : ByteArray) (one : Nat → σ → Except Int (σ × Nat)) (la : Int) : Nat → Nat → σ → Except Int (σ × Nat)
 | 0, _, _ => .error 2
 | n + 1, k, st => match one (blankS s k) st with
  | .error e => .error e
  | .ok (st', k2) => if takeS s (blankS s k2) la = true then .ok (st', blankS s k2 + 1) else if takeS s (blankS s k2) 44 = true then memL s one la n (blankS s k2 + 1) st' else .error 2
def memS {σ : Type} (s : ByteArray) (one : Nat → σ → Except Int (σ × Nat)) (la : Int) (k : Nat) (st : σ) : Except Int (σ × Nat) :=
 if takeS s (blankS s (k + 1)) la = true then .ok (st, blankS s (k + 1) + 1) else memL s one la (s.size + 1) (blankS s (k + 1)) st
section
variable {σ : Type} {s : ByteArray} {one : Nat → σ → Except Int (σ × Nat)} {la e : Int} {n k k1 k2 k3 k4 : Nat} {st st' : σ}
theorem memS_0 (e1 : k1 = k + 1) (e2 : k2 = blankS s k1) (t : takeS s k2 la = true) (e3 : k3 = k2 + 1) : memS s one la k st = .ok (st, k3) := by subst e3 e2 e1; unfold memS; rw [if_pos t]
theorem memS_1 (e1 : k1 = k + 1) (e2 : k2 = blankS s k1) (t : takeS s k2 la = false) : memS s one la k st = memL s one la (s.size + 1) k2 st := by subst e2 e1; unfold memS; rw [t]; rfl
theorem memL_e (e1 : k1 = blankS s k) (h : one k1 st = .error e) : memL s one la (n + 1) k st = .error e := by subst e1; rw [memL, h]
theorem memL_0 (e1 : k1 = blankS s k) (h : one k1 st = .ok (st', k2)) (e2 : k3 = blankS s k2) (t : takeS s k3 la = true) (e3 : k4 = k3 + 1) : memL s one la (n + 1) k st = .ok (st', k4) := by subst e3 e2 e1; rw [memL, h]; dsimp only; rw [if_pos t]
theorem memL_c (e1 : k1 = blankS s k) (h : one k1 st = .ok (st', k2)) (e2 : k3 = blankS s k2) (t : takeS s k3 la = false) (t2 : takeS s k3 44 = true) (e3 : k4 = k3 + 1) : memL s one la (n + 1) k st = memL s one la n k4 st' := by subst e3 e2 e1; rw [memL, h]; dsimp only; rw [t, t2]; rfl
theorem memL_x (e1 : k1 = blankS s k) (h : one k1 st = .ok (st', k2)) (e2 : k3 = blankS s k2) (t : takeS s k3 la = false) (t2 : takeS s k3 44 = false) : memL s one la (n + 1) k st = .error 2 := by subst e2 e1; rw [memL, h]; dsimp only; rw [t, t2]; rfl
end
theorem members_v {σ : Type} (I : σ → World → Prop) (E : World → Prop) (one : Nat → σ → Except Int (σ × Nat)) (fi la : Int) (g : Value) (b V : Nat) (st0 : σ) (m : σ → Nat) (s : ByteArray) (P ka dp : Nat) (w : World) (L : List Nat) (hL : LL L w) (hPL : P ∈ L) (hs : s.size ≤ 1000000) (hk : ka ≤ s.size) (hp : Blk w P (psC s ka dp))
  (hbw : b ≤ w.heap.size) (hE : ∀ st W, I st W → E W) (hst : StI P I st0 w) (hm0 : m st0 ≤ ka) (hq : takeS s ka fi = true)
  (hg : ∀ (W : World) (L' : List Nat) (k : Nat) (st : σ), LL L' W → P ∈ L' → b ≤ W.heap.size → k ≤ s.size → Blk W P (psC s k dp) → I st W → m st ≤ k → FX Tryz.prog g [] W (ChgV b P V) (fun v W' => (∃ k' st', v = .int .i64 0 ∧ one k st = .ok (st', k') ∧ k < k' ∧ k' ≤ s.size ∧ m st' ≤ k' ∧ I st' W' ∧ Blk W' P (psC s k' dp)) ∨ (∃ k' e, v = .int .i64 e ∧ e ≠ 0 ∧ one k st = .error e ∧ k' ≤ s.size ∧ E W' ∧ Blk W' P (psC s k' dp)))) :
  CX Tryz.prog 53 [.pointer (some ⟨P, 0, none⟩), .int .u8 fi, .int .u8 la, g] w (ChgV b P V) fun v W => (∃ k' st', v = .int .i64 0 ∧ memS s one la ka st0 = .ok (st', k') ∧ ka < k' ∧ k' ≤ s.size ∧ I st' W ∧ Blk W P (psC s k' dp)) ∨ (∃ k' e, v = .int .i64 e ∧ e ≠ 0 ∧ memS s one la ka st0 = .error e ∧ k' ≤ s.size ∧ E W ∧ Blk W P (psC s k' dp)) := by
 refine cx_enter (N := 47) (f := [(0, .pointer (some ⟨P, 0, none⟩)), (1, .int .u8 fi), (2, .int .u8 la), (3, g)]) Tryz.func53 rfl rfl rfl rfl fun Q hQ hE_ => ?_
 have hB := ChgV.refl b P V w
 have hL0 := hL
 refine Sq fun K1 hK1 => (Rg (Pu rfl (Ni (hK1 (Sq fun K2 hK2 => (Rg (Pu rfl ?_)))))))
 refine Va (dx_nilCheck rfl rfl) rfl rfl (Va (dx_fld (o1 := 0) rfl ty_fld_39_0_0 rfl rfl) rfl rfl (Pu rfl ?_))
 refine Ge (dx_cw rfl Tryz.func25 rfl rfl rfl (take_y fi s P ka dp w _ hL hPL hs (by omega) hp hq)) rfl rfl ?_
 rintro _ W13 ⟨⟨k9, rfl, hk10, hk11, hp14⟩, g12⟩
 replace hst := hst.chgL g12 hPL
 replace hB := hB.chg g12 (Nat.le_trans hbw hB.size)
 replace hL := hL.chg g12
 refine Ni (hK2 (Sq fun K15 hK15 => (Rg (Pu rfl (Va (dx_nilCheck rfl rfl) rfl rfl (Va (dx_fld (o1 := 0) rfl ty_fld_39_0_0 rfl rfl) rfl rfl ?_))))))
 refine Ge (dx_cw rfl Tryz.func12 rfl rfl rfl (blanks_v s P k9 dp W13 _ hL hPL hs (by omega) hp14)) rfl rfl ?_
 rintro _ W26 ⟨hp27, g25⟩
 replace hst := hst.chgL g25 hPL
 replace hB := hB.chg g25 (Nat.le_trans hbw hB.size)
 replace hL := hL.chg g25
 obtain ⟨k22, hk23⟩ : ∃ k, k = blankS s k9 := ⟨_, rfl⟩
 rw [← hk23] at hp27
 have hk24 := blankS_le (s := s) (k := k9) (by omega)
 rw [← hk23] at hk24
 refine Ni (hK15 (Sq fun K28 hK28 => (Sq fun K29 hK29 => (Rg (Pu rfl (Va (dx_nilCheck rfl rfl) rfl rfl (Va (dx_fld (o1 := 0) rfl ty_fld_39_0_0 rfl rfl) rfl rfl ?_)))))))
 refine Pu rfl ?_
 refine Ge (dx_cw rfl Tryz.func25 rfl rfl rfl (take_v la s P k22 dp W26 _ hL hPL hs (by omega) hp27)) rfl rfl ?_
 rintro _ W40 ⟨⟨k36, rfl, hk37, hk38, hp41⟩, g39⟩
 replace hst := hst.chgL g39 hPL
 replace hB := hB.chg g39 (Nat.le_trans hbw hB.size)
 replace hL := hL.chg g39
 cases hT42 : takeS s k22 la with
 | false =>
  rw [hT42] at hk37
  replace hk37 : k22 = k36 := Eq.symm hk37
  subst hk37
  refine Ni (hK29 (WC.condF rfl (WC.skip (hK28 (WC.block ?_)))))
  refine WC.loop2 (fun (kb : Nat) (st : σ) => [(0, .pointer (some ⟨P, 0, none⟩)), (1, .int .u8 fi), (2, .int .u8 la), (3, g)]) (fun (kb : Nat) (st : σ) W => kb ≤ s.size ∧ ka < kb ∧ m st ≤ kb ∧ (∃ n, s.size - kb < n ∧ memS s one la ka st0 = memL s one la n kb st) ∧ ChgV b P V w W ∧ LL (L) W ∧ StI P I st W ∧ Blk W P [.string s, .int .i64 (kb : Int), .int .i64 (dp : Int)]) (fun (kb : Nat) (st : σ) => s.size - kb) k22 st0 (by repeat first | exact trivial | refine aR ?_ | refine aI (by omega) ?_) ⟨(by omega), (by omega), (by omega), ⟨s.size + 1, by omega, (by apply memS_1 <;> first | assumption | omega)⟩, hB, hL, hst, hp41⟩ ?_
  clear hst hp41 hB hL
  rintro K43 kb st W44 ⟨hkb, hkk, hmk, hv, hB, hL, hst, hp41⟩ hK43
  refine WC.block (Sq fun K45 hK45 => ?_)
  obtain ⟨n_, hn1, hv⟩ := hv
  obtain ⟨n, rfl⟩ : ∃ m, n_ = m + 1 := ⟨n_ - 1, by omega⟩
  refine Rg (Pu rfl (Va (dx_nilCheck rfl rfl) rfl rfl (Va (dx_fld (o1 := 0) rfl ty_fld_39_0_0 rfl rfl) rfl rfl ?_)))
  refine Ge (dx_cw rfl Tryz.func12 rfl rfl rfl (blanks_v s P kb dp W44 _ hL hPL hs (by omega) hp41)) rfl rfl ?_
  rintro _ W56 ⟨hp57, g55⟩
  replace hst := hst.chgL g55 hPL
  replace hB := hB.chg g55 (Nat.le_trans hbw hB.size)
  replace hL := hL.chg g55
  obtain ⟨k52, hk53⟩ : ∃ k, k = blankS s kb := ⟨_, rfl⟩
  rw [← hk53] at hp57
  have hk54 := blankS_le (s := s) (k := kb) (by omega)
  rw [← hk53] at hk54
  refine Ni (hK45 (Sq fun K58 hK58 => (Sq fun K59 hK59 => (Rg (Pu rfl ?_)))))
  refine Ge (dx_fx rfl rfl rfl (hg W56 _ k52 _ hL hPL (Nat.le_trans hbw hB.size) (by omega) hp57 hst.2 (by omega))) rfl rfl ?_
  rintro _ W74 ⟨(⟨k60, st61, rfl, hg64, hg65, hg66, hm72, hg67, hp75⟩ | ⟨k62, e63, rfl, hg68, hg69, hg70, hg71, hp75⟩), g73⟩
  ·
   replace hB := hB.both g73
   replace hL := hL.chgV g73
   replace hst : StI P I st61 W74 := ⟨hst.1, hg67⟩
   refine Pu rfl (Ni (hK59 (Sq fun K76 hK76 => (Rg (Pu rfl (Va (dx_neq rfl rfl rfl) rfl rfl (Ni ?_)))))))
   refine hK76 (WC.condF rfl (WC.skip (hK58 (Sq fun K77 hK77 => (Rg (Pu rfl (Va (dx_nilCheck rfl rfl) rfl rfl ?_)))))))
   refine Va (dx_fld (o1 := 0) rfl ty_fld_39_0_0 rfl rfl) rfl rfl ?_
   refine Ge (dx_cw rfl Tryz.func12 rfl rfl rfl (blanks_v s P k60 dp W74 _ hL hPL hs (by omega) hp75)) rfl rfl ?_
   rintro _ W88 ⟨hp89, g87⟩
   replace hst := hst.chgL g87 hPL
   replace hB := hB.chg g87 (Nat.le_trans hbw hB.size)
   replace hL := hL.chg g87
   obtain ⟨k84, hk85⟩ : ∃ k, k = blankS s k60 := ⟨_, rfl⟩
   rw [← hk85] at hp89
   have hk86 := blankS_le (s := s) (k := k60) (by omega)
   rw [← hk85] at hk86
   refine Ni (hK77 (Sq fun K90 hK90 => (Sq fun K91 hK91 => (Rg (Pu rfl (Va (dx_nilCheck rfl rfl) rfl rfl (Va (dx_fld (o1 := 0) rfl ty_fld_39_0_0 rfl rfl) rfl rfl ?_)))))))
   refine Pu rfl ?_
   refine Ge (dx_cw rfl Tryz.func25 rfl rfl rfl (take_v la s P k84 dp W88 _ hL hPL hs (by omega) hp89)) rfl rfl ?_
   rintro _ W102 ⟨⟨k98, rfl, hk99, hk100, hp103⟩, g101⟩
   replace hst := hst.chgL g101 hPL
   replace hB := hB.chg g101 (Nat.le_trans hbw hB.size)
   replace hL := hL.chg g101
   cases hT104 : takeS s k84 la with
   | false =>
    rw [hT104] at hk99
    replace hk99 : k84 = k98 := Eq.symm hk99
    subst hk99
    refine Ni (hK91 (WC.condF rfl (WC.skip (hK90 (Sq fun K105 hK105 => (Rg (Pu rfl ?_)))))))
    refine Va (dx_nilCheck rfl rfl) rfl rfl (Va (dx_fld (o1 := 0) rfl ty_fld_39_0_0 rfl rfl) rfl rfl ?_)
    refine Ge (dx_cw rfl Tryz.func25 rfl rfl rfl (take_v 44 s P k84 dp W102 _ hL hPL hs (by omega) hp103)) rfl rfl ?_
    rintro _ W116 ⟨⟨k112, rfl, hk113, hk114, hp117⟩, g115⟩
    replace hst := hst.chgL g115 hPL
    replace hB := hB.chg g115 (Nat.le_trans hbw hB.size)
    replace hL := hL.chg g115
    cases hT118 : takeS s k84 44 with
    | false =>
     rw [hT118] at hk113
     replace hk113 : k84 = k112 := Eq.symm hk113
     subst hk113
     refine Va (dx_not rfl rfl) rfl rfl (Ni (hK105 (WC.condT rfl (Sq fun K119 hK119 => (Rg (Pu rfl (Ni ?_)))))))
     refine hK119 ?_
     exact WC.ret fun a_ ha_ => hQ (cx_ret1 rfl (.tmp rfl) (.inr ⟨k84, 2, rfl, by decide, hv.trans (by apply memL_x <;> first | assumption | omega), by omega, hE _ _ hst.2, hp117⟩) hB ha_)
    | true =>
     rw [hT118] at hk113
     have hthT118 := take_t hT118
     replace hk113 : k112 = k84 + 1 := hk113
     refine Va (dx_not rfl rfl) rfl rfl (Ni (hK105 (WC.condF rfl (WC.skip ?_))))
     exact hK43 k112 st61 ⟨(by omega), (by omega), (by omega), ⟨n, by omega, hv.trans (by apply memL_c <;> first | assumption | omega)⟩, hB, hL, hst, hp117⟩ (by omega) (by repeat first | exact trivial | refine aR ?_ | refine aI (by omega) ?_)
   | true =>
    rw [hT104] at hk99
    have hthT104 := take_t hT104
    replace hk99 : k98 = k84 + 1 := hk99
    refine Ni (hK91 (WC.condT rfl (Sq fun K120 hK120 => (Rg (Pu rfl (Ni (hK120 ?_)))))))
    exact WC.ret fun a_ ha_ => hQ (cx_ret1 rfl (.tmp rfl) (.inl ⟨k98, st61, rfl, (by first | (apply memS_0 <;> first | assumption | omega; done) | (refine hv.trans ?_; apply memL_0 <;> first | assumption | omega; done)), by omega, by omega, hst.2, hp103⟩) hB ha_)
  ·
   replace hB := hB.both g73
   refine Pu rfl (Ni (hK59 (Sq fun K121 hK121 => (Rg (Pu rfl (Va (dv_NT (dx_neq rfl rfl rfl) hg68) rfl rfl (Ni ?_)))))))
   refine hK121 (WC.condT rfl (Sq fun K122 hK122 => (Rg (Pu rfl (Pu rfl (Ni (hK122 ?_)))))))
   exact WC.ret fun a_ ha_ => hQ (cx_ret1 rfl (.tmp rfl) (.inr ⟨k62, e63, rfl, hg68, hv.trans (by apply memL_e <;> first | assumption | omega), by omega, hg71, hp75⟩) hB ha_)
 | true =>
  rw [hT42] at hk37
  have hthT42 := take_t hT42
  replace hk37 : k36 = k22 + 1 := hk37
  refine Ni (hK29 (WC.condT rfl (Sq fun K123 hK123 => (Rg (Pu rfl (Ni (hK123 ?_)))))))
  exact WC.ret fun a_ ha_ => hQ (cx_ret1 rfl (.tmp rfl) (.inl ⟨k36, st0, rfl, (by first | (apply memS_0 <;> first | assumption | omega; done) | (refine hv.trans ?_; apply memL_0 <;> first | assumption | omega; done)), by omega, by omega, hst.2, hp41⟩) hB ha_)

def nestS (dp : Nat) (rd : Except Int (Js × Nat)) : Except Int (Js × Nat) := if dp = 12 then .error 4 else rd
set_option maxHeartbeats 1000000 in
theorem nested_v (g : Value) (n : Nat) (rd : Except Int (Js × Nat)) (s : ByteArray) (P ka dp : Nat) (w : World) (L : List Nat) (hL : LL L w) (hPL : P ∈ L) (hs : s.size ≤ 1000000) (hk : ka ≤ s.size) (hp : Blk w P (psC s ka dp))  (hdp : dp ≤ 12) (hg : ¬ dp = 12 → ∀ (W : World) (L' : List Nat), LL L' W → P ∈ L' → w.heap.size ≤ W.heap.size → ∀ d, d = dp + 1 → Blk W P (psC s ka d) → FW Tryz.prog g [] W P (fun v W' => (∃ k' t, v = .tuple #[.agg #[.int .i64 t.kind, .int .i64 t.num, .string t.text, t.nv, t.iv], .int .i64 0] ∧ rd = .ok (t.er, k') ∧ RdT (n + 1) L' W' t ∧ ka < k' ∧ k' ≤ s.size ∧ Blk W' P (psC s k' d)) ∨ (∃ k' e cs, v = .tuple #[.agg (List.toArray cs), .int .i64 e] ∧ e ≠ 0 ∧ cs.length = 5 ∧ (∀ u ∈ cs, u.oneCell' = true) ∧ rd = .error e ∧ k' ≤ s.size ∧ Blk W' P (psC s k' d)))) : CW Tryz.prog 30 [.pointer (some ⟨P, 0, none⟩), g] w P fun v W => (∃ k' t, v = .tuple #[.agg #[.int .i64 t.kind, .int .i64 t.num, .string t.text, t.nv, t.iv], .int .i64 0] ∧ nestS dp rd = .ok (t.er, k') ∧ RdT (n + 1) L W t ∧ ka < k' ∧ k' ≤ s.size ∧ Blk W P (psC s k' dp)) ∨ (∃ k' e, v = .tuple #[.agg #[.int .i64 0, .int .i64 0, .string ⟨#[]⟩, .slice none 0 0, .slice none 0 0], .int .i64 e] ∧ e ≠ 0 ∧ nestS dp rd = .error e ∧ k' ≤ s.size ∧ Blk W P (psC s k' dp)) := by
 refine cw_enter (N := 38) (f := [(0, .pointer (some ⟨P, 0, none⟩)), (1, g)]) Tryz.func30 rfl rfl rfl rfl fun Q hQ hE => ?_
 have hB := Chg.refl P w
 have hL0 := hL
 refine Sq fun K1 hK1 => (Rg ?_)
 refine Ge (dx_alloc rfl ty_zero_27 rfl) rfl rfl ?_
 rintro _ W2 ⟨rfl, k3, b4, z5⟩
 have n6 : P ≠ w.heap.size := Nat.ne_of_lt hp.lt
 have l7 := hB.size
 replace hp := hp.below b4
 replace hB := Chg.thenB hB b4
 replace hL := LL.more hL z5
 refine Pu rfl (Ni (hK1 (Sq fun K8 hK8 => (Sq fun K9 hK9 => (Rg (Pu rfl (Va (dx_nilCheck rfl rfl) rfl rfl ?_)))))))
 refine Va (dx_fld (o1 := 2) rfl ty_fld_39_1_2 rfl rfl) rfl rfl (Va (dx_load rfl ty_one_3 rfl (hp.cell (k := 2) rfl)) rfl rfl (Va (dx_eql rfl rfl rfl) rfl rfl (Ni (hK9 ?_))))
 refine WC.cond rfl (fun c10 => ?_) (fun c10 => ?_)
 ·
  replace c10 := dT c10
  refine Sq fun K11 hK11 => (Rg (Va (dx_build rfl rfl (built_of_O (cs := zV) (by kernel_rfl) oc_nil)) rfl rfl ?_))
  refine WL.do (dx_store (cs' := zV) (vs := zV) rfl ty_size_27_5 rfl rfl rfl o5 k3 rfl (nB rfl) rfl) rfl ?_
  rintro _ W12 ⟨k14, o13⟩
  replace hp := hp.other o13 n6
  clear k3
  replace hB := Chg.only hB o13 (.inr l7)
  refine Pu rfl (Ni (hK11 ?_))
  exact WC.ret fun a_ ha_ => hQ (cw_ret2 rfl (.agg rfl ty_agg_27_5 k14.range rfl) (.tmp rfl) (.inr ⟨ka, 4, rfl, by decide, (by unfold nestS; rw [if_pos (by omega)]), by omega, hp⟩) hB ha_)
 ·
  replace c10 := dF c10
  refine WC.skip (hK8 (Sq fun K15 hK15 => ?_))
  have hd12 : ¬ dp = 12 := by omega
  obtain ⟨dq, hdq⟩ : ∃ q, q = dp + 1 := ⟨_, rfl⟩
  refine Rg (Pu rfl (Va (dx_nilCheck rfl rfl) rfl rfl (Va (dx_fld (o1 := 2) rfl ty_fld_39_1_2 rfl rfl) rfl rfl (Va (dx_load rfl ty_one_3 rfl (hp.cell (k := 2) rfl)) rfl rfl (Va (dx_add (r := (dq : Int)) rfl rfl rfl (by rw [wrap64_id (by omega)]; omega)) rfl rfl (Va (dx_nilCheck rfl rfl) rfl rfl (Va (dx_fld (o1 := 2) rfl ty_fld_39_1_2 rfl rfl) rfl rfl ?_)))))))
  refine WL.do (dx_store (cs' := [.string s, .int .i64 (ka : Int), .int .i64 (dq : Int)]) (vs := [.int .i64 (dq : Int)]) rfl ty_size_3_1 rfl rfl rfl (oC rfl oc_nil) hp rfl (nB rfl) rfl) rfl ?_
  rintro _ W16 ⟨k18, o17⟩
  replace k3 := k3.other o17 n6.symm
  clear hp
  replace hB := Chg.only hB o17 (.inl rfl)
  replace hL := LL.only hL o17
  refine Ni (hK15 (Sq fun K19 hK19 => (Rg (Pu rfl ?_))))
  refine Ge (dx_fw rfl rfl rfl (hg hd12 W16 _ hL (.tail _ hPL) hB.size dq hdq k18)) rfl rfl ?_
  rintro _ W49 ⟨(⟨k34, t35, rfl, hg39, hg40, hg41, hg42, hp50⟩ | ⟨k36, e37, cs38, rfl, hg43, hg44, hg45, hg46, hg47, hp50⟩), g48⟩
  ·
   replace k3 := k3.chg g48 n6.symm
   replace hB := Chg.both hB g48
   refine Pu rfl (Pu rfl (Pu rfl ?_))
   refine Ge (dx_alloc rfl ty_zero_27 rfl) rfl rfl ?_
   rintro _ W51 ⟨rfl, k52, b53, z54⟩
   have n55 : P ≠ W49.heap.size := Nat.ne_of_lt hp50.lt
   have n56 : w.heap.size ≠ W49.heap.size := Nat.ne_of_lt k3.lt
   have l57 := hB.size
   replace hg40 := hg40.more b53 (Nat.le_refl _)
   replace hp50 := hp50.below b53
   replace k3 := k3.below b53
   replace hB := Chg.thenB hB b53
   refine WL.do (dx_store (cs' := [.int .i64 t35.kind, .int .i64 t35.num, .string t35.text, t35.nv, t35.iv]) (vs := [.int .i64 t35.kind, .int .i64 t35.num, .string t35.text, t35.nv, t35.iv]) rfl ty_size_27_5 rfl rfl rfl (oC rfl (oC rfl (oC rfl (oC (hg40.1).one (oC (hg40.2.1).one oc_nil))))) k52 rfl (nB rfl) rfl) rfl ?_
   rintro _ W58 ⟨k60, o59⟩
   replace hp50 := hp50.other o59 n55
   replace k3 := k3.other o59 n56
   clear k52
   replace hg40 := hg40.only o59 (.head _)
   replace hB := Chg.only hB o59 (.inr l57)
   refine Pu rfl (Ni (hK19 (Sq fun K61 hK61 => (Rg (Pu rfl (Va (dx_nilCheck rfl rfl) rfl rfl (Va (dx_fld (o1 := 2) rfl ty_fld_39_1_2 rfl rfl) rfl rfl ?_)))))))
   refine Va (dx_load rfl ty_one_3 rfl (hp50.cell (k := 2) rfl)) rfl rfl (Va (dx_sub (r := (dp : Int)) rfl rfl rfl (by rw [wrap64_id (by omega)]; omega)) rfl rfl (Va (dx_nilCheck rfl rfl) rfl rfl (Va (dx_fld (o1 := 2) rfl ty_fld_39_1_2 rfl rfl) rfl rfl ?_)))
   refine WL.do (dx_store (cs' := [.string s, .int .i64 (k34 : Int), .int .i64 (dp : Int)]) (vs := [.int .i64 (dp : Int)]) rfl ty_size_3_1 rfl rfl rfl (oC rfl oc_nil) hp50 rfl (nB rfl) rfl) rfl ?_
   rintro _ W62 ⟨k64, o63⟩
   replace k3 := k3.other o63 n6.symm
   replace k60 := k60.other o63 n55.symm
   clear hp50
   replace hg40 := hg40.only o63 (.tail _ (.tail _ hPL))
   replace hB := Chg.only hB o63 (.inl rfl)
   refine Ni (hK61 (Sq fun K65 hK65 => (Sq fun K66 hK66 => (Rg (Pu rfl (Va (dx_neq rfl rfl rfl) rfl rfl (Ni ?_)))))))
   refine hK66 (WC.condF rfl (WC.skip (hK65 (Sq fun K67 hK67 => (Rg (Va (dx_loadN rfl ty_agg_27_5 rfl k60.range rfl) rfl rfl ?_))))))
   refine WL.do (dx_store (cs' := [.int .i64 t35.kind, .int .i64 t35.num, .string t35.text, t35.nv, t35.iv]) (vs := [.int .i64 t35.kind, .int .i64 t35.num, .string t35.text, t35.nv, t35.iv]) rfl ty_size_27_5 rfl rfl rfl (oC rfl (oC rfl (oC rfl (oC (hg40.1).one (oC (hg40.2.1).one oc_nil))))) k3 rfl (nB rfl) rfl) rfl ?_
   rintro _ W68 ⟨k70, o69⟩
   replace k64 := k64.other o69 n6
   clear k3
   replace hg40 := hg40.only o69 (.tail _ (.head _))
   replace hB := Chg.only hB o69 (.inr l7)
   refine Pu rfl (Ni (hK67 ?_))
   exact WC.ret fun a_ ha_ => hQ (cw_ret2 rfl (.agg rfl ty_agg_27_5 k70.range rfl) (.tmp rfl) (.inl ⟨k34, t35, rfl, (by unfold nestS; rw [if_neg hd12]; exact hg39), (hg40.less (fun x hx => (.tail _ (.tail _ hx)))), by omega, by omega, k64⟩) hB ha_)
  ·
   replace k3 := k3.chg g48 n6.symm
   replace hB := Chg.both hB g48
   refine Pu rfl (Pu rfl (Pu rfl ?_))
   refine Ge (dx_alloc rfl ty_zero_27 rfl) rfl rfl ?_
   rintro _ W71 ⟨rfl, k72, b73, z74⟩
   have n75 : P ≠ W49.heap.size := Nat.ne_of_lt hp50.lt
   have n76 : w.heap.size ≠ W49.heap.size := Nat.ne_of_lt k3.lt
   have l77 := hB.size
   replace hp50 := hp50.below b73
   replace k3 := k3.below b73
   replace hB := Chg.thenB hB b73
   refine WL.do (dx_storeW (vs := cs38) rfl ty_size_27_5 rfl rfl rfl hg45 k72 hg44 rfl) rfl ?_
   rintro _ W78 ⟨k80, o79⟩
   replace hp50 := hp50.other o79 n75
   replace k3 := k3.other o79 n76
   clear k72
   replace hB := Chg.only hB o79 (.inr l77)
   refine Pu rfl (Ni (hK19 (Sq fun K81 hK81 => (Rg (Pu rfl (Va (dx_nilCheck rfl rfl) rfl rfl (Va (dx_fld (o1 := 2) rfl ty_fld_39_1_2 rfl rfl) rfl rfl ?_)))))))
   refine Va (dx_load rfl ty_one_3 rfl (hp50.cell (k := 2) rfl)) rfl rfl (Va (dx_sub (r := (dp : Int)) rfl rfl rfl (by rw [wrap64_id (by omega)]; omega)) rfl rfl (Va (dx_nilCheck rfl rfl) rfl rfl (Va (dx_fld (o1 := 2) rfl ty_fld_39_1_2 rfl rfl) rfl rfl ?_)))
   refine WL.do (dx_store (cs' := [.string s, .int .i64 (k36 : Int), .int .i64 (dp : Int)]) (vs := [.int .i64 (dp : Int)]) rfl ty_size_3_1 rfl rfl rfl (oC rfl oc_nil) hp50 rfl (nB rfl) rfl) rfl ?_
   rintro _ W82 ⟨k84, o83⟩
   replace k3 := k3.other o83 n6.symm
   clear hp50
   replace hB := Chg.only hB o83 (.inl rfl)
   refine Ni (hK81 (Sq fun K85 hK85 => (Sq fun K86 hK86 => (Rg (Pu rfl (Va (dv_NT (dx_neq rfl rfl rfl) hg43) rfl rfl (Ni ?_)))))))
   refine hK86 (WC.condT rfl (Sq fun K87 hK87 => (Rg (Va (dx_build rfl rfl (built_of_O (cs := zV) (by kernel_rfl) oc_nil)) rfl rfl (Pu rfl ?_)))))
   refine WL.do (dx_store (cs' := zV) (vs := zV) rfl ty_size_27_5 rfl rfl rfl o5 k3 rfl (nB rfl) rfl) rfl ?_
   rintro _ W88 ⟨k90, o89⟩
   replace k84 := k84.other o89 n6
   clear k3
   replace hB := Chg.only hB o89 (.inr l7)
   refine Pu rfl (Ni (hK87 ?_))
   exact WC.ret fun a_ ha_ => hQ (cw_ret2 rfl (.agg rfl ty_agg_27_5 k90.range rfl) (.tmp rfl) (.inr ⟨k36, e37, rfl, hg43, (by unfold nestS; rw [if_neg hd12]; exact hg46), by omega, k84⟩) hB ha_)

def leafT (k n : Int) (t : ByteArray) : Tr := .mk k n t (.slice none 0 0) [] (.slice none 0 0) []
def leafS (k n : Int) (t : ByteArray) : Js := .mk k n t [] []
theorem leaf_er' (k n : Int) (t : ByteArray) : (leafT k n t).er = leafS k n t := by unfold leafT leafS; rw [Tr.er_mk]; rfl
theorem leaf_rd (k n : Int) (t : ByteArray) (m : Nat) (L : List Nat) (w : World) : RdT (m + 1) L w (leafT k n t) := ⟨RdF.nil (by decide), RdF.nil (by decide), fun c hc => by cases hc⟩
def wordR (s w : ByteArray) (kd : Int) (k : Nat) : Except Int (Js × Nat) := if wordS s w k = true then .ok (leafS kd 0 ⟨#[]⟩, k + w.size) else .error 2
def numR (s : ByteArray) (k : Nat) : Except Int (Js × Nat) := match numS s k with
 | .error e => .error e
 | .ok (n, k') => .ok (leafS 3 n ⟨#[]⟩, k')
def quoR (s : ByteArray) (k : Nat) : Except Int (Js × Nat) := match quoS s k with
 | none => .error 2
 | some (l, k') => .ok (leafS 4 0 (strOfNums l), k')
def valB (s : ByteArray) (dp : Nat) (rl ro : Except Int (Js × Nat)) (k : Nat) : Except Int (Js × Nat) :=
 if k < s.size then
  if atS s k = 110 then wordR s ⟨#[110, 117, 108, 108]⟩ 0 k else if atS s k = 116 then wordR s ⟨#[116, 114, 117, 101]⟩ 1 k else if atS s k = 102 then wordR s ⟨#[102, 97, 108, 115, 101]⟩ 2 k
  else if atS s k = 45 ∨ (48 ≤ atS s k ∧ atS s k ≤ 57) then numR s k else if atS s k = 34 then quoR s k
  else if atS s k = 91 then nestS dp rl else if atS s k = 123 then nestS dp ro else .error 2
 else .error 2
def valC (s : ByteArray) (dp : Nat) (rl ro : Except Int (Js × Nat)) (k : Nat) (c : Int) : Except Int (Js × Nat) :=
  if c = 110 then wordR s ⟨#[110, 117, 108, 108]⟩ 0 k else if c = 116 then wordR s ⟨#[116, 114, 117, 101]⟩ 1 k else if c = 102 then wordR s ⟨#[102, 97, 108, 115, 101]⟩ 2 k
  else if c = 45 ∨ (48 ≤ c ∧ c ≤ 57) then numR s k else if c = 34 then quoR s k
  else if c = 91 then nestS dp rl else if c = 123 then nestS dp ro else .error 2
theorem valB_c {s : ByteArray} {dp : Nat} {rl ro : Except Int (Js × Nat)} {k : Nat} {c : Int} (h : k < s.size → c = atS s k) (h0 : s.size ≤ k → c = 0) : valB s dp rl ro k = valC s dp rl ro k c := by
  unfold valB
  split
  · rename_i hk
    rw [← h hk]; rfl
  · rename_i hk
    obtain rfl := h0 (by omega)
    rfl
section
variable {P : Program} {ops : Array Oper} {o : Oper} {N : Nat} {f : Fl} {w : World}
theorem dx_funcP {fn : FuncId} {x : Operand} {X q : Nat} (ho : o.op = .makeFunc (.func fn) #[x] #[]) (hx : ev f x = some (.pointer (some ⟨X, q, none⟩))) (hw : wantF ops o f = some true := by rfl) : DV P ops o N f w (.func (.func fn) #[.pointer (some ⟨X, q, none⟩)] #[]) := fun a ha => by
 have hx := ha.ev hx
 exact Does.pure (wantF_of ha hw) _ (by unfold execOp; simp [ho, Instr.makeFunc, hx, Sem.run_bind, Sem.run_pure, Result.andThen_ok]) ⟨rfl, rfl⟩
end
section
variable {s wd : ByteArray} {dp k k' : Nat} {rl ro : Except Int (Js × Nat)} {c n e kd : Int} {l : List Int}
theorem valC_n (h : c = 45 ∨ (48 ≤ c ∧ c ≤ 57)) : valC s dp rl ro k c = numR s k := by unfold valC; rw [if_neg (by omega), if_neg (by omega), if_neg (by omega), if_pos h]
theorem valC_q (h : c = 34) : valC s dp rl ro k c = quoR s k := by unfold valC; rw [if_neg (by omega), if_neg (by omega), if_neg (by omega), if_neg (by omega), if_pos h]
theorem valC_l (h : c = 91) : valC s dp rl ro k c = nestS dp rl := by unfold valC; rw [if_neg (by omega), if_neg (by omega), if_neg (by omega), if_neg (by omega), if_neg (by omega), if_pos h]
theorem valC_o (h : c = 123) : valC s dp rl ro k c = nestS dp ro := by unfold valC; rw [if_neg (by omega), if_neg (by omega), if_neg (by omega), if_neg (by omega), if_neg (by omega), if_neg (by omega), if_pos h]
theorem valC_0 (h0 : ¬ c = 110) (h1 : ¬ c = 116) (h2 : ¬ c = 102) (h3 : ¬ c = 45) (h4 : ¬ (48 ≤ c ∧ c ≤ 57)) (h5 : ¬ c = 34) (h6 : ¬ c = 91) (h7 : ¬ c = 123) : valC s dp rl ro k c = .error 2 := by unfold valC; rw [if_neg h0, if_neg h1, if_neg h2, if_neg (by omega), if_neg h5, if_neg h6, if_neg h7]
theorem valC_w0 (h : c = 110) : valC s dp rl ro k c = wordR s ⟨#[110, 117, 108, 108]⟩ 0 k := by unfold valC; rw [if_pos h]
theorem valC_w1 (h : c = 116) : valC s dp rl ro k c = wordR s ⟨#[116, 114, 117, 101]⟩ 1 k := by unfold valC; rw [if_neg (by omega), if_pos h]
theorem valC_w2 (h : c = 102) : valC s dp rl ro k c = wordR s ⟨#[102, 97, 108, 115, 101]⟩ 2 k := by unfold valC; rw [if_neg (by omega), if_neg (by omega), if_pos h]
theorem wordR_t (h : wordS s wd k = true) (e1 : k' = k + wd.size) : wordR s wd kd k = .ok ((leafT kd 0 ⟨#[]⟩).er, k') := by rw [leaf_er', e1]; unfold wordR; rw [if_pos h]
theorem wordR_f (h : wordS s wd k = false) : wordR s wd kd k = .error 2 := by unfold wordR; rw [h]; rfl
theorem numR_t (h : numS s k = .ok (n, k')) : numR s k = .ok ((leafT 3 n ⟨#[]⟩).er, k') := by rw [leaf_er']; unfold numR; rw [h]
theorem numR_f (h : numS s k = .error e) : numR s k = .error e := by unfold numR; rw [h]
theorem quoR_t (h : quoS s k = some (l, k')) : quoR s k = .ok ((leafT 4 0 (strOfNums l)).er, k') := by rw [leaf_er']; unfold quoR; rw [h]
theorem quoR_f (h : quoS s k = none) : quoR s k = .error 2 := by unfold quoR; rw [h]
end
set_option maxHeartbeats 1000000 in
theorem value_v (n : Nat) (rl ro : Except Int (Js × Nat)) (s : ByteArray) (P ka dp : Nat) (w : World) (L : List Nat) (hL : LL L w) (hPL : P ∈ L) (hs : s.size ≤ 1000000) (hk : ka ≤ s.size) (hp : Blk w P (psC s ka dp))  (hdp : dp ≤ 12) (hl : ¬ dp = 12 → takeS s ka 91 = true → ∀ (W : World) (L' : List Nat), LL L' W → P ∈ L' → ∀ d, d = dp + 1 → Blk W P (psC s ka d) → CW Tryz.prog 31 [.pointer (some ⟨P, 0, none⟩)] W P (fun v W' => (∃ k' t, v = .tuple #[.agg #[.int .i64 t.kind, .int .i64 t.num, .string t.text, t.nv, t.iv], .int .i64 0] ∧ rl = .ok (t.er, k') ∧ RdT (n + 1) L' W' t ∧ ka < k' ∧ k' ≤ s.size ∧ Blk W' P (psC s k' d)) ∨ (∃ k' e cs, v = .tuple #[.agg (List.toArray cs), .int .i64 e] ∧ e ≠ 0 ∧ cs.length = 5 ∧ (∀ u ∈ cs, u.oneCell' = true) ∧ rl = .error e ∧ k' ≤ s.size ∧ Blk W' P (psC s k' d)))) (ho : ¬ dp = 12 → takeS s ka 123 = true → ∀ (W : World) (L' : List Nat), LL L' W → P ∈ L' → ∀ d, d = dp + 1 → Blk W P (psC s ka d) → CW Tryz.prog 32 [.pointer (some ⟨P, 0, none⟩)] W P (fun v W' => (∃ k' t, v = .tuple #[.agg #[.int .i64 t.kind, .int .i64 t.num, .string t.text, t.nv, t.iv], .int .i64 0] ∧ ro = .ok (t.er, k') ∧ RdT (n + 1) L' W' t ∧ ka < k' ∧ k' ≤ s.size ∧ Blk W' P (psC s k' d)) ∨ (∃ k' e cs, v = .tuple #[.agg (List.toArray cs), .int .i64 e] ∧ e ≠ 0 ∧ cs.length = 5 ∧ (∀ u ∈ cs, u.oneCell' = true) ∧ ro = .error e ∧ k' ≤ s.size ∧ Blk W' P (psC s k' d)))) : CW Tryz.prog 13 [.pointer (some ⟨P, 0, none⟩)] w P fun v W => (∃ k' t, v = .tuple #[.agg #[.int .i64 t.kind, .int .i64 t.num, .string t.text, t.nv, t.iv], .int .i64 0] ∧ valB s dp rl ro ka = .ok (t.er, k') ∧ RdT (n + 1) L W t ∧ ka < k' ∧ k' ≤ s.size ∧ Blk W P (psC s k' dp)) ∨ (∃ k' e, v = .tuple #[.agg #[.int .i64 0, .int .i64 0, .string ⟨#[]⟩, .slice none 0 0, .slice none 0 0], .int .i64 e] ∧ e ≠ 0 ∧ valB s dp rl ro ka = .error e ∧ k' ≤ s.size ∧ Blk W P (psC s k' dp)) := by
 refine cw_enter (N := 80) (f := [(0, .pointer (some ⟨P, 0, none⟩))]) Tryz.func13 rfl rfl rfl rfl fun Q hQ hE => ?_
 have hB := Chg.refl P w
 have hL0 := hL
 refine Sq fun K1 hK1 => (Rg ?_)
 refine Ge (dx_alloc rfl ty_zero_27 rfl) rfl rfl ?_
 rintro _ W2 ⟨rfl, k3, b4, z5⟩
 have n6 : P ≠ w.heap.size := Nat.ne_of_lt hp.lt
 have l7 := hB.size
 replace hp := hp.below b4
 replace hB := Chg.thenB hB b4
 replace hL := LL.more hL z5
 refine Pu rfl (Ni (hK1 (Sq fun K8 hK8 => (Sq fun K9 hK9 => (Rg (Pu rfl (Va (dx_nilCheck rfl rfl) rfl rfl ?_)))))))
 refine Va (dx_fld (o1 := 0) rfl ty_fld_39_0_0 rfl rfl) rfl rfl ?_
 refine Ge (dx_cv rfl Tryz.func26 rfl rfl rfl (peek_c s P ka dp W2 _ hL (.tail _ hPL) hs (by omega) hp)) rfl rfl ?_
 rintro _ W31 ⟨⟨c25, rfl, hc26, hc27, hc28, hc29⟩, b30⟩
 replace hp := hp.below b30
 replace k3 := k3.below b30
 replace hB := Chg.thenB hB b30
 replace hL := LL.below hL b30
 refine Pu rfl (Ni (hK9 (WC.block (Sq fun K32 hK32 => (Rg (Pu rfl (Va (dx_eql rfl rfl rfl) rfl rfl ?_)))))))
 refine Pu rfl (Ni (hK32 ?_))
 refine WC.cond rfl (fun c33 => ?_) (fun c33 => ?_)
 ·
  replace c33 := dT c33
  refine Sq fun K34 hK34 => (Rg (Pu rfl ?_))
  refine Ge (dx_cw rfl Tryz.func27 rfl rfl rfl (plain_v ({ data := #[110, 117, 108, 108] }) 0 s P ka dp W31 _ hL (.tail _ hPL) hs (by omega) hp (by decide))) rfl rfl ?_
  rintro _ W50 ⟨(⟨k42, rfl, hw44, hw45, hw46, hp51⟩ | ⟨k43, rfl, hw47, hw48, hp51⟩), g49⟩
  ·
   replace k3 := k3.chg g49 n6.symm
   replace hB := Chg.both hB g49
   refine Pu rfl (Pu rfl ?_)
   refine WL.do (dx_store (cs' := zV) (vs := zV) rfl ty_size_27_5 rfl rfl rfl o5 k3 rfl (nB rfl) rfl) rfl ?_
   rintro _ W52 ⟨k54, o53⟩
   replace hp51 := hp51.other o53 n6
   clear k3
   replace hB := Chg.only hB o53 (.inr l7)
   refine Pu rfl (Ni (hK34 ?_))
   exact WC.ret fun a_ ha_ => hQ (cw_ret2 rfl (.agg rfl ty_agg_27_5 k54.range rfl) (.tmp rfl) (.inl ⟨k42, leafT 0 0 ⟨#[]⟩, rfl, (valB_c hc28 hc29).trans ((valC_w0 (by omega)).trans (wordR_t hw44 hw45)), leaf_rd _ _ _ _ _ _, by first | omega | (simp only [ByteArray.size] at *; simp at *; omega), by omega, hp51⟩) hB ha_)
  ·
   replace k3 := k3.chg g49 n6.symm
   replace hB := Chg.both hB g49
   refine Pu rfl (Pu rfl ?_)
   refine WL.do (dx_store (cs' := zV) (vs := zV) rfl ty_size_27_5 rfl rfl rfl o5 k3 rfl (nB rfl) rfl) rfl ?_
   rintro _ W55 ⟨k57, o56⟩
   replace hp51 := hp51.other o56 n6
   clear k3
   replace hB := Chg.only hB o56 (.inr l7)
   refine Pu rfl (Ni (hK34 ?_))
   exact WC.ret fun a_ ha_ => hQ (cw_ret2 rfl (.agg rfl ty_agg_27_5 k57.range rfl) (.tmp rfl) (.inr ⟨k43, 2, rfl, (by decide), (valB_c hc28 hc29).trans ((valC_w0 (by omega)).trans (wordR_f hw47)), by omega, hp51⟩) hB ha_)
 ·
  replace c33 := dF c33
  refine Sq fun K58 hK58 => (Rg (Pu rfl (Va (dx_eql rfl rfl rfl) rfl rfl (Pu rfl (Ni (hK58 ?_))))))
  refine WC.cond rfl (fun c59 => ?_) (fun c59 => ?_)
  ·
   replace c59 := dT c59
   refine Sq fun K60 hK60 => (Rg (Pu rfl ?_))
   refine Ge (dx_cw rfl Tryz.func27 rfl rfl rfl (plain_v ({ data := #[116, 114, 117, 101] }) 1 s P ka dp W31 _ hL (.tail _ hPL) hs (by omega) hp (by decide))) rfl rfl ?_
   rintro _ W76 ⟨(⟨k68, rfl, hw70, hw71, hw72, hp77⟩ | ⟨k69, rfl, hw73, hw74, hp77⟩), g75⟩
   ·
    replace k3 := k3.chg g75 n6.symm
    replace hB := Chg.both hB g75
    refine Pu rfl (Pu rfl ?_)
    refine WL.do (dx_store (cs' := [.int .i64 1, .int .i64 0, .string ⟨#[]⟩, .slice none 0 0, .slice none 0 0]) (vs := [.int .i64 1, .int .i64 0, .string ⟨#[]⟩, .slice none 0 0, .slice none 0 0]) rfl ty_size_27_5 rfl rfl rfl o5 k3 rfl (nB rfl) rfl) rfl ?_
    rintro _ W78 ⟨k80, o79⟩
    replace hp77 := hp77.other o79 n6
    clear k3
    replace hB := Chg.only hB o79 (.inr l7)
    refine Pu rfl (Ni (hK60 ?_))
    exact WC.ret fun a_ ha_ => hQ (cw_ret2 rfl (.agg rfl ty_agg_27_5 k80.range rfl) (.tmp rfl) (.inl ⟨k68, leafT 1 0 ⟨#[]⟩, rfl, (valB_c hc28 hc29).trans ((valC_w1 (by omega)).trans (wordR_t hw70 hw71)), leaf_rd _ _ _ _ _ _, by first | omega | (simp only [ByteArray.size] at *; simp at *; omega), by omega, hp77⟩) hB ha_)
   ·
    replace k3 := k3.chg g75 n6.symm
    replace hB := Chg.both hB g75
    refine Pu rfl (Pu rfl ?_)
    refine WL.do (dx_store (cs' := zV) (vs := zV) rfl ty_size_27_5 rfl rfl rfl o5 k3 rfl (nB rfl) rfl) rfl ?_
    rintro _ W81 ⟨k83, o82⟩
    replace hp77 := hp77.other o82 n6
    clear k3
    replace hB := Chg.only hB o82 (.inr l7)
    refine Pu rfl (Ni (hK60 ?_))
    exact WC.ret fun a_ ha_ => hQ (cw_ret2 rfl (.agg rfl ty_agg_27_5 k83.range rfl) (.tmp rfl) (.inr ⟨k69, 2, rfl, (by decide), (valB_c hc28 hc29).trans ((valC_w1 (by omega)).trans (wordR_f hw73)), by omega, hp77⟩) hB ha_)
  ·
   replace c59 := dF c59
   refine Sq fun K84 hK84 => (Rg (Pu rfl (Va (dx_eql rfl rfl rfl) rfl rfl (Pu rfl (Ni (hK84 ?_))))))
   refine WC.cond rfl (fun c85 => ?_) (fun c85 => ?_)
   ·
    replace c85 := dT c85
    refine Sq fun K86 hK86 => (Rg (Pu rfl ?_))
    refine Ge (dx_cw rfl Tryz.func27 rfl rfl rfl (plain_v ({ data := #[102, 97, 108, 115, 101] }) 2 s P ka dp W31 _ hL (.tail _ hPL) hs (by omega) hp (by decide))) rfl rfl ?_
    rintro _ W102 ⟨(⟨k94, rfl, hw96, hw97, hw98, hp103⟩ | ⟨k95, rfl, hw99, hw100, hp103⟩), g101⟩
    ·
     replace k3 := k3.chg g101 n6.symm
     replace hB := Chg.both hB g101
     refine Pu rfl (Pu rfl ?_)
     refine WL.do (dx_store (cs' := [.int .i64 2, .int .i64 0, .string ⟨#[]⟩, .slice none 0 0, .slice none 0 0]) (vs := [.int .i64 2, .int .i64 0, .string ⟨#[]⟩, .slice none 0 0, .slice none 0 0]) rfl ty_size_27_5 rfl rfl rfl o5 k3 rfl (nB rfl) rfl) rfl ?_
     rintro _ W104 ⟨k106, o105⟩
     replace hp103 := hp103.other o105 n6
     clear k3
     replace hB := Chg.only hB o105 (.inr l7)
     refine Pu rfl (Ni (hK86 ?_))
     exact WC.ret fun a_ ha_ => hQ (cw_ret2 rfl (.agg rfl ty_agg_27_5 k106.range rfl) (.tmp rfl) (.inl ⟨k94, leafT 2 0 ⟨#[]⟩, rfl, (valB_c hc28 hc29).trans ((valC_w2 (by omega)).trans (wordR_t hw96 hw97)), leaf_rd _ _ _ _ _ _, by first | omega | (simp only [ByteArray.size] at *; simp at *; omega), by omega, hp103⟩) hB ha_)
    ·
     replace k3 := k3.chg g101 n6.symm
     replace hB := Chg.both hB g101
     refine Pu rfl (Pu rfl ?_)
     refine WL.do (dx_store (cs' := zV) (vs := zV) rfl ty_size_27_5 rfl rfl rfl o5 k3 rfl (nB rfl) rfl) rfl ?_
     rintro _ W107 ⟨k109, o108⟩
     replace hp103 := hp103.other o108 n6
     clear k3
     replace hB := Chg.only hB o108 (.inr l7)
     refine Pu rfl (Ni (hK86 ?_))
     exact WC.ret fun a_ ha_ => hQ (cw_ret2 rfl (.agg rfl ty_agg_27_5 k109.range rfl) (.tmp rfl) (.inr ⟨k95, 2, rfl, (by decide), (valB_c hc28 hc29).trans ((valC_w2 (by omega)).trans (wordR_f hw99)), by omega, hp103⟩) hB ha_)
   ·
    replace c85 := dF c85
    refine Sq fun K110 hK110 => ?_
    have hJ8 : ∀ (b_ : Bool) (f_ : Fl), b_ = (decide (c25 = 45) || (decide (48 ≤ c25) && decide (c25 ≤ 57))) → Sub [(0, .pointer (some ⟨P, 0, none⟩)), (2, .pointer (some ⟨w.heap.size, 0, none⟩)), (3, .int .i64 0), (7, .pointer (some ⟨P, 0, none⟩)), (8, .pointer (some ⟨P, 0, none⟩)), (9, .pointer (some ⟨P, 0, none⟩)), (10, .int .u8 c25), (4, .int .u8 c25), (12, .int .u8 c25), (13, .bool (decide (c25 = 110))), (11, .bool (decide (c25 = 110))), (19, .int .u8 c25), (20, .bool (decide (c25 = 116))), (18, .bool (decide (c25 = 116))), (26, .int .u8 c25), (27, .bool (decide (c25 = 102))), (25, .bool (decide (c25 = 102))), (32, .bool b_)] f_ → ∀ a, Fr 80 a f_ → K110 a W31 := by
     intro b_ f_ hb_ hs_
     have hb3 := hb_
     refine hK110 (WC.sub hs_ ?_)
     refine WC.cond rfl (fun c111 => ?_) (fun c111 => ?_)
     ·
      refine Sq fun K112 hK112 => ?_
      have h3_ : c25 = 45 ∨ 48 ≤ c25 ∧ c25 ≤ 57 := by have q_ := hb3.symm.trans (show b_ = true by assumption); simpa using q_
      refine Rg (Pu rfl ?_)
      refine Ge (dx_cw rfl Tryz.func28 rfl rfl rfl (number_v s P ka dp W31 _ hL (.tail _ hPL) hs (by omega) hp)) rfl rfl ?_
      rintro _ W140 ⟨(⟨k126, n128, rfl, hw130, hw131, hw132, hw133, hw134, hp141⟩ | ⟨k127, e129, rfl, hw135, hw136, hw137, hp141⟩), g139⟩
      ·
       replace k3 := k3.chg g139 n6.symm
       replace hB := Chg.both hB g139
       refine Pu rfl (Pu rfl ?_)
       refine WL.do (dx_store (cs' := [.int .i64 3, .int .i64 n128, .string ⟨#[]⟩, .slice none 0 0, .slice none 0 0]) (vs := [.int .i64 3, .int .i64 n128, .string ⟨#[]⟩, .slice none 0 0, .slice none 0 0]) rfl ty_size_27_5 rfl rfl rfl o5 k3 rfl (nB rfl) rfl) rfl ?_
       rintro _ W142 ⟨k144, o143⟩
       replace hp141 := hp141.other o143 n6
       clear k3
       replace hB := Chg.only hB o143 (.inr l7)
       refine Pu rfl (Ni (hK112 ?_))
       exact WC.ret fun a_ ha_ => hQ (cw_ret2 rfl (.agg rfl ty_agg_27_5 k144.range rfl) (.tmp rfl) (.inl ⟨k126, leafT 3 n128 ⟨#[]⟩, rfl, (valB_c hc28 hc29).trans ((valC_n (by omega)).trans (numR_t hw130)), leaf_rd _ _ _ _ _ _, by first | omega | (simp only [ByteArray.size] at *; simp at *; omega), by omega, hp141⟩) hB ha_)
      ·
       replace k3 := k3.chg g139 n6.symm
       replace hB := Chg.both hB g139
       refine Pu rfl (Pu rfl ?_)
       refine WL.do (dx_store (cs' := zV) (vs := zV) rfl ty_size_27_5 rfl rfl rfl o5 k3 rfl (nB rfl) rfl) rfl ?_
       rintro _ W145 ⟨k147, o146⟩
       replace hp141 := hp141.other o146 n6
       clear k3
       replace hB := Chg.only hB o146 (.inr l7)
       refine Pu rfl (Ni (hK112 ?_))
       exact WC.ret fun a_ ha_ => hQ (cw_ret2 rfl (.agg rfl ty_agg_27_5 k147.range rfl) (.tmp rfl) (.inr ⟨k127, e129, rfl, hw135, (valB_c hc28 hc29).trans ((valC_n (by omega)).trans (numR_f hw136)), by omega, hp141⟩) hB ha_)
     ·
      replace c111 := bvar_f c111
      refine Sq fun K148 hK148 => ?_
      have h3_ : ¬ (c25 = 45 ∨ 48 ≤ c25 ∧ c25 ≤ 57) := fun h_ => by have q_ := hb3.symm.trans (show b_ = false by first | assumption | exact Bool.eq_false_iff.2 (by assumption)); revert q_; rw [imp_false, Bool.not_eq_false, Bool.or_eq_true, Bool.and_eq_true, decide_eq_true_eq, decide_eq_true_eq, decide_eq_true_eq]; exact h_
      refine Rg (Pu rfl (Va (dx_eql rfl rfl rfl) rfl rfl (Pu rfl (Ni (hK148 ?_)))))
      refine WC.cond rfl (fun c149 => ?_) (fun c149 => ?_)
      ·
       replace c149 := dT c149
       refine Sq fun K150 hK150 => (Rg (Pu rfl ?_))
       refine Ge (dx_cw rfl Tryz.func29 rfl rfl rfl (quoted_v s P ka dp W31 _ hL (.tail _ hPL) hs (by omega) hp (take_of (by rcases Nat.lt_or_ge ka s.size with h_ | h_; exact h_; (have := hc29 h_; omega)) (by have h_ : ka < s.size := (by rcases Nat.lt_or_ge ka s.size with h_ | h_; exact h_; (have := hc29 h_; omega)); have := hc28 h_; omega)))) rfl rfl ?_
       rintro _ W176 ⟨(⟨k163, l165, rfl, hw166, hw167, hw168, hw169, hw170, hp177⟩ | ⟨k164, rfl, hw171, hw172, hp177⟩), g175⟩
       ·
        replace k3 := k3.chg g175 n6.symm
        replace hB := Chg.both hB g175
        refine Pu rfl (Pu rfl (Pu rfl (Pu rfl (Pu rfl (Ni (hK150 (Sq fun K178 hK178 => ?_)))))))
        refine Sq fun K179 hK179 => (Rg (Pu rfl (Va (dx_neq rfl rfl rfl) rfl rfl (Ni (hK179 (WC.condF rfl (WC.skip ?_)))))))
        refine hK178 (Sq fun K180 hK180 => (Rg (Pu rfl (Va (dx_build rfl rfl (built_of_O (cs := [.int .i64 4, .int .i64 0, .string (strOfNums l165), .slice none 0 0, .slice none 0 0]) (by kernel_rfl) (oC rfl (oC rfl oc_nil)))) rfl rfl ?_))))
        refine WL.do (dx_store (cs' := [.int .i64 4, .int .i64 0, .string (strOfNums l165), .slice none 0 0, .slice none 0 0]) (vs := [.int .i64 4, .int .i64 0, .string (strOfNums l165), .slice none 0 0, .slice none 0 0]) rfl ty_size_27_5 rfl rfl rfl o5 k3 rfl (nB rfl) rfl) rfl ?_
        rintro _ W181 ⟨k183, o182⟩
        replace hp177 := hp177.other o182 n6
        clear k3
        replace hB := Chg.only hB o182 (.inr l7)
        refine Pu rfl (Ni (hK180 ?_))
        exact WC.ret fun a_ ha_ => hQ (cw_ret2 rfl (.agg rfl ty_agg_27_5 k183.range rfl) (.tmp rfl) (.inl ⟨k163, leafT 4 0 (strOfNums l165), rfl, (valB_c hc28 hc29).trans ((valC_q (by omega)).trans (quoR_t hw166)), leaf_rd _ _ _ _ _ _, by first | omega | (simp only [ByteArray.size] at *; simp at *; omega), by omega, hp177⟩) hB ha_)
       ·
        replace k3 := k3.chg g175 n6.symm
        replace hB := Chg.both hB g175
        refine Pu rfl (Pu rfl (Pu rfl (Pu rfl (Pu rfl (Ni (hK150 (Sq fun K184 hK184 => ?_)))))))
        refine Sq fun K185 hK185 => (Rg (Pu rfl (Va (dx_neq rfl rfl rfl) rfl rfl (Ni (hK185 (WC.condT rfl (Sq fun K186 hK186 => ?_)))))))
        refine Rg (Va (dx_build rfl rfl (built_of_O (cs := zV) (by kernel_rfl) oc_nil)) rfl rfl (Pu rfl ?_))
        refine WL.do (dx_store (cs' := zV) (vs := zV) rfl ty_size_27_5 rfl rfl rfl o5 k3 rfl (nB rfl) rfl) rfl ?_
        rintro _ W187 ⟨k189, o188⟩
        replace hp177 := hp177.other o188 n6
        clear k3
        replace hB := Chg.only hB o188 (.inr l7)
        refine Pu rfl (Ni (hK186 ?_))
        exact WC.ret fun a_ ha_ => hQ (cw_ret2 rfl (.agg rfl ty_agg_27_5 k189.range rfl) (.tmp rfl) (.inr ⟨k164, 2, rfl, (by decide), (valB_c hc28 hc29).trans ((valC_q (by omega)).trans (quoR_f hw171)), by omega, hp177⟩) hB ha_)
      ·
       replace c149 := dF c149
       refine Sq fun K190 hK190 => (Rg (Pu rfl (Va (dx_eql rfl rfl rfl) rfl rfl (Pu rfl (Ni (hK190 ?_))))))
       refine WC.cond rfl (fun c191 => ?_) (fun c191 => ?_)
       ·
        replace c191 := dT c191
        refine Sq fun K192 hK192 => (Rg (Pu rfl (Pu rfl (Va (dx_funcP rfl rfl) rfl rfl ?_))))
        refine Ge (dx_cw rfl Tryz.func30 rfl rfl rfl (nested_v (.func (.func 31) #[.pointer (some ⟨P, 0, none⟩)] #[]) n rl s P ka dp W31 _ hL (.tail _ hPL) hs (by omega) hp hdp (fun h12 W_ L_ h1_ h2_ h3_ d_ h4_ h5_ => ⟨31, #[.pointer (some ⟨P, 0, none⟩)], #[], _, rfl, Tryz.func31, rfl, rfl, hl h12 (take_of (by rcases Nat.lt_or_ge ka s.size with h_ | h_; exact h_; (have := hc29 h_; omega)) (by have h_ : ka < s.size := (by rcases Nat.lt_or_ge ka s.size with h_ | h_; exact h_; (have := hc29 h_; omega)); have := hc28 h_; omega)) W_ L_ h1_ h2_ d_ h4_ h5_⟩))) rfl rfl ?_
        rintro _ W220 ⟨(⟨k206, t208, rfl, hw210, hw211, hw212, hw213, hp221⟩ | ⟨k207, e209, rfl, hw214, hw215, hw216, hp221⟩), g219⟩
        ·
         replace k3 := k3.chg g219 n6.symm
         replace hB := Chg.both hB g219
         refine Pu rfl (Pu rfl ?_)
         refine WL.do (dx_store (cs' := [.int .i64 t208.kind, .int .i64 t208.num, .string t208.text, t208.nv, t208.iv]) (vs := [.int .i64 t208.kind, .int .i64 t208.num, .string t208.text, t208.nv, t208.iv]) rfl ty_size_27_5 rfl rfl rfl (oC rfl (oC rfl (oC rfl (oC (hw211.1).one (oC (hw211.2.1).one oc_nil))))) k3 rfl (nB rfl) rfl) rfl ?_
         rintro _ W222 ⟨k224, o223⟩
         replace hp221 := hp221.other o223 n6
         clear k3
         replace hw211 := hw211.only o223 (.head _)
         replace hB := Chg.only hB o223 (.inr l7)
         refine Pu rfl (Ni (hK192 ?_))
         exact WC.ret fun a_ ha_ => hQ (cw_ret2 rfl (.agg rfl ty_agg_27_5 k224.range rfl) (.tmp rfl) (.inl ⟨k206, t208, rfl, (valB_c hc28 hc29).trans ((valC_l (by omega)).trans hw210), (hw211.less (fun x hx => (.tail _ hx))), by omega, by omega, hp221⟩) hB ha_)
        ·
         replace k3 := k3.chg g219 n6.symm
         replace hB := Chg.both hB g219
         refine Pu rfl (Pu rfl ?_)
         refine WL.do (dx_store (cs' := zV) (vs := zV) rfl ty_size_27_5 rfl rfl rfl o5 k3 rfl (nB rfl) rfl) rfl ?_
         rintro _ W225 ⟨k227, o226⟩
         replace hp221 := hp221.other o226 n6
         clear k3
         replace hB := Chg.only hB o226 (.inr l7)
         refine Pu rfl (Ni (hK192 ?_))
         exact WC.ret fun a_ ha_ => hQ (cw_ret2 rfl (.agg rfl ty_agg_27_5 k227.range rfl) (.tmp rfl) (.inr ⟨k207, e209, rfl, hw214, (valB_c hc28 hc29).trans ((valC_l (by omega)).trans hw215), by omega, hp221⟩) hB ha_)
       ·
        replace c191 := dF c191
        refine Sq fun K228 hK228 => (Rg (Pu rfl (Va (dx_eql rfl rfl rfl) rfl rfl (Pu rfl (Ni (hK228 ?_))))))
        refine WC.cond rfl (fun c229 => ?_) (fun c229 => ?_)
        ·
         replace c229 := dT c229
         refine Sq fun K230 hK230 => (Rg (Pu rfl (Pu rfl (Va (dx_funcP rfl rfl) rfl rfl ?_))))
         refine Ge (dx_cw rfl Tryz.func30 rfl rfl rfl (nested_v (.func (.func 32) #[.pointer (some ⟨P, 0, none⟩)] #[]) n ro s P ka dp W31 _ hL (.tail _ hPL) hs (by omega) hp hdp (fun h12 W_ L_ h1_ h2_ h3_ d_ h4_ h5_ => ⟨32, #[.pointer (some ⟨P, 0, none⟩)], #[], _, rfl, Tryz.func32, rfl, rfl, ho h12 (take_of (by rcases Nat.lt_or_ge ka s.size with h_ | h_; exact h_; (have := hc29 h_; omega)) (by have h_ : ka < s.size := (by rcases Nat.lt_or_ge ka s.size with h_ | h_; exact h_; (have := hc29 h_; omega)); have := hc28 h_; omega)) W_ L_ h1_ h2_ d_ h4_ h5_⟩))) rfl rfl ?_
         rintro _ W258 ⟨(⟨k244, t246, rfl, hw248, hw249, hw250, hw251, hp259⟩ | ⟨k245, e247, rfl, hw252, hw253, hw254, hp259⟩), g257⟩
         ·
          replace k3 := k3.chg g257 n6.symm
          replace hB := Chg.both hB g257
          refine Pu rfl (Pu rfl ?_)
          refine WL.do (dx_store (cs' := [.int .i64 t246.kind, .int .i64 t246.num, .string t246.text, t246.nv, t246.iv]) (vs := [.int .i64 t246.kind, .int .i64 t246.num, .string t246.text, t246.nv, t246.iv]) rfl ty_size_27_5 rfl rfl rfl (oC rfl (oC rfl (oC rfl (oC (hw249.1).one (oC (hw249.2.1).one oc_nil))))) k3 rfl (nB rfl) rfl) rfl ?_
          rintro _ W260 ⟨k262, o261⟩
          replace hp259 := hp259.other o261 n6
          clear k3
          replace hw249 := hw249.only o261 (.head _)
          replace hB := Chg.only hB o261 (.inr l7)
          refine Pu rfl (Ni (hK230 ?_))
          exact WC.ret fun a_ ha_ => hQ (cw_ret2 rfl (.agg rfl ty_agg_27_5 k262.range rfl) (.tmp rfl) (.inl ⟨k244, t246, rfl, (valB_c hc28 hc29).trans ((valC_o (by omega)).trans hw248), (hw249.less (fun x hx => (.tail _ hx))), by omega, by omega, hp259⟩) hB ha_)
         ·
          replace k3 := k3.chg g257 n6.symm
          replace hB := Chg.both hB g257
          refine Pu rfl (Pu rfl ?_)
          refine WL.do (dx_store (cs' := zV) (vs := zV) rfl ty_size_27_5 rfl rfl rfl o5 k3 rfl (nB rfl) rfl) rfl ?_
          rintro _ W263 ⟨k265, o264⟩
          replace hp259 := hp259.other o264 n6
          clear k3
          replace hB := Chg.only hB o264 (.inr l7)
          refine Pu rfl (Ni (hK230 ?_))
          exact WC.ret fun a_ ha_ => hQ (cw_ret2 rfl (.agg rfl ty_agg_27_5 k265.range rfl) (.tmp rfl) (.inr ⟨k245, e247, rfl, hw252, (valB_c hc28 hc29).trans ((valC_o (by omega)).trans hw253), by omega, hp259⟩) hB ha_)
        ·
         replace c229 := dF c229
         refine WC.skip (hK8 (Sq fun K266 hK266 => (Rg (Va (dx_build rfl rfl (built_of_O (cs := zV) (by kernel_rfl) oc_nil)) rfl rfl ?_))))
         refine WL.do (dx_store (cs' := zV) (vs := zV) rfl ty_size_27_5 rfl rfl rfl o5 k3 rfl (nB rfl) rfl) rfl ?_
         rintro _ W267 ⟨k269, o268⟩
         replace hp := hp.other o268 n6
         clear k3
         replace hB := Chg.only hB o268 (.inr l7)
         refine Pu rfl (Ni (hK266 ?_))
         exact WC.ret fun a_ ha_ => hQ (cw_ret2 rfl (.agg rfl ty_agg_27_5 k269.range rfl) (.tmp rfl) (.inr ⟨ka, 2, rfl, by decide, (valB_c hc28 hc29).trans (valC_0 (by omega) (by omega) (by omega) (by omega) (by first | omega | simp_all) (by omega) (by omega) (by omega)), by omega, hp⟩) hB ha_)
    refine Rg (Pu rfl (Va (dx_eql rfl rfl rfl) rfl rfl (Pu rfl ?_)))
    refine WL.split 35 rfl (fun g270 => ?_) (fun g270 => ?_)
    ·
     replace g270 := dT g270
     refine Of rfl (Of rfl (Of rfl (Of rfl (Of rfl (Of rfl (Pu rfl (Pu rfl ?_)))))))
     refine Ni ?_
     exact hJ8 true _ (by rw [Bool.eq_iff_iff]; simp only [Bool.or_eq_true, Bool.and_eq_true, decide_eq_true_eq, eq_self, true_iff, iff_true, Bool.false_eq_true, false_iff]; omega) (by repeat first | exact trivial | refine aR ?_)
    ·
     replace g270 := dF g270
     refine Pu rfl (Va (dx_geq rfl rfl rfl) rfl rfl (Pu rfl ?_))
     refine WL.split 38 rfl (fun g271 => ?_) (fun g271 => ?_)
     ·
      replace g271 := dT g271
      refine Pu rfl (Va (dx_leq rfl rfl rfl) rfl rfl (Pu rfl (Pu rfl (Pu rfl (Ni ?_)))))
      exact hJ8 (decide (c25 ≤ 57)) _ (by rw [Bool.eq_iff_iff]; simp only [Bool.or_eq_true, Bool.and_eq_true, decide_eq_true_eq, eq_self, true_iff, iff_true, Bool.false_eq_true, false_iff]; omega) (by repeat first | exact trivial | refine aR ?_)
     ·
      replace g271 := dF g271
      refine Of rfl (Of rfl (Pu rfl (Pu rfl (Pu rfl (Ni ?_)))))
      exact hJ8 false _ (by rw [Bool.eq_iff_iff]; simp only [Bool.or_eq_true, Bool.and_eq_true, decide_eq_true_eq, eq_self, true_iff, iff_true, Bool.false_eq_true, false_iff]; omega) (by repeat first | exact trivial | refine aR ?_)

def parS (s : ByteArray) (vs : Nat → Except Int (Js × Nat)) : Except Int Js :=
 if 8192 < s.size then .error 3 else if upB s = false then .error 2 else match vs (blankS s 0) with
  | .error e => .error e
  | .ok (j, k) => if s.size ≤ blankS s k then .ok j else .error 2
section
variable {s : ByteArray} {vs : Nat → Except Int (Js × Nat)} {e : Int} {j : Js} {k0 k k1 k2 : Nat}
theorem parS_l (h : 8192 < s.size) : parS s vs = .error 3 := by unfold parS; rw [if_pos h]
theorem parS_u (h : ¬ 8192 < s.size) (u : upB s = false) : parS s vs = .error 2 := by unfold parS; rw [if_neg h, if_pos u]
theorem parS_e (h : ¬ 8192 < s.size) (u : upB s = true) (h0 : k0 = 0) (e1 : k1 = blankS s k0) (hv : vs k1 = .error e) : parS s vs = .error e := by subst e1 h0; unfold parS; rw [if_neg h, if_neg (by rw [u]; decide), hv]
theorem parS_t (h : ¬ 8192 < s.size) (u : upB s = true) (h0 : k0 = 0) (e1 : k1 = blankS s k0) (hv : vs k1 = .ok (j, k)) (e2 : k2 = blankS s k) (h2 : s.size ≤ k2) : parS s vs = .ok j := by subst e2 e1 h0; unfold parS; rw [if_neg h, if_neg (by rw [u]; decide), hv]; dsimp only; rw [if_pos h2]
theorem parS_f (h : ¬ 8192 < s.size) (u : upB s = true) (h0 : k0 = 0) (e1 : k1 = blankS s k0) (hv : vs k1 = .ok (j, k)) (e2 : k2 = blankS s k) (h2 : ¬ s.size ≤ k2) : parS s vs = .error 2 := by subst e2 e1 h0; unfold parS; rw [if_neg h, if_neg (by rw [u]; decide), hv]; dsimp only; rw [if_neg h2]
end
theorem Below.thenChg {B : Nat} {w W W' : World} (hle : w.heap.size ≤ B) (h : Below w.heap.size w W) (g : Chg B W W') : Below w.heap.size w W' := ⟨g.os.trans h.os, g.tape.trans h.tape, g.output.trans h.output, Nat.le_trans h.size g.size, fun k hk => (g.block k (Nat.lt_of_lt_of_le hk h.size) (by omega)).trans (h.block k hk)⟩
theorem bld_53 (a : ByteArray) : Tryz.prog.built 37 [(0, .string a)] = some [.string a, .int .i64 0].toArray := by kernel_rfl
theorem bld_55 (a : ByteArray) (b : Int) : Tryz.prog.built 39 [(0, .agg #[.string a, .int .i64 b])] = some [.string a, .int .i64 b, .int .i64 0].toArray := by kernel_rfl
abbrev ValAt (n : Nat) (vs : Nat → Except Int (Js × Nat)) (s : ByteArray) (dp : Nat) : Prop := ∀ (P ka : Nat) (w : World) (L : List Nat), LL L w → P ∈ L → ka ≤ s.size → Blk w P (psC s ka dp) → CW Tryz.prog 13 [.pointer (some ⟨P, 0, none⟩)] w P fun v W => (∃ k' t, v = .tuple #[.agg #[.int .i64 t.kind, .int .i64 t.num, .string t.text, t.nv, t.iv], .int .i64 0] ∧ vs ka = .ok (t.er, k') ∧ RdT n L W t ∧ ka < k' ∧ k' ≤ s.size ∧ Blk W P (psC s k' dp)) ∨ (∃ k' e, v = .tuple #[.agg #[.int .i64 0, .int .i64 0, .string ⟨#[]⟩, .slice none 0 0, .slice none 0 0], .int .i64 e] ∧ e ≠ 0 ∧ vs ka = .error e ∧ k' ≤ s.size ∧ Blk W P (psC s k' dp))
set_option maxHeartbeats 1000000 in
theorem parse_v (n : Nat) (vs : Nat → Except Int (Js × Nat)) (s : ByteArray) (w : World) (L : List Nat) (hL : LL L w)   (hv : s.size ≤ 8192 → ∀ dq, dq = 0 → ValAt (n + 1) vs s dq) : CV Tryz.prog 7 [.string s] w fun v W => (∃ t, v = .tuple #[.agg #[.int .i64 t.kind, .int .i64 t.num, .string t.text, t.nv, t.iv], .int .i64 0] ∧ parS s vs = .ok t.er ∧ RdT (n + 1) L W t) ∨ (∃ e, v = .tuple #[.agg #[.int .i64 0, .int .i64 0, .string ⟨#[]⟩, .slice none 0 0, .slice none 0 0], .int .i64 e] ∧ e ≠ 0 ∧ parS s vs = .error e) := by
 refine cv_enter (N := 44) (f := [(0, .string s)]) Tryz.func7 rfl rfl rfl rfl fun Q hQ hE => ?_
 have hB := Below.refl w.heap.size w
 refine Sq fun K1 hK1 => (Rg ?_)
 refine Ge (dx_alloc rfl ty_zero_27 rfl) rfl rfl ?_
 rintro _ W2 ⟨rfl, k3, b4, z5⟩
 have l6 := hB.size
 replace hB := below_then hB b4
 replace hL := LL.more hL z5
 refine Pu rfl (Ni (hK1 (Sq fun K7 hK7 => (Sq fun K8 hK8 => (Rg (Pu rfl (Va (dx_lenT rfl Tryz.underlying9 rfl) rfl rfl ?_)))))))
 refine Va (dx_gtr rfl rfl rfl) rfl rfl (Ni (hK8 ?_))
 refine WC.cond rfl (fun c9 => ?_) (fun c9 => ?_)
 ·
  replace c9 := dT c9
  refine Sq fun K10 hK10 => (Rg (Va (dx_build rfl rfl (built_of_O (cs := zV) (by kernel_rfl) oc_nil)) rfl rfl ?_))
  refine WL.do (dx_store (cs' := zV) (vs := zV) rfl ty_size_27_5 rfl rfl rfl o5 k3 rfl (nB rfl) rfl) rfl ?_
  rintro _ W11 ⟨k13, o12⟩
  clear k3
  replace hB := o12.below hB l6
  refine Pu rfl (Ni (hK10 ?_))
  exact WC.ret fun a_ ha_ => hQ (cv_ret2 rfl (.agg rfl ty_agg_27_5 k13.range rfl) (.tmp rfl) (.inr ⟨3, rfl, by decide, parS_l (by omega)⟩) hB ha_)
 ·
  replace c9 := dF c9
  refine WC.skip (hK7 (Sq fun K14 hK14 => (Sq fun K15 hK15 => ?_)))
  have hs : s.size ≤ 1000000 := by omega
  refine Rg (Pu rfl ?_)
  refine Ge (dx_sb (L := w.heap.size :: L) rfl Tryz.underlying9 Tryz.underlying34 Tryz.underlying5 rfl hL (by unfold maxLen; omega)) rfl rfl ?_
  rintro u16 W17 ⟨k18, b19⟩
  replace k3 := k3.below b19
  replace hB := below_then hB b19
  replace hL := LL.below hL b19
  refine Ge (dx_cv rfl Tryz.func11 rfl rfl rfl ((show CV _ _ [_] _ (fun v _ => v = .bool (upB s)) from cv_oldB (right_any u16 (sb s) W17 (rdI_of k18) (sb_bytes _) (by rw [sb_length]; omega))))) rfl rfl ?_
  rintro _ W21 ⟨rfl, b20⟩
  replace k3 := k3.below b20
  replace hB := below_then hB b20
  replace hL := LL.below hL b20
  refine Va (dx_not rfl rfl) rfl rfl (Ni (hK15 ?_))
  refine WC.cond rfl (fun c22 => ?_) (fun c22 => ?_)
  ·
   replace c22 := bnot_t c22
   refine Sq fun K23 hK23 => (Rg (Va (dx_build rfl rfl (built_of_O (cs := zV) (by kernel_rfl) oc_nil)) rfl rfl ?_))
   refine WL.do (dx_store (cs' := zV) (vs := zV) rfl ty_size_27_5 rfl rfl rfl o5 k3 rfl (nB rfl) rfl) rfl ?_
   rintro _ W24 ⟨k26, o25⟩
   clear k3
   replace hB := o25.below hB l6
   refine Pu rfl (Ni (hK23 ?_))
   exact WC.ret fun a_ ha_ => hQ (cv_ret2 rfl (.agg rfl ty_agg_27_5 k26.range rfl) (.tmp rfl) (.inr ⟨2, rfl, by decide, (by first | exact parS_u (by omega) (by assumption) | (apply parS_f (k0 := k0) <;> first | assumption | omega; done))⟩) hB ha_)
  ·
   replace c22 := bnot_f c22
   refine WC.skip (hK14 (Sq fun K27 hK27 => (Rg (Pu rfl (Va (dx_build rfl rfl (bld_53 _)) rfl rfl (Va (dx_build rfl rfl (bld_55 _ _)) rfl rfl ?_))))))
   refine Ge (dx_box rfl rfl rfl) rfl rfl ?_
   rintro _ W28 ⟨rfl, k29, b30, z31⟩
   have n32 : w.heap.size ≠ W21.heap.size := Nat.ne_of_lt k3.lt
   have l33 := hB.size
   replace k3 := k3.below b30
   replace hB := below_then hB b30
   replace hL := LL.more hL z31
   have hPle : w.heap.size ≤ W21.heap.size := l33
   obtain ⟨P, hPe⟩ : ∃ P, P = W21.heap.size := ⟨_, rfl⟩
   rw [← hPe] at k29 hL hPle n32 ⊢
   obtain ⟨k0, hk0⟩ : ∃ q : Nat, q = 0 := ⟨_, rfl⟩
   obtain ⟨d0, hd0⟩ : ∃ q : Nat, q = 0 := ⟨_, rfl⟩
   replace k29 : Blk W28 P (psC s k0 d0) := by rw [hk0, hd0]; exact k29
   refine Pu rfl (Ni (hK27 (Sq fun K34 hK34 => (Rg (Pu rfl (Va (dx_nilCheck rfl rfl) rfl rfl (Va (dx_fld (o1 := 0) rfl ty_fld_39_0_0 rfl rfl) rfl rfl ?_)))))))
   refine Ge (dx_cw rfl Tryz.func12 rfl rfl rfl (blanks_v s P k0 d0 W28 _ hL (.head _) hs (by omega) k29)) rfl rfl ?_
   rintro _ W45 ⟨hp46, g44⟩
   replace k3 := k3.chg g44 n32
   replace hB := Below.thenChg hPle hB g44
   replace hL := hL.chg g44
   obtain ⟨k41, hk42⟩ : ∃ k, k = blankS s k0 := ⟨_, rfl⟩
   rw [← hk42] at hp46
   have hk43 := blankS_le (s := s) (k := k0) (by omega)
   rw [← hk42] at hk43
   refine Ni (hK34 (Sq fun K47 hK47 => (Rg (Pu rfl ?_))))
   refine Ge (dx_cw rfl Tryz.func13 rfl rfl rfl (hv (by omega) d0 hd0 P k41 W45 _ hL (.head _) (by omega) (by first | exact hp46 | (subst hd0; exact hp46)))) rfl rfl ?_
   rintro _ W75 ⟨(⟨k61, t63, rfl, hw65, hw66, hw67, hw68, hp76⟩ | ⟨k62, e64, rfl, hw69, hw70, hw71, hp76⟩), g74⟩
   ·
    replace k3 := k3.chg g74 n32
    replace hB := Below.thenChg hPle hB g74
    replace hL := hL.chg g74
    refine Pu rfl (Pu rfl (Pu rfl ?_))
    refine Ge (dx_alloc rfl ty_zero_27 rfl) rfl rfl ?_
    rintro _ W77 ⟨rfl, k78, b79, z80⟩
    have n81 : w.heap.size ≠ W75.heap.size := Nat.ne_of_lt k3.lt
    have n82 : P ≠ W75.heap.size := Nat.ne_of_lt hp76.lt
    have l83 := hB.size
    replace hw66 := hw66.more b79 (Nat.le_refl _)
    replace k3 := k3.below b79
    replace hp76 := hp76.below b79
    replace hB := below_then hB b79
    replace hL := LL.more hL z80
    refine WL.do (dx_store (cs' := [.int .i64 t63.kind, .int .i64 t63.num, .string t63.text, t63.nv, t63.iv]) (vs := [.int .i64 t63.kind, .int .i64 t63.num, .string t63.text, t63.nv, t63.iv]) rfl ty_size_27_5 rfl rfl rfl (oC rfl (oC rfl (oC rfl (oC (hw66.1).one (oC (hw66.2.1).one oc_nil))))) k78 rfl (nB rfl) rfl) rfl ?_
    rintro _ W84 ⟨k86, o85⟩
    replace k3 := k3.other o85 n81
    replace hp76 := hp76.other o85 n82
    clear k78
    replace hw66 := hw66.only o85 (.head _)
    replace hB := o85.below hB l83
    replace hL := LL.only hL o85
    refine Pu rfl (Ni (hK47 (Sq fun K87 hK87 => (Sq fun K88 hK88 => (Rg (Pu rfl (Va (dx_neq rfl rfl rfl) rfl rfl ?_)))))))
    refine Ni (hK88 (WC.condF rfl (WC.skip (hK87 (Sq fun K89 hK89 => (Rg (Pu rfl ?_)))))))
    refine Va (dx_nilCheck rfl rfl) rfl rfl (Va (dx_fld (o1 := 0) rfl ty_fld_39_0_0 rfl rfl) rfl rfl ?_)
    refine Ge (dx_cw rfl Tryz.func12 rfl rfl rfl (blanks_v s P k61 d0 W84 _ hL (.tail _ (.head _)) hs (by omega) hp76)) rfl rfl ?_
    rintro _ W100 ⟨hp101, g99⟩
    replace hw66 := hw66.chgL g99 (.tail _ (.head _))
    replace k3 := k3.chg g99 n32
    replace k86 := k86.chg g99 n82.symm
    replace hB := Below.thenChg hPle hB g99
    replace hL := hL.chg g99
    obtain ⟨k96, hk97⟩ : ∃ k, k = blankS s k61 := ⟨_, rfl⟩
    rw [← hk97] at hp101
    have hk98 := blankS_le (s := s) (k := k61) (by omega)
    rw [← hk97] at hk98
    refine Ni (hK89 (Sq fun K102 hK102 => (Sq fun K103 hK103 => (Rg (Pu rfl (Va (dx_nilCheck rfl rfl) rfl rfl (Va (dx_fld (o1 := 0) rfl ty_fld_39_0_0 rfl rfl) rfl rfl ?_)))))))
    refine Ge (dx_cv rfl Tryz.func14 rfl rfl rfl (ended_v s P k96 d0 W100 _ hL (.tail _ (.head _)) hs (by omega) hp101)) rfl rfl ?_
    rintro _ W105 ⟨rfl, b104⟩
    replace hw66 := hw66.below b104
    replace k3 := k3.below b104
    replace k86 := k86.below b104
    replace hB := below_then hB b104
    refine Va (dx_not rfl rfl) rfl rfl (Ni (hK103 ?_))
    refine WC.cond rfl (fun c106 => ?_) (fun c106 => ?_)
    ·
     replace c106 := bnot_t c106
     replace c106 := dF c106
     refine Sq fun K107 hK107 => (Rg (Va (dx_build rfl rfl (built_of_O (cs := zV) (by kernel_rfl) oc_nil)) rfl rfl ?_))
     refine WL.do (dx_store (cs' := zV) (vs := zV) rfl ty_size_27_5 rfl rfl rfl o5 k3 rfl (nB rfl) rfl) rfl ?_
     rintro _ W108 ⟨k110, o109⟩
     clear k3
     replace hB := o109.below hB l6
     refine Pu rfl (Ni (hK107 ?_))
     exact WC.ret fun a_ ha_ => hQ (cv_ret2 rfl (.agg rfl ty_agg_27_5 k110.range rfl) (.tmp rfl) (.inr ⟨2, rfl, by decide, (by first | exact parS_u (by omega) (by assumption) | (apply parS_f (k0 := k0) <;> first | assumption | omega; done))⟩) hB ha_)
    ·
     replace c106 := bnot_f c106
     replace c106 := dT c106
     refine WC.skip (hK102 (Sq fun K111 hK111 => (Rg (Va (dx_loadN rfl ty_agg_27_5 rfl k86.range rfl) rfl rfl ?_))))
     refine WL.do (dx_store (cs' := [.int .i64 t63.kind, .int .i64 t63.num, .string t63.text, t63.nv, t63.iv]) (vs := [.int .i64 t63.kind, .int .i64 t63.num, .string t63.text, t63.nv, t63.iv]) rfl ty_size_27_5 rfl rfl rfl (oC rfl (oC rfl (oC rfl (oC (hw66.1).one (oC (hw66.2.1).one oc_nil))))) k3 rfl (nB rfl) rfl) rfl ?_
     rintro _ W112 ⟨k114, o113⟩
     clear k3
     replace hw66 := hw66.only o113 (.tail _ (.tail _ (.head _)))
     replace hB := o113.below hB l6
     refine Pu rfl (Ni (hK111 ?_))
     exact WC.ret fun a_ ha_ => hQ (cv_ret2 rfl (.agg rfl ty_agg_27_5 k114.range rfl) (.tmp rfl) (.inl ⟨t63, rfl, (by apply parS_t (k0 := k0) <;> first | assumption | omega), (hw66.less (fun x hx => (.tail _ (.tail _ (.tail _ hx)))))⟩) hB ha_)
   ·
    replace k3 := k3.chg g74 n32
    replace hB := Below.thenChg hPle hB g74
    refine Pu rfl (Pu rfl (Pu rfl ?_))
    refine Ge (dx_alloc rfl ty_zero_27 rfl) rfl rfl ?_
    rintro _ W115 ⟨rfl, k116, b117, z118⟩
    have n119 : w.heap.size ≠ W75.heap.size := Nat.ne_of_lt k3.lt
    have l121 := hB.size
    replace k3 := k3.below b117
    replace hB := below_then hB b117
    refine WL.do (dx_store (cs' := zV) (vs := zV) rfl ty_size_27_5 rfl rfl rfl o5 k116 rfl (nB rfl) rfl) rfl ?_
    rintro _ W122 ⟨k124, o123⟩
    replace k3 := k3.other o123 n119
    clear k116
    replace hB := o123.below hB l121
    refine Pu rfl (Ni (hK47 (Sq fun K125 hK125 => (Sq fun K126 hK126 => (Rg (Pu rfl (Va (dv_NT (dx_neq rfl rfl rfl) hw69) rfl rfl ?_)))))))
    refine Ni (hK126 (WC.condT rfl (Sq fun K127 hK127 => (Rg (Va (dx_build rfl rfl (built_of_O (cs := zV) (by kernel_rfl) oc_nil)) rfl rfl (Pu rfl ?_))))))
    refine WL.do (dx_store (cs' := zV) (vs := zV) rfl ty_size_27_5 rfl rfl rfl o5 k3 rfl (nB rfl) rfl) rfl ?_
    rintro _ W128 ⟨k130, o129⟩
    clear k3
    replace hB := o129.below hB l6
    refine Pu rfl (Ni (hK127 ?_))
    exact WC.ret fun a_ ha_ => hQ (cv_ret2 rfl (.agg rfl ty_agg_27_5 k130.range rfl) (.tmp rfl) (.inr ⟨e64, rfl, hw69, (by apply parS_e (k0 := k0) <;> first | assumption | omega)⟩) hB ha_)

theorem ty_one_35 : oneB Tryz.prog 35 = true := by kernel_rfl
def oneL (vs : Nat → Except Int (Js × Nat)) (k : Nat) (st : List Js) : Except Int (List Js × Nat) := match vs k with
 | .error e => .error e
 | .ok (t, k') => .ok (st ++ [t], k')
def listS (s : ByteArray) (vs : Nat → Except Int (Js × Nat)) (k : Nat) : Except Int (Js × Nat) := match memS s (oneL vs) 93 k [] with
 | .error e => .error e
 | .ok (ts, k') => .ok (.mk 5 0 ⟨#[]⟩ [] ts, k')
def ItemsI (n b : Nat) (L : List Nat) (iv : Value) (ts : List Tr) (W : World) : Prop := (∀ x ∈ L, x < b) ∧ ((iv = .slice none 0 0 ∧ ts = []) ∨ ∃ B, b ≤ B ∧ OwS 5 W iv (ts.map encT) B ∧ ∀ t ∈ ts, RdT n (B :: L) W t)
theorem ItemsI.chgL {n b : Nat} {L : List Nat} {iv : Value} {ts : List Tr} {W W' : World} (h : ItemsI n b L iv ts W) {P : Nat} (g : Chg P W W') (hP : P ∈ L) : ItemsI n b L iv ts W' := by
 obtain ⟨h0, h | ⟨B, h1, h2, h3⟩⟩ := h
 · exact ⟨h0, .inl h⟩
 · exact ⟨h0, .inr ⟨B, h1, h2.chgL g (by have := h0 P hP; omega), fun t ht => (h3 t ht).chgL g (.tail _ hP)⟩⟩
theorem ItemsI.below {n b : Nat} {L : List Nat} {iv : Value} {ts : List Tr} {W W' : World} (h : ItemsI n b L iv ts W) (g : Below W.heap.size W W') : ItemsI n b L iv ts W' := by
 obtain ⟨h0, h | ⟨B, h1, h2, h3⟩⟩ := h
 · exact ⟨h0, .inl h⟩
 · exact ⟨h0, .inr ⟨B, h1, h2.below g, fun t ht => (h3 t ht).below g⟩⟩
theorem ItemsI.only {n b : Nat} {L : List Nat} {iv : Value} {ts : List Tr} {W W' : World} (h : ItemsI n b L iv ts W) {C : Nat} (g : Only C W W') (hC : C ∈ L) : ItemsI n b L iv ts W' := by
 obtain ⟨h0, h | ⟨B, h1, h2, h3⟩⟩ := h
 · exact ⟨h0, .inl h⟩
 · exact ⟨h0, .inr ⟨B, h1, h2.other g (by have := h0 C hC; omega), fun t ht => (h3 t ht).only g (.tail _ hC)⟩⟩
theorem ItemsI.one {n b : Nat} {L : List Nat} {iv : Value} {ts : List Tr} {W : World} (h : ItemsI n b L iv ts W) : iv.oneCell' = true := by
 obtain ⟨_, ⟨rfl, _⟩ | ⟨B, _, h2, _⟩⟩ := h
 · rfl
 · exact h2.one
theorem ItemsI.tree {n b : Nat} {L L' : List Nat} {iv : Value} {ts : List Tr} {W : World} (h : ItemsI n b L iv ts W) (hl : ∀ x, x ∈ L' → x ∈ L) (k m : Int) (t : ByteArray) : RdT (n + 1) L' W (.mk k m t (.slice none 0 0) [] iv ts) := by
 obtain ⟨h0, ⟨rfl, rfl⟩ | ⟨B, h1, h2, h3⟩⟩ := h
 · exact ⟨RdF.nil (by decide), RdF.nil (by decide), fun c hc => by cases hc⟩
 · exact ⟨RdF.nil (by decide), h2.rd (fun hx => by have := h0 B (hl B hx); omega), fun c hc => (h3 c hc).less fun x hx => .tail _ (hl x hx)⟩
def ListI (n b Bp V P : Nat) (L : List Nat) (js : List Js) (W : World) : Prop := ∃ iv ts, ts.map Tr.er = js ∧ Blk W Bp [.pointer (some ⟨P, 0, none⟩)] ∧ Blk W V [.int .i64 5, .int .i64 0, .string ⟨#[]⟩, .slice none 0 0, iv] ∧ ItemsI n b L iv ts W
def FiveE (V : Nat) (W : World) : Prop := ∃ cs : List Value, cs.length = 5 ∧ (∀ u ∈ cs, u.oneCell' = true) ∧ Blk W V cs
theorem listI_five {n b Bp V P : Nat} {L : List Nat} : ∀ (js : List Js) (W : World), ListI n b Bp V P L js W → FiveE V W := fun _ _ ⟨_, _, _, _, h2, h3⟩ => ⟨_, rfl, oc_cons rfl (oc_cons rfl (oc_cons rfl (oc_cons rfl (oc_cons h3.one oc_nil)))), h2⟩
theorem listI_chg {n b Bp V P : Nat} {L : List Nat} (h1 : Bp ≠ P) (h2 : V ≠ P) (hP : P ∈ L) : ∀ (js : List Js) (W W' : World), ListI n b Bp V P L js W → Chg P W W' → ListI n b Bp V P L js W' := fun _ _ _ ⟨iv, ts, he, a1, a2, a3⟩ g => ⟨iv, ts, he, a1.chg g h1, a2.chg g h2, a3.chgL g hP⟩
abbrev OneAt (n : Nat) (vs : Nat → Except Int (Js × Nat)) (s : ByteArray) (dp : Nat) : Prop := ∀ (b Bp V P : Nat) (L : List Nat) (k : Nat) (js : List Js) (W : World), LL L W → P ∈ L → V ∈ L → Bp ∈ L → Bp ≠ P → V ≠ P → Bp ≠ V → (∀ x ∈ L, x < b) → b ≤ W.heap.size → k ≤ s.size → Blk W P (psC s k dp) → ListI n b Bp V P L js W → js.length ≤ k →
 CX Tryz.prog 54 [.pointer (some ⟨Bp, 0, none⟩), .pointer (some ⟨V, 0, none⟩)] W (ChgV b P V) (fun v W' => (∃ k' st', v = .int .i64 0 ∧ oneL vs k js = .ok (st', k') ∧ k < k' ∧ k' ≤ s.size ∧ st'.length ≤ k' ∧ ListI n b Bp V P L st' W' ∧ Blk W' P (psC s k' dp)) ∨ (∃ k' e, v = .int .i64 e ∧ e ≠ 0 ∧ oneL vs k js = .error e ∧ k' ≤ s.size ∧ FiveE V W' ∧ Blk W' P (psC s k' dp)))
set_option maxHeartbeats 1000000 in
theorem list_v (n : Nat) (vs : Nat → Except Int (Js × Nat)) (s : ByteArray) (P ka dp : Nat) (w : World) (L : List Nat) (hL : LL L w) (hPL : P ∈ L) (hs : s.size ≤ 1000000) (hk : ka ≤ s.size) (hp : Blk w P (psC s ka dp))  (hq : takeS s ka 91 = true) (hc : OneAt n vs s dp) : CW Tryz.prog 31 [.pointer (some ⟨P, 0, none⟩)] w P fun v W => (∃ k' t, v = .tuple #[.agg #[.int .i64 t.kind, .int .i64 t.num, .string t.text, t.nv, t.iv], .int .i64 0] ∧ listS s vs ka = .ok (t.er, k') ∧ RdT (n + 1) L W t ∧ ka < k' ∧ k' ≤ s.size ∧ Blk W P (psC s k' dp)) ∨ (∃ k' e cs, v = .tuple #[.agg (List.toArray cs), .int .i64 e] ∧ e ≠ 0 ∧ cs.length = 5 ∧ (∀ u ∈ cs, u.oneCell' = true) ∧ listS s vs ka = .error e ∧ k' ≤ s.size ∧ Blk W P (psC s k' dp)) := by
 refine cw_enter (N := 12) (f := [(0, .pointer (some ⟨P, 0, none⟩))]) Tryz.func31 rfl rfl rfl rfl fun Q hQ hE => ?_
 have hB := Chg.refl P w
 have hL0 := hL
 refine Sq fun K1 hK1 => (Rg ?_)
 refine Ge (dx_box (cs := [.pointer (some ⟨P, 0, none⟩)]) rfl rfl rfl) rfl rfl ?_
 rintro _ W2 ⟨rfl, k3, b4, z5⟩
 have n6 : P ≠ w.heap.size := Nat.ne_of_lt hp.lt
 have l7 := hB.size
 replace hp := hp.below b4
 replace hB := Chg.thenB hB b4
 replace hL := LL.more hL z5
 refine Ge (dx_alloc rfl ty_zero_27 rfl) rfl rfl ?_
 rintro _ W8 ⟨rfl, k9, b10, z11⟩
 have n12 : P ≠ W2.heap.size := Nat.ne_of_lt hp.lt
 have l14 := hB.size
 replace hp := hp.below b10
 replace k3 := k3.below b10
 replace hB := Chg.thenB hB b10
 replace hL := LL.more hL z11
 refine Pu rfl (Ni (hK1 (Sq fun K15 hK15 => (Rg (Va (dx_build rfl rfl (built_of_O (cs := [.int .i64 5, .int .i64 0, .string ⟨#[]⟩, .slice none 0 0, .slice none 0 0]) (by kernel_rfl) (oC rfl oc_nil))) rfl rfl ?_)))))
 refine Ge (dx_alloc rfl ty_zero_27 rfl) rfl rfl ?_
 rintro _ W16 ⟨rfl, k17, b18, z19⟩
 have n20 : P ≠ W8.heap.size := Nat.ne_of_lt hp.lt
 have n21 : w.heap.size ≠ W8.heap.size := Nat.ne_of_lt k3.lt
 have n22 : W2.heap.size ≠ W8.heap.size := Nat.ne_of_lt k9.lt
 have l23 := hB.size
 replace hp := hp.below b18
 replace k3 := k3.below b18
 replace k9 := k9.below b18
 replace hB := Chg.thenB hB b18
 replace hL := LL.more hL z19
 refine WL.do (dx_store (cs' := [.int .i64 5, .int .i64 0, .string ⟨#[]⟩, .slice none 0 0, .slice none 0 0]) (vs := [.int .i64 5, .int .i64 0, .string ⟨#[]⟩, .slice none 0 0, .slice none 0 0]) rfl ty_size_27_5 rfl rfl rfl o5 k17 rfl (nB rfl) rfl) rfl ?_
 rintro _ W24 ⟨k26, o25⟩
 replace hp := hp.other o25 n20
 replace k3 := k3.other o25 n21
 replace k9 := k9.other o25 n22
 clear k17
 replace hB := Chg.only hB o25 (.inr l23)
 replace hL := LL.only hL o25
 refine Ni (hK15 (Sq fun K27 hK27 => (Rg (Va (dx_load rfl ty_one_35 rfl (k3.cell (k := 0) rfl)) rfl rfl (Va (dx_func rfl rfl rfl) rfl rfl ?_)))))
 refine Ge (dx_cx rfl Tryz.func53 rfl rfl rfl (members_v (ListI n W24.heap.size (w.heap.size) (W8.heap.size) P (W8.heap.size :: W2.heap.size :: w.heap.size :: L)) (FiveE (W8.heap.size)) (oneL vs) 91 93 _ W24.heap.size (W8.heap.size) [] List.length s P ka dp W24 _ hL (.tail _ (.tail _ (.tail _ hPL))) hs (by omega) hp (Nat.le_refl _) listI_five ⟨listI_chg n6.symm n20.symm (.tail _ (.tail _ (.tail _ hPL))), ⟨_, [], rfl, k3, k26, hL, .inl ⟨rfl, rfl⟩⟩⟩ (Nat.zero_le _) hq (fun W_ L_ k_ js_ h1_ h2_ h3_ h4_ h5_ h6_ h7_ => ⟨54, #[], #[.pointer (some ⟨w.heap.size, 0, none⟩), .pointer (some ⟨W8.heap.size, 0, none⟩)], _, rfl, Tryz.func54, rfl, rfl, hc W24.heap.size (w.heap.size) (W8.heap.size) P (W8.heap.size :: W2.heap.size :: w.heap.size :: L) k_ js_ W_ (fun x hx => Nat.lt_of_lt_of_le (hL x hx) h3_) (.tail _ (.tail _ (.tail _ hPL))) (.head _) (.tail _ (.tail _ (.head _))) n6.symm n20.symm n21 hL h3_ h4_ h5_ h6_ h7_⟩))) rfl rfl ?_
 rintro _ W50 ⟨(⟨k28, st29, rfl, hm34, hm35, hm36, ⟨iv32, ts33, hm37, hBp47, hV46, hm38⟩, hp51⟩ | ⟨k30, e31, rfl, hm39, hm40, hm41, ⟨cs48, hm42, hm43, hV46⟩, hp51⟩), g49⟩
 ·
  replace hB := ChgV.toChg hB g49 hB.size l23
  replace k9 := k9.chgV g49 k9.lt n12.symm n22
  refine Pu rfl (Ni (hK27 (Sq fun K52 hK52 => (Rg (Va (dx_loadN rfl ty_agg_27_5 rfl hV46.range rfl) rfl rfl (Pu rfl ?_))))))
  refine WL.do (dx_store (cs' := [.int .i64 5, .int .i64 0, .string ⟨#[]⟩, .slice none 0 0, iv32]) (vs := [.int .i64 5, .int .i64 0, .string ⟨#[]⟩, .slice none 0 0, iv32]) rfl ty_size_27_5 rfl rfl rfl (oC rfl (oC rfl (oC rfl (oC rfl (oC hm38.one oc_nil))))) k9 rfl (nB rfl) rfl) rfl ?_
  rintro _ W53 ⟨k55, o54⟩
  replace hp51 := hp51.other o54 n12
  clear k9
  replace hm38 := hm38.only o54 (.tail _ (.head _))
  replace hB := Chg.only hB o54 (.inr l14)
  refine Pu rfl (Ni (hK52 ?_))
  exact WC.ret fun a_ ha_ => hQ (cw_ret2 rfl (.agg rfl ty_agg_27_5 k55.range rfl) (.tmp rfl) (.inl ⟨k28, .mk 5 0 ⟨#[]⟩ (.slice none 0 0) [] iv32 ts33, rfl, (by unfold listS; rw [hm34, Tr.er_mk, hm37]), hm38.tree (fun x hx => (.tail _ (.tail _ (.tail _ hx)))) 5 0 ⟨#[]⟩, by omega, by omega, hp51⟩) hB ha_)
 ·
  replace hB := ChgV.toChg hB g49 hB.size l23
  replace k9 := k9.chgV g49 k9.lt n12.symm n22
  refine Pu rfl (Ni (hK27 (Sq fun K56 hK56 => (Rg (Va (dx_loadN (cs := cs48) rfl ty_agg_27_5 rfl hV46.range hm42) rfl rfl (Pu rfl ?_))))))
  refine WL.do (dx_storeW (vs := cs48) rfl ty_size_27_5 rfl rfl rfl hm43 k9 hm42 rfl) rfl ?_
  rintro _ W57 ⟨k59, o58⟩
  replace hp51 := hp51.other o58 n12
  clear k9
  replace hB := Chg.only hB o58 (.inr l14)
  refine Pu rfl (Ni (hK56 ?_))
  exact WC.ret fun a_ ha_ => hQ (cw_ret2 rfl (.agg rfl ty_agg_27_5 k59.range hm42) (.tmp rfl) (.inr ⟨k30, e31, cs48, rfl, hm39, hm42, hm43, (by unfold listS; rw [hm40]), by omega, hp51⟩) hB ha_)

theorem blank_y {c : Int} (h : c = 32 ∨ c = 9 ∨ c = 10 ∨ c = 13) : isBlank c = true := by unfold isBlank; rcases h with rfl | rfl | rfl | rfl <;> decide
theorem blank_n {c : Int} (h : isBlank c = true) : c = 32 ∨ c = 9 ∨ c = 10 ∨ c = 13 := by
 unfold isBlank at h
 rw [Bool.or_eq_true, Bool.or_eq_true, Bool.or_eq_true, decide_eq_true_eq, decide_eq_true_eq, decide_eq_true_eq, decide_eq_true_eq] at h
 exact h
def beginS (s w : ByteArray) (k : Nat) : Bool := decide (k + w.size ≤ s.size) && decide (s.extract k (k + w.size) = w)
set_option maxHeartbeats 1000000 in
theorem refBlank_v (s : ByteArray) (ka : Nat) (w : World) (L : List Nat) (hL : LL L w)   (hs : s.size ≤ 1000000) (hk : ka ≤ s.size) : CV Tryz.prog 21 [.string s, .int .i64 (ka : Int)] w fun v W => v = .int .i64 (blankS s ka : Int) := by
 refine cv_enter (N := 36) (f := [(0, .string s), (1, .int .i64 (ka : Int))]) Tryz.func21 rfl rfl rfl rfl fun Q hQ hE => ?_
 have hB := Below.refl w.heap.size w
 refine Sq fun K1 hK1 => (Rg (Pu rfl (Ni (hK1 (Sq fun K2 hK2 => (WC.block ?_))))))
 refine WC.loop (fun (kb : Nat) => [(0, .string s), (1, .int .i64 (kb : Int))]) (fun (kb : Nat) W => kb ≤ s.size ∧ blankS s ka = blankS s kb ∧ Below w.heap.size w W ∧ LL (L) W) (fun (kb : Nat) => s.size - kb) ka (by repeat first | exact trivial | refine aR ?_ | refine aI (by omega) ?_) ⟨hk, rfl, hB, hL⟩ ?_
 clear hB hL
 rintro K3 kb W4 ⟨hkb, hv, hB, hL⟩ hK3
 refine Sq fun K5 hK5 => (Sq fun K6 hK6 => (Rg (Pu rfl (Pu rfl (Va (dx_lenT rfl Tryz.underlying9 rfl) rfl rfl (Va (dx_lss rfl rfl rfl) rfl rfl (Pu rfl ?_)))))))
 refine WL.split 9 rfl (fun g7 => ?_) (fun g7 => ?_)
 ·
  replace g7 := dT g7
  refine Pu rfl (Pu rfl (Va (dx_at kb rfl Tryz.underlying9 rfl rfl (by omega) (by omega)) rfl rfl (Va (dx_eql rfl rfl rfl) rfl rfl (Pu rfl ?_))))
  refine WL.split 14 rfl (fun g8 => ?_) (fun g8 => ?_)
  ·
   replace g8 := dT g8
   refine Of rfl (Of rfl (Of rfl (Of rfl (Pu rfl (Pu rfl (Of rfl (Of rfl ?_)))))))
   refine Of rfl (Of rfl (Pu rfl (Pu rfl (Of rfl (Of rfl (Of rfl (Of rfl ?_)))))))
   refine Pu rfl (Pu rfl (Ni (hK6 (WC.condT rfl (WC.skip (hK5 (WC.block ?_)))))))
   refine Rg (Pu rfl (Va (dx_add (r := (kb : Int) + 1) rfl rfl rfl (wrap64_id (by omega))) rfl rfl (Pu rfl (Ni ?_))))
   exact hK3 (kb + 1) ⟨(by omega), (hv.trans (blank_go (by omega) (blank_y (by omega)))), hB, hL⟩ (by omega) (by repeat first | exact trivial | refine aR ?_ | refine aI (by omega) ?_)
  ·
   replace g8 := dF g8
   refine Pu rfl (Pu rfl (Va (dx_at kb rfl Tryz.underlying9 rfl rfl (by omega) (by omega)) rfl rfl (Va (dx_eql rfl rfl rfl) rfl rfl (Pu rfl (Pu rfl ?_)))))
   refine WL.split 20 rfl (fun g9 => ?_) (fun g9 => ?_)
   ·
    replace g9 := dT g9
    refine Of rfl (Of rfl (Of rfl (Of rfl (Pu rfl (Pu rfl (Of rfl (Of rfl ?_)))))))
    refine Of rfl (Of rfl (Pu rfl (Pu rfl (Ni (hK6 (WC.condT rfl (WC.skip ?_)))))))
    refine hK5 (WC.block (Rg (Pu rfl (Va (dx_add (r := (kb : Int) + 1) rfl rfl rfl (wrap64_id (by omega))) rfl rfl (Pu rfl (Ni ?_))))))
    exact hK3 (kb + 1) ⟨(by omega), (hv.trans (blank_go (by omega) (blank_y (by omega)))), hB, hL⟩ (by omega) (by repeat first | exact trivial | refine aR ?_ | refine aI (by omega) ?_)
   ·
    replace g9 := dF g9
    refine Pu rfl (Pu rfl (Va (dx_at kb rfl Tryz.underlying9 rfl rfl (by omega) (by omega)) rfl rfl (Va (dx_eql rfl rfl rfl) rfl rfl (Pu rfl (Pu rfl ?_)))))
    refine WL.split 26 rfl (fun g10 => ?_) (fun g10 => ?_)
    ·
     replace g10 := dT g10
     refine Of rfl (Of rfl (Of rfl (Of rfl (Pu rfl (Pu rfl (Ni (hK6 ?_)))))))
     refine WC.condT rfl (WC.skip (hK5 (WC.block (Rg (Pu rfl (Va (dx_add (r := (kb : Int) + 1) rfl rfl rfl (wrap64_id (by omega))) rfl rfl (Pu rfl ?_)))))))
     refine Ni ?_
     exact hK3 (kb + 1) ⟨(by omega), (hv.trans (blank_go (by omega) (blank_y (by omega)))), hB, hL⟩ (by omega) (by repeat first | exact trivial | refine aR ?_ | refine aI (by omega) ?_)
    ·
     replace g10 := dF g10
     refine Pu rfl (Pu rfl (Va (dx_at kb rfl Tryz.underlying9 rfl rfl (by omega) (by omega)) rfl rfl (Va (dx_eql rfl rfl rfl) rfl rfl (Pu rfl (Pu rfl (Ni (hK6 ?_)))))))
     refine WC.cond rfl (fun c11 => ?_) (fun c11 => ?_)
     ·
      replace c11 := dT c11
      refine WC.skip (hK5 (WC.block (Rg (Pu rfl (Va (dx_add (r := (kb : Int) + 1) rfl rfl rfl (wrap64_id (by omega))) rfl rfl (Pu rfl (Ni ?_)))))))
      exact hK3 (kb + 1) ⟨(by omega), (hv.trans (blank_go (by omega) (blank_y (by omega)))), hB, hL⟩ (by omega) (by repeat first | exact trivial | refine aR ?_ | refine aI (by omega) ?_)
     ·
      replace c11 := dF c11
      refine WC.exit ?_
      refine hK2 (Sq fun K12 hK12 => (Rg (Pu rfl (Pu rfl (Ni (hK12 ?_))))))
      exact WC.ret fun a_ ha_ => hQ (cv_ret1 rfl (.tmp rfl) (by rw [hv, blank_stop (fun ⟨h1_, h2_⟩ => by have := blank_n h2_; omega)]) hB ha_)
 ·
  replace g7 := dF g7
  refine Of rfl (Of rfl (Of rfl (Of rfl (Of rfl (Of rfl (Of rfl (Of rfl ?_)))))))
  refine Of rfl (Of rfl (Of rfl (Of rfl (Of rfl (Of rfl (Of rfl (Of rfl ?_)))))))
  refine Of rfl (Of rfl (Of rfl (Of rfl (Of rfl (Of rfl (Pu rfl (Ni ?_)))))))
  refine hK6 (WC.condF rfl ?_)
  refine WC.exit ?_
  refine hK2 (Sq fun K13 hK13 => (Rg (Pu rfl (Pu rfl (Ni (hK13 ?_))))))
  exact WC.ret fun a_ ha_ => hQ (cv_ret1 rfl (.tmp rfl) (by rw [hv, blank_stop (fun ⟨h1_, h2_⟩ => by have := blank_n h2_; omega)]) hB ha_)

set_option maxHeartbeats 1000000 in
theorem refDigit_v (c : Int) (w : World) (L : List Nat) (hL : LL L w)   (hc : 0 ≤ c ∧ c < 256) : CV Tryz.prog 92 [.int .u8 c] w fun v W => v = .int .i64 (hexD c) := by
 refine cv_enter (N := 35) (f := [(0, .int .u8 c)]) Tryz.func92 rfl rfl rfl rfl fun Q hQ hE => ?_
 have hB := Below.refl w.heap.size w
 refine Sq fun K1 hK1 => (Rg (Pu rfl (Ni (hK1 (Sq fun K2 hK2 => (WC.block (Sq fun K3 hK3 => ?_)))))))
 refine Rg (Pu rfl (Va (dx_geq rfl rfl rfl) rfl rfl (Pu rfl ?_)))
 refine WL.split 6 rfl (fun g4 => ?_) (fun g4 => ?_)
 ·
  replace g4 := dT g4
  refine Pu rfl (Va (dx_leq rfl rfl rfl) rfl rfl (Pu rfl (Pu rfl (Ni (hK3 ?_)))))
  refine WC.cond rfl (fun c5 => ?_) (fun c5 => ?_)
  ·
   replace c5 := dT c5
   refine Sq fun K6 hK6 => (Rg (Pu rfl (Va (dx_sub (r := c - 48) rfl rfl rfl (wrapu8_id (by omega))) rfl rfl (Va (dx_conv (r := c - 48) rfl Tryz.underlying5 Tryz.underlying3 rfl (wrap64_id (by omega))) rfl rfl (Pu rfl (Ni (hK6 ?_)))))))
   exact WC.ret fun a_ ha_ => hQ (cv_ret1 rfl (.tmp rfl) (by (try simp only [Bool.and_eq_false_iff, decide_eq_false_iff_not, Int.not_le] at *); congr 1; unfold hexD; repeat' split; all_goals omega) hB ha_)
  ·
   replace c5 := dF c5
   refine Sq fun K7 hK7 => (Rg (Pu rfl (Va (dx_geq rfl rfl rfl) rfl rfl (Pu rfl ?_))))
   refine WL.split 16 rfl (fun g8 => ?_) (fun g8 => ?_)
   ·
    replace g8 := dT g8
    refine Pu rfl (Va (dx_leq rfl rfl rfl) rfl rfl (Pu rfl (Pu rfl (Ni (hK7 ?_)))))
    refine WC.cond rfl (fun c9 => ?_) (fun c9 => ?_)
    ·
     replace c9 := dT c9
     refine Sq fun K10 hK10 => (Rg (Pu rfl (Va (dx_sub (r := c - 97) rfl rfl rfl (wrapu8_id (by omega))) rfl rfl (Va (dx_conv (r := c - 97) rfl Tryz.underlying5 Tryz.underlying3 rfl (wrap64_id (by omega))) rfl rfl (Va (dx_add (r := (c - 97) + 10) rfl rfl rfl (wrap64_id (by omega))) rfl rfl (Pu rfl (Ni ?_)))))))
     refine hK10 ?_
     exact WC.ret fun a_ ha_ => hQ (cv_ret1 rfl (.tmp rfl) (by (try simp only [Bool.and_eq_false_iff, decide_eq_false_iff_not, Int.not_le] at *); congr 1; unfold hexD; repeat' split; all_goals omega) hB ha_)
    ·
     replace c9 := dF c9
     refine Sq fun K11 hK11 => (Rg (Pu rfl (Va (dx_geq rfl rfl rfl) rfl rfl (Pu rfl ?_))))
     refine WL.split 27 rfl (fun g12 => ?_) (fun g12 => ?_)
     ·
      replace g12 := dT g12
      refine Pu rfl (Va (dx_leq rfl rfl rfl) rfl rfl (Pu rfl (Pu rfl (Ni (hK11 ?_)))))
      refine WC.cond rfl (fun c13 => ?_) (fun c13 => ?_)
      ·
       replace c13 := dT c13
       refine Sq fun K14 hK14 => (Rg (Pu rfl (Va (dx_sub (r := c - 65) rfl rfl rfl (wrapu8_id (by omega))) rfl rfl (Va (dx_conv (r := c - 65) rfl Tryz.underlying5 Tryz.underlying3 rfl (wrap64_id (by omega))) rfl rfl (Va (dx_add (r := (c - 65) + 10) rfl rfl rfl (wrap64_id (by omega))) rfl rfl (Pu rfl (Ni ?_)))))))
       refine hK14 ?_
       exact WC.ret fun a_ ha_ => hQ (cv_ret1 rfl (.tmp rfl) (by (try simp only [Bool.and_eq_false_iff, decide_eq_false_iff_not, Int.not_le] at *); congr 1; unfold hexD; repeat' split; all_goals omega) hB ha_)
      ·
       replace c13 := dF c13
       refine WC.skip (hK2 (Sq fun K15 hK15 => (Rg (Pu rfl (Ni (hK15 ?_))))))
       exact WC.ret fun a_ ha_ => hQ (cv_ret1 rfl (.tmp rfl) (by (try simp only [Bool.and_eq_false_iff, decide_eq_false_iff_not, Int.not_le] at *); congr 1; unfold hexD; repeat' split; all_goals omega) hB ha_)
     ·
      replace g12 := dF g12
      refine Of rfl (Of rfl (Pu rfl (Pu rfl (Ni (hK11 (WC.condF rfl (WC.skip ?_)))))))
      refine hK2 (Sq fun K16 hK16 => (Rg (Pu rfl (Ni (hK16 ?_)))))
      exact WC.ret fun a_ ha_ => hQ (cv_ret1 rfl (.tmp rfl) (by (try simp only [Bool.and_eq_false_iff, decide_eq_false_iff_not, Int.not_le] at *); congr 1; unfold hexD; repeat' split; all_goals omega) hB ha_)
   ·
    replace g8 := dF g8
    refine Of rfl (Of rfl (Pu rfl (Pu rfl (Ni (hK7 (WC.condF rfl (Sq fun K17 hK17 => ?_)))))))
    refine Rg (Pu rfl (Va (dx_geq rfl rfl rfl) rfl rfl (Pu rfl ?_)))
    refine WL.split 27 rfl (fun g18 => ?_) (fun g18 => ?_)
    ·
     replace g18 := dT g18
     refine Pu rfl (Va (dx_leq rfl rfl rfl) rfl rfl (Pu rfl (Pu rfl (Ni (hK17 ?_)))))
     refine WC.cond rfl (fun c19 => ?_) (fun c19 => ?_)
     ·
      replace c19 := dT c19
      refine Sq fun K20 hK20 => (Rg (Pu rfl (Va (dx_sub (r := c - 65) rfl rfl rfl (wrapu8_id (by omega))) rfl rfl (Va (dx_conv (r := c - 65) rfl Tryz.underlying5 Tryz.underlying3 rfl (wrap64_id (by omega))) rfl rfl (Va (dx_add (r := (c - 65) + 10) rfl rfl rfl (wrap64_id (by omega))) rfl rfl (Pu rfl (Ni ?_)))))))
      refine hK20 ?_
      exact WC.ret fun a_ ha_ => hQ (cv_ret1 rfl (.tmp rfl) (by (try simp only [Bool.and_eq_false_iff, decide_eq_false_iff_not, Int.not_le] at *); congr 1; unfold hexD; repeat' split; all_goals omega) hB ha_)
     ·
      replace c19 := dF c19
      refine WC.skip (hK2 (Sq fun K21 hK21 => (Rg (Pu rfl (Ni (hK21 ?_))))))
      exact WC.ret fun a_ ha_ => hQ (cv_ret1 rfl (.tmp rfl) (by (try simp only [Bool.and_eq_false_iff, decide_eq_false_iff_not, Int.not_le] at *); congr 1; unfold hexD; repeat' split; all_goals omega) hB ha_)
    ·
     replace g18 := dF g18
     refine Of rfl (Of rfl (Pu rfl (Pu rfl (Ni (hK17 (WC.condF rfl (WC.skip ?_)))))))
     refine hK2 (Sq fun K22 hK22 => (Rg (Pu rfl (Ni (hK22 ?_)))))
     exact WC.ret fun a_ ha_ => hQ (cv_ret1 rfl (.tmp rfl) (by (try simp only [Bool.and_eq_false_iff, decide_eq_false_iff_not, Int.not_le] at *); congr 1; unfold hexD; repeat' split; all_goals omega) hB ha_)
 ·
  replace g4 := dF g4
  refine Of rfl (Of rfl (Pu rfl (Pu rfl (Ni (hK3 (WC.condF rfl (Sq fun K23 hK23 => ?_)))))))
  refine Rg (Pu rfl (Va (dx_geq rfl rfl rfl) rfl rfl (Pu rfl ?_)))
  refine WL.split 16 rfl (fun g24 => ?_) (fun g24 => ?_)
  ·
   replace g24 := dT g24
   refine Pu rfl (Va (dx_leq rfl rfl rfl) rfl rfl (Pu rfl (Pu rfl (Ni (hK23 ?_)))))
   refine WC.cond rfl (fun c25 => ?_) (fun c25 => ?_)
   ·
    replace c25 := dT c25
    refine Sq fun K26 hK26 => (Rg (Pu rfl (Va (dx_sub (r := c - 97) rfl rfl rfl (wrapu8_id (by omega))) rfl rfl (Va (dx_conv (r := c - 97) rfl Tryz.underlying5 Tryz.underlying3 rfl (wrap64_id (by omega))) rfl rfl (Va (dx_add (r := (c - 97) + 10) rfl rfl rfl (wrap64_id (by omega))) rfl rfl (Pu rfl (Ni ?_)))))))
    refine hK26 ?_
    exact WC.ret fun a_ ha_ => hQ (cv_ret1 rfl (.tmp rfl) (by (try simp only [Bool.and_eq_false_iff, decide_eq_false_iff_not, Int.not_le] at *); congr 1; unfold hexD; repeat' split; all_goals omega) hB ha_)
   ·
    replace c25 := dF c25
    refine Sq fun K27 hK27 => (Rg (Pu rfl (Va (dx_geq rfl rfl rfl) rfl rfl (Pu rfl ?_))))
    refine WL.split 27 rfl (fun g28 => ?_) (fun g28 => ?_)
    ·
     replace g28 := dT g28
     refine Pu rfl (Va (dx_leq rfl rfl rfl) rfl rfl (Pu rfl (Pu rfl (Ni (hK27 ?_)))))
     refine WC.cond rfl (fun c29 => ?_) (fun c29 => ?_)
     ·
      replace c29 := dT c29
      refine Sq fun K30 hK30 => (Rg (Pu rfl (Va (dx_sub (r := c - 65) rfl rfl rfl (wrapu8_id (by omega))) rfl rfl (Va (dx_conv (r := c - 65) rfl Tryz.underlying5 Tryz.underlying3 rfl (wrap64_id (by omega))) rfl rfl (Va (dx_add (r := (c - 65) + 10) rfl rfl rfl (wrap64_id (by omega))) rfl rfl (Pu rfl (Ni ?_)))))))
      refine hK30 ?_
      exact WC.ret fun a_ ha_ => hQ (cv_ret1 rfl (.tmp rfl) (by (try simp only [Bool.and_eq_false_iff, decide_eq_false_iff_not, Int.not_le] at *); congr 1; unfold hexD; repeat' split; all_goals omega) hB ha_)
     ·
      replace c29 := dF c29
      refine WC.skip (hK2 (Sq fun K31 hK31 => (Rg (Pu rfl (Ni (hK31 ?_))))))
      exact WC.ret fun a_ ha_ => hQ (cv_ret1 rfl (.tmp rfl) (by (try simp only [Bool.and_eq_false_iff, decide_eq_false_iff_not, Int.not_le] at *); congr 1; unfold hexD; repeat' split; all_goals omega) hB ha_)
    ·
     replace g28 := dF g28
     refine Of rfl (Of rfl (Pu rfl (Pu rfl (Ni (hK27 (WC.condF rfl (WC.skip ?_)))))))
     refine hK2 (Sq fun K32 hK32 => (Rg (Pu rfl (Ni (hK32 ?_)))))
     exact WC.ret fun a_ ha_ => hQ (cv_ret1 rfl (.tmp rfl) (by (try simp only [Bool.and_eq_false_iff, decide_eq_false_iff_not, Int.not_le] at *); congr 1; unfold hexD; repeat' split; all_goals omega) hB ha_)
  ·
   replace g24 := dF g24
   refine Of rfl (Of rfl (Pu rfl (Pu rfl (Ni (hK23 (WC.condF rfl (Sq fun K33 hK33 => ?_)))))))
   refine Rg (Pu rfl (Va (dx_geq rfl rfl rfl) rfl rfl (Pu rfl ?_)))
   refine WL.split 27 rfl (fun g34 => ?_) (fun g34 => ?_)
   ·
    replace g34 := dT g34
    refine Pu rfl (Va (dx_leq rfl rfl rfl) rfl rfl (Pu rfl (Pu rfl (Ni (hK33 ?_)))))
    refine WC.cond rfl (fun c35 => ?_) (fun c35 => ?_)
    ·
     replace c35 := dT c35
     refine Sq fun K36 hK36 => (Rg (Pu rfl (Va (dx_sub (r := c - 65) rfl rfl rfl (wrapu8_id (by omega))) rfl rfl (Va (dx_conv (r := c - 65) rfl Tryz.underlying5 Tryz.underlying3 rfl (wrap64_id (by omega))) rfl rfl (Va (dx_add (r := (c - 65) + 10) rfl rfl rfl (wrap64_id (by omega))) rfl rfl (Pu rfl (Ni ?_)))))))
     refine hK36 ?_
     exact WC.ret fun a_ ha_ => hQ (cv_ret1 rfl (.tmp rfl) (by (try simp only [Bool.and_eq_false_iff, decide_eq_false_iff_not, Int.not_le] at *); congr 1; unfold hexD; repeat' split; all_goals omega) hB ha_)
    ·
     replace c35 := dF c35
     refine WC.skip (hK2 (Sq fun K37 hK37 => (Rg (Pu rfl (Ni (hK37 ?_))))))
     exact WC.ret fun a_ ha_ => hQ (cv_ret1 rfl (.tmp rfl) (by (try simp only [Bool.and_eq_false_iff, decide_eq_false_iff_not, Int.not_le] at *); congr 1; unfold hexD; repeat' split; all_goals omega) hB ha_)
   ·
    replace g34 := dF g34
    refine Of rfl (Of rfl (Pu rfl (Pu rfl (Ni (hK33 (WC.condF rfl (WC.skip ?_)))))))
    refine hK2 (Sq fun K38 hK38 => (Rg (Pu rfl (Ni (hK38 ?_)))))
    exact WC.ret fun a_ ha_ => hQ (cv_ret1 rfl (.tmp rfl) (by (try simp only [Bool.and_eq_false_iff, decide_eq_false_iff_not, Int.not_le] at *); congr 1; unfold hexD; repeat' split; all_goals omega) hB ha_)

set_option maxHeartbeats 1000000 in
theorem refFour_v (s : ByteArray) (ka : Nat) (w : World) (L : List Nat) (hL : LL L w)   (hs : s.size ≤ 1000000) (hk : ka ≤ s.size) : CV Tryz.prog 78 [.string s, .int .i64 (ka : Int)] w fun v W => v = .int .i64 ((fourS s ka).getD (-1)) := by
 refine cv_enter (N := 36) (f := [(0, .string s), (1, .int .i64 (ka : Int))]) Tryz.func78 rfl rfl rfl rfl fun Q hQ hE => ?_
 have hB := Below.refl w.heap.size w
 refine Sq fun K1 hK1 => (Rg (Pu rfl (Ni (hK1 (Sq fun K2 hK2 => (Rg (Pu rfl ?_)))))))
 refine Ni (hK2 (Sq fun K3 hK3 => (Sq fun K4 hK4 => (Rg (Pu rfl (Ni (hK4 ?_)))))))
 refine WC.block ?_
 refine WC.loop2 (fun (i : Nat) (r : Int) => [(0, .string s), (1, .int .i64 (ka : Int)), (6, .int .i64 (i : Int)), (5, .int .i64 r)]) (fun (i : Nat) (r : Int) W => i ≤ 4 ∧ 0 ≤ r ∧ ((i = 0 → r = 0) ∧ (i ≤ 1 → r ≤ 15) ∧ (i ≤ 2 → r ≤ 255) ∧ (i ≤ 3 → r ≤ 4095) ∧ r ≤ 65535) ∧ fourS s ka = fourN s (4 - i) (ka + i) r ∧ Below w.heap.size w W ∧ LL (L) W) (fun (i : Nat) (r : Int) => 4 - i) 0 0 (by repeat first | exact trivial | refine aR ?_ | refine aI (by omega) ?_) ⟨(by omega), (by omega), (by omega), rfl, hB, hL⟩ ?_
 clear hB hL
 rintro K5 i r W6 ⟨hi, hr0, hr1, hv, hB, hL⟩ hK5
 refine Sq fun K7 hK7 => (Sq fun K8 hK8 => (Rg (Pu rfl (Va (dx_lss rfl rfl rfl) rfl rfl (Ni (hK8 ?_))))))
 refine WC.cond rfl (fun c9 => ?_) (fun c9 => ?_)
 ·
  replace c9 := dT c9
  refine WC.skip (hK7 (Sq fun K10 hK10 => (WC.block (Sq fun K11 hK11 => (Sq fun K12 hK12 => (Rg (Pu rfl ?_)))))))
  refine Pu rfl (Va (dx_add (r := (ka : Int) + (i : Int)) rfl rfl rfl (wrap64_id (by omega))) rfl rfl (Pu rfl (Va (dx_lenT rfl Tryz.underlying9 rfl) rfl rfl (Va (dx_geq rfl rfl rfl) rfl rfl (Pu rfl ?_)))))
  refine WL.split 17 rfl (fun g13 => ?_) (fun g13 => ?_)
  ·
   replace g13 := dT g13
   refine Of rfl (Of rfl (Of rfl (Of rfl (Of rfl (Of rfl (Of rfl (Pu rfl ?_)))))))
   refine Ni (hK12 (WC.condT rfl (Sq fun K14 hK14 => (Rg (Pu rfl (Ni (hK14 ?_)))))))
   exact WC.ret fun a_ ha_ => hQ (cv_ret1 rfl (.tmp rfl) (by obtain ⟨n, hn⟩ : ∃ n, 4 - i = n + 1 := ⟨3 - i, by omega⟩; rw [hv, hn, four_stop (by omega)]; rfl) hB ha_)
  ·
   replace g13 := dF g13
   refine Pu rfl (Pu rfl (Pu rfl (Va (dx_add (r := (ka : Int) + (i : Int)) rfl rfl rfl (wrap64_id (by omega))) rfl rfl (Va (dx_at (ka + i) rfl Tryz.underlying9 rfl rfl (by omega) (by omega)) rfl rfl ?_))))
   refine Ge (dx_cv rfl Tryz.func92 rfl rfl rfl (refDigit_v (atS s (ka + i)) W6 _ hL (by have := atS_lo s (ka + i); omega))) rfl rfl ?_
   rintro _ W20 ⟨rfl, b19⟩
   replace hB := below_then hB b19
   replace hL := LL.below hL b19
   have hd18 := hexD_le (atS s (ka + i))
   refine Va (dx_lss rfl rfl rfl) rfl rfl (Pu rfl (Ni (hK12 ?_)))
   refine WC.cond rfl (fun c21 => ?_) (fun c21 => ?_)
   ·
    replace c21 := dT c21
    refine Sq fun K22 hK22 => (Rg (Pu rfl (Ni (hK22 ?_))))
    exact WC.ret fun a_ ha_ => hQ (cv_ret1 rfl (.tmp rfl) (by obtain ⟨n, hn⟩ : ∃ n, 4 - i = n + 1 := ⟨3 - i, by omega⟩; rw [hv, hn, four_stop (by omega)]; rfl) hB ha_)
   ·
    replace c21 := dF c21
    refine WC.skip (hK11 (Rg (Pu rfl (Va (dx_mul (r := r * 16) rfl rfl rfl (wrap64_id (by omega))) rfl rfl (Pu rfl (Pu rfl (Pu rfl ?_)))))))
    refine Va (dx_add (r := (ka : Int) + (i : Int)) rfl rfl rfl (wrap64_id (by omega))) rfl rfl (Va (dx_at (ka + i) rfl Tryz.underlying9 rfl rfl (by omega) (by omega)) rfl rfl ?_)
    refine Ge (dx_cv rfl Tryz.func92 rfl rfl rfl (refDigit_v (atS s (ka + i)) W20 _ hL (by have := atS_lo s (ka + i); omega))) rfl rfl ?_
    rintro _ W28 ⟨rfl, b27⟩
    replace hB := below_then hB b27
    replace hL := LL.below hL b27
    have hd26 := hexD_le (atS s (ka + i))
    refine Va (dx_add (r := (r * 16) + (hexD (atS s (ka + i)))) rfl rfl rfl (wrap64_id (by omega))) rfl rfl (Pu rfl (Ni (hK10 (Rg (Pu rfl (Va (dx_add (r := (i : Int) + 1) rfl rfl rfl (wrap64_id (by omega))) rfl rfl (Pu rfl ?_)))))))
    refine Ni ?_
    obtain ⟨n, hn⟩ : ∃ n, 4 - i = n + 1 := ⟨3 - i, by omega⟩
    have hv2 := hv
    rw [hn, four_go (by omega) (by omega)] at hv2
    exact hK5 (i + 1) ((r * 16) + (hexD (atS s (ka + i)))) ⟨(by omega), (by omega), (by omega), (by rw [hv2]; congr 1 <;> omega), hB, hL⟩ (by omega) (by repeat first | exact trivial | refine aR ?_ | refine aI (by omega) ?_)
 ·
  replace c9 := dF c9
  refine WC.exit ?_
  refine hK3 (Sq fun K29 hK29 => (Rg (Pu rfl (Pu rfl (Ni (hK29 ?_))))))
  exact WC.ret fun a_ ha_ => hQ (cv_ret1 rfl (.tmp rfl) (by obtain rfl : i = 4 := (by omega); rw [hv]; rfl) hB ha_)

set_option maxHeartbeats 1000000 in
theorem refBegins_v (s wd : ByteArray) (ka : Nat) (w : World) (L : List Nat) (hL : LL L w)   (hs : s.size ≤ 1000000) (hk : ka ≤ s.size) (hwd : wd.size ≤ 1000) : CV Tryz.prog 40 [.string s, .int .i64 (ka : Int), .string wd] w fun v W => v = .bool (beginS s wd ka) := by
 refine cv_enter (N := 25) (f := [(0, .string s), (1, .int .i64 (ka : Int)), (2, .string wd)]) Tryz.func40 rfl rfl rfl rfl fun Q hQ hE => ?_
 have hB := Below.refl w.heap.size w
 refine WC.seq fun K1 hK1 => (WC.region (Pu rfl (WL.nil (hK1 (WC.seq fun K2 hK2 => (WC.region (Pu rfl ?_)))))))
 refine Pu rfl (WL.val (dx_lenT rfl Tryz.underlying9 rfl) rfl rfl (Pu rfl (WL.val (dx_lenT rfl Tryz.underlying9 rfl) rfl rfl (WL.val (dx_sub (r := (s.size : Int) - (wd.size : Int)) rfl rfl rfl (wrap64_id (by omega))) rfl rfl (WL.val (dx_leq rfl rfl rfl) rfl rfl (Pu rfl ?_))))))
 refine WL.split 14 rfl (fun g3 => ?_) (fun g3 => ?_)
 ·
  replace g3 := of_decide_eq_true g3
  refine Pu rfl (Pu rfl (Pu rfl (Pu rfl (WL.val (dx_lenT rfl Tryz.underlying9 rfl) rfl rfl (WL.val (dx_add (r := (ka : Int) + (wd.size : Int)) rfl rfl rfl (wrap64_id (by omega))) rfl rfl (WL.val (dx_slTLH ka (ka + wd.size) rfl Tryz.underlying9 rfl rfl rfl (by omega) (by omega) (by omega) (by omega)) rfl rfl (Pu rfl ?_)))))))
  refine WL.val (dx_eqlT rfl rfl rfl) rfl rfl (Pu rfl (Pu rfl (WL.nil (hK2 ?_))))
  exact WC.ret fun a_ ha_ => hQ (cv_ret1 rfl (.tmp rfl) (by unfold beginS; rw [decide_eq_true (show ka + wd.size ≤ s.size by omega)]; rfl) hB ha_)
 ·
  replace g3 := of_decide_eq_false g3
  refine Of rfl (Of rfl (Of rfl (Of rfl (Of rfl (Of rfl (Of rfl (Of rfl ?_)))))))
  refine Of rfl (Pu rfl (Pu rfl (WL.nil (hK2 ?_))))
  exact WC.ret fun a_ ha_ => hQ (cv_ret1 rfl (.tmp rfl) (by unfold beginS; rw [decide_eq_false (by omega)]; rfl) hB ha_)

def numV : Except Int (Int × Nat) → Value
 | .error e => .tuple #[.int .i64 0, .int .i64 0, .int .i64 e]
 | .ok (n, k) => .tuple #[.int .i64 n, .int .i64 (k : Int), .int .i64 0]
def ClN (s : ByteArray) (kf kb : Nat) (n : Int) : Prop := digS s kf = digS s kb ∧ (kf < kb → 1 ≤ n) ∧ (kf = kb → n = 0) ∧ ((n < 9007199254740992 ∧ accN s (digS s kf - kf) kf 0 = accN s (digS s kf - kb) kb n) ∨ (n = 9007199254740992 ∧ accN s (digS s kf - kf) kf 0 = none))
theorem cl_step {s : ByteArray} {kf kb : Nat} {n m : Int} (h : ClN s kf kb n) (hk : kf ≤ kb) (hs : kb < s.size) (h0 : 0 ≤ n) (h1 : 48 ≤ atS s kb) (h2 : atS s kb ≤ 57) (hf : kb = kf → ¬ atS s kb = 48) (hm : m = if 9007199254740992 < n * 10 + (atS s kb - 48) then 9007199254740992 else n * 10 + (atS s kb - 48)) : ClN s kf (kb + 1) m := by
  obtain ⟨a1, a2, a3, a4⟩ := h
  have hd : isDig (atS s kb) = true := by unfold isDig; rw [decide_eq_true h1, decide_eq_true h2]; rfl
  have hg := dig_go hs hd
  have hle := digS_le (s := s) (k := kb + 1) (by omega)
  have hn1 : 1 ≤ n * 10 + (atS s kb - 48) := by
    rcases Nat.eq_or_lt_of_le hk with h | h
    · have := hf h.symm; omega
    · have := a2 h; omega
  obtain ⟨q, hq⟩ : ∃ q, digS s kf - kb = q + 1 := ⟨digS s kf - kb - 1, by omega⟩
  refine ⟨a1.trans hg, fun _ => by subst hm; split <;> omega, fun h => by omega, ?_⟩
  rcases a4 with ⟨b1, b2⟩ | ⟨b1, b2⟩
  · by_cases hx : 9007199254740991 < n * 10 + (atS s kb - 48)
    · refine .inr ⟨by subst hm; split <;> omega, ?_⟩
      rw [b2, hq]
      exact acc_no hx
    · refine .inl ⟨by subst hm; split <;> omega, ?_⟩
      rw [b2, hq, acc_go hx, hm, if_neg (by omega), show digS s kf - (kb + 1) = q by omega]
  · exact .inr ⟨by subst hm; rw [if_pos (by omega)], b2⟩
theorem cl_end {s : ByteArray} {kf kb : Nat} {n : Int} (h : ClN s kf kb n) (he : digS s kb = kb) : digS s kf = kb ∧ ((n < 9007199254740992 ∧ accN s (digS s kf - kf) kf 0 = some n) ∨ (n = 9007199254740992 ∧ accN s (digS s kf - kf) kf 0 = none)) := by
  obtain ⟨a1, a2, a3, a4⟩ := h
  have e : digS s kf = kb := a1.trans he
  refine ⟨e, ?_⟩
  rcases a4 with ⟨b1, b2⟩ | h
  · refine .inl ⟨b1, b2.trans ?_⟩
    rw [e, Nat.sub_self]
    rfl
  · exact .inr h
theorem dig_no {s : ByteArray} {k : Nat} (h : ¬ (k < s.size ∧ 48 ≤ atS s k ∧ atS s k ≤ 57)) : digS s k = k := dig_stop fun ⟨h1, h2⟩ => h ⟨h1, by unfold isDig at h2; rw [Bool.and_eq_true, decide_eq_true_eq, decide_eq_true_eq] at h2; exact h2⟩
theorem num_sign {s : ByteArray} {ka kf : Nat} {mi : Bool} (hk : ka < s.size) (hm : mi = decide (atS s ka = 45)) (hf : kf = if atS s ka = 45 then ka + 1 else ka) : numS s ka = numT s mi kf := by
 subst hm hf
 by_cases h : atS s ka = 45
 · rw [decide_eq_true h, if_pos h]; exact numS_t (take_of hk h.symm) rfl
 · rw [decide_eq_false h, if_neg h]; exact numS_f (by unfold takeS; rw [decide_eq_false h, Bool.and_false])
def NumR (s : ByteArray) (kf kb : Nat) (n : Int) : Prop := (atS s kf = 48 → (kb = kf ∧ n = 0) ∨ (kb = kf + 1 ∧ n = 0)) ∧ (¬ atS s kf = 48 → ClN s kf kb n)
theorem numR_0 {s : ByteArray} {kf : Nat} : NumR s kf kf 0 := ⟨fun _ => .inl ⟨rfl, rfl⟩, fun _ => ⟨rfl, fun h => by omega, fun _ => rfl, .inl ⟨by decide, rfl⟩⟩⟩
theorem numR_step {s : ByteArray} {kf kb : Nat} {n m : Int} (h : NumR s kf kb n) (hk : kf ≤ kb) (hs : kb < s.size) (h0 : 0 ≤ n) (h1 : 48 ≤ atS s kb) (h2 : atS s kb ≤ 57) (hf : kb = kf ∨ ¬ atS s kf = 48) (hm : m = if 9007199254740992 < n * 10 + (atS s kb - 48) then 9007199254740992 else n * 10 + (atS s kb - 48)) : NumR s kf (kb + 1) m := by
  refine ⟨fun hz => ?_, fun hz => cl_step (h.2 hz) hk hs h0 h1 h2 (fun e => by rw [e]; exact hz) hm⟩
  rcases h.1 hz with ⟨a, b⟩ | ⟨a, b⟩
  · refine .inr ⟨by omega, ?_⟩
    subst a
    rw [hm, hz, b, if_neg (by omega)]; rfl
  · rcases hf with hf | hf
    · omega
    · exact absurd hz hf
section
variable {s : ByteArray} {ka kf kb : Nat} {n : Int} {mi : Bool}
theorem numR_z (h : NumR s kf kb n) (hz : atS s kf = 48) (hfd : kf < s.size) (he : ¬ (kb < s.size ∧ 48 ≤ atS s kb ∧ atS s kb ≤ 57 ∧ (kb = kf ∨ ¬ atS s kf = 48))) : kb = kf + 1 ∧ n = 0 := by
 rcases h.1 hz with ⟨a, b⟩ | h
 · exact absurd ⟨by omega, by rw [a, hz]; decide, by rw [a, hz]; decide, .inl a⟩ he
 · exact h
theorem numR_nz (h : NumR s kf kb n) (hz : ¬ atS s kf = 48) (hfd : kf < s.size) (hf1 : 48 ≤ atS s kf) (hf2 : atS s kf ≤ 57) (hk : kf ≤ kb) (he : ¬ (kb < s.size ∧ 48 ≤ atS s kb ∧ atS s kb ≤ 57 ∧ (kb = kf ∨ ¬ atS s kf = 48))) : kf < kb ∧ 1 ≤ n ∧ digS s kf = kb ∧ ((n < 9007199254740992 ∧ accN s (digS s kf - kf) kf 0 = some n) ∨ (n = 9007199254740992 ∧ accN s (digS s kf - kf) kf 0 = none)) := by
 have hlt : kf < kb := by
  rcases Nat.eq_or_lt_of_le hk with e | e
  · subst e; exact absurd ⟨hfd, hf1, hf2, .inl rfl⟩ he
  · exact e
 have hq := cl_end (h.2 hz) (dig_no fun ⟨a, b, c⟩ => he ⟨a, b, c, .inr hz⟩)
 exact ⟨hlt, (h.2 hz).2.1 hlt, hq⟩
end
set_option maxHeartbeats 1000000 in
theorem refNumber_v (s : ByteArray) (ka : Nat) (w : World) (L : List Nat) (hL : LL L w)   (hs : s.size ≤ 1000000) (hk : ka ≤ s.size) (hk1 : ka < s.size) : CV Tryz.prog 42 [.string s, .int .i64 (ka : Int)] w fun v W => v = numV (numS s ka) := by
 refine cv_enter (N := 84) (f := [(0, .string s), (1, .int .i64 (ka : Int))]) Tryz.func42 rfl rfl rfl rfl fun Q hQ hE => ?_
 have hB := Below.refl w.heap.size w
 refine Sq fun K1 hK1 => (Rg (Pu rfl (Pu rfl (Pu rfl (Ni (hK1 (Sq fun K2 hK2 => ?_)))))))
 refine Rg (Pu rfl (Pu rfl (Va (dx_at ka rfl Tryz.underlying9 rfl rfl (by omega) (by omega)) rfl rfl (Va (dx_eql rfl rfl rfl) rfl rfl (Pu rfl (Ni (hK2 ?_)))))))
 refine Sq fun K3 hK3 => ?_
 have hJ2 : ∀ (kf : Nat) (mi : Bool) (f_ : Fl), (mi = decide (atS s ka = 45) ∧ kf = if atS s ka = 45 then ka + 1 else ka) → Sub [(0, .string s), (1, .int .i64 (kf : Int)), (7, .bool mi)] f_ → ∀ a, Fr 84 a f_ → K3 a w := by
  intro kf mi f_ hb_ hs_
  have hnum := num_sign hk1 hb_.1 hb_.2; have hkf : kf ≤ s.size := (by have h_ := hb_.2; split at h_ <;> omega)
  refine hK3 (WC.sub hs_ ?_)
  refine Sq fun K4 hK4 => (Sq fun K5 hK5 => (Rg (Pu rfl (Pu rfl (Va (dx_lenT rfl Tryz.underlying9 rfl) rfl rfl (Va (dx_geq rfl rfl rfl) rfl rfl (Pu rfl ?_)))))))
  refine WL.split 21 rfl (fun g6 => ?_) (fun g6 => ?_)
  ·
   replace g6 := dT g6
   refine Of rfl (Of rfl (Of rfl (Of rfl (Pu rfl (Pu rfl (Of rfl (Of rfl ?_)))))))
   refine Of rfl (Of rfl (Pu rfl (Ni (hK5 (WC.condT rfl (Sq fun K7 hK7 => (Rg ?_)))))))
   refine Pu rfl (Pu rfl (Pu rfl (Ni (hK7 ?_))))
   exact WC.ret fun a_ ha_ => hQ (cv_ret3 rfl (.tmp rfl) (.tmp rfl) (.tmp rfl) (by rw [hnum, numT_0 (by omega) (dig_no (by omega))]; rfl) hB ha_)
  ·
   replace g6 := dF g6
   refine Pu rfl (Pu rfl (Va (dx_at kf rfl Tryz.underlying9 rfl rfl (by omega) (by omega)) rfl rfl (Va (dx_lss rfl rfl rfl) rfl rfl (Pu rfl (Pu rfl ?_)))))
   refine WL.split 27 rfl (fun g8 => ?_) (fun g8 => ?_)
   ·
    replace g8 := dT g8
    refine Of rfl (Of rfl (Of rfl (Of rfl (Pu rfl (Ni (hK5 (WC.condT rfl ?_)))))))
    refine Sq fun K9 hK9 => (Rg (Pu rfl (Pu rfl (Pu rfl (Ni (hK9 ?_))))))
    exact WC.ret fun a_ ha_ => hQ (cv_ret3 rfl (.tmp rfl) (.tmp rfl) (.tmp rfl) (by rw [hnum, numT_0 (by omega) (dig_no (by omega))]; rfl) hB ha_)
   ·
    replace g8 := dF g8
    refine Pu rfl (Pu rfl (Va (dx_at kf rfl Tryz.underlying9 rfl rfl (by omega) (by omega)) rfl rfl (Va (dx_gtr rfl rfl rfl) rfl rfl (Pu rfl (Ni (hK5 ?_))))))
    refine WC.cond rfl (fun c10 => ?_) (fun c10 => ?_)
    ·
     replace c10 := dT c10
     refine Sq fun K11 hK11 => (Rg (Pu rfl (Pu rfl (Pu rfl (Ni (hK11 ?_))))))
     exact WC.ret fun a_ ha_ => hQ (cv_ret3 rfl (.tmp rfl) (.tmp rfl) (.tmp rfl) (by rw [hnum, numT_0 (by omega) (dig_no (by omega))]; rfl) hB ha_)
    ·
     replace c10 := dF c10
     refine WC.skip (hK4 (Sq fun K12 hK12 => ?_))
     have hfd : kf < s.size := by omega
     have hf12 : 48 ≤ atS s kf ∧ atS s kf ≤ 57 := by omega
     refine Rg (Pu rfl (Pu rfl (Pu rfl (Ni (hK12 (Sq fun K13 hK13 => ?_))))))
     have hJb7 : ∀ (kb : Nat) (n : Int) (W14 : World) (f_ : Fl), kb ≤ s.size ∧ kf ≤ kb ∧ 0 ≤ n ∧ n ≤ 9007199254740992 ∧ NumR s kf kb n ∧ ¬ (kb < s.size ∧ 48 ≤ atS s kb ∧ atS s kb ≤ 57 ∧ (kb = kf ∨ ¬ atS s kf = 48)) ∧ Below w.heap.size w W14 ∧ LL (L) W14 → Sub [(0, .string s), (7, .bool mi), (1, .int .i64 (kb : Int)), (8, .int .i64 n)] f_ → ∀ a, Fr 84 a f_ → K13 a W14 := by
      clear hB hL
      rintro kb n W14 f_ ⟨hkb, hkk, hn0, hn1, hv, he, hB, hL⟩ hs_
      refine hK13 (WC.sub hs_ ?_)
      refine Sq fun K15 hK15 => (Sq fun K16 hK16 => (Rg (Pu rfl (Pu rfl ?_))))
      refine WL.split 73 rfl (fun g17 => ?_) (fun g17 => ?_)
      ·
       refine Pu rfl (Va (dx_eql rfl rfl rfl) rfl rfl (Pu rfl (Ni (hK16 ?_))))
       refine WC.cond rfl (fun c18 => ?_) (fun c18 => ?_)
       ·
        replace c18 := dT c18
        refine Sq fun K19 hK19 => (Rg (Pu rfl (Pu rfl (Pu rfl (Ni (hK19 ?_))))))
        exact WC.ret fun a_ ha_ => hQ (cv_ret3 rfl (.tmp rfl) (.tmp rfl) (.tmp rfl) ((Classical.em (atS s kf = 48)).elim (fun hz => by obtain ⟨h1_, h2_⟩ := numR_z hv hz hfd he; rw [hnum, (show mi = true by assumption), numT_m ⟨hfd, hz⟩]; rfl) (fun hz => by obtain ⟨h1_, h2_, h3_, h4_⟩ := numR_nz hv hz hfd hf12.1 hf12.2 hkk he; exfalso; omega)) hB ha_)
       ·
        replace c18 := dF c18
        refine WC.skip (hK15 (Sq fun K20 hK20 => (Sq fun K21 hK21 => (Rg (Pu rfl (Va (dx_eql rfl rfl rfl) rfl rfl (Ni ?_)))))))
        refine hK21 ?_
        refine WC.cond rfl (fun c22 => ?_) (fun c22 => ?_)
        ·
         replace c22 := dT c22
         refine Sq fun K23 hK23 => (Rg (Pu rfl (Pu rfl (Pu rfl (Ni (hK23 ?_))))))
         exact WC.ret fun a_ ha_ => hQ (cv_ret3 rfl (.tmp rfl) (.tmp rfl) (.tmp rfl) ((Classical.em (atS s kf = 48)).elim (fun hz => by obtain ⟨h1_, h2_⟩ := numR_z hv hz hfd he; exfalso; omega) (fun hz => by obtain ⟨h1_, h2_, h3_, h4_⟩ := numR_nz hv hz hfd hf12.1 hf12.2 hkk he; rw [hnum, numT_n (fun h_ => hz h_.2) (by omega) (by rcases h4_ with ⟨q1, q2⟩ | ⟨q1, q2⟩; (exfalso; omega); exact q2)]; rfl)) hB ha_)
        ·
         replace c22 := dF c22
         refine WC.skip (hK20 (Sq fun K24 hK24 => (Sq fun K25 hK25 => (Rg (Pu rfl (Ni (hK25 ?_)))))))
         refine WC.cond rfl (fun c26 => ?_) (fun c26 => ?_)
         ·
          refine Rg (Pu rfl (Va (dx_neg rfl rfl (wrap64_id (by omega))) rfl rfl (Pu rfl (Ni (hK24 (Sq fun K27 hK27 => (Rg ?_)))))))
          refine Pu rfl (Pu rfl (Pu rfl (Pu rfl (Pu rfl (Ni (hK27 ?_))))))
          exact WC.ret fun a_ ha_ => hQ (cv_ret3 rfl (.tmp rfl) (.tmp rfl) (.tmp rfl) ((Classical.em (atS s kf = 48)).elim (fun hz => by obtain ⟨h1_, h2_⟩ := numR_z hv hz hfd he; exfalso; first | omega | (simp_all; done)) (fun hz => by obtain ⟨h1_, h2_, h3_, h4_⟩ := numR_nz hv hz hfd hf12.1 hf12.2 hkk he; rw [hnum, (show mi = true by assumption), numT_s (n := n) (fun h_ => hz h_.2) (by omega) (by rcases h4_ with ⟨q1, q2⟩ | ⟨q1, q2⟩; exact q2; (exfalso; omega)), h3_]; rfl)) hB ha_)
         ·
          replace c26 := bvar_f c26
          refine WC.skip (hK24 (Sq fun K28 hK28 => (Rg (Pu rfl (Pu rfl (Pu rfl (Pu rfl ?_)))))))
          refine Pu rfl (Ni (hK28 ?_))
          exact WC.ret fun a_ ha_ => hQ (cv_ret3 rfl (.tmp rfl) (.tmp rfl) (.tmp rfl) ((Classical.em (atS s kf = 48)).elim (fun hz => by obtain ⟨h1_, h2_⟩ := numR_z hv hz hfd he; rw [hnum, (show mi = false by first | assumption | exact Bool.eq_false_iff.2 (by assumption)), numT_z (k1 := kb) ⟨hfd, hz⟩ h1_, h2_]; rfl) (fun hz => by obtain ⟨h1_, h2_, h3_, h4_⟩ := numR_nz hv hz hfd hf12.1 hf12.2 hkk he; rw [hnum, (show mi = false by first | assumption | exact Bool.eq_false_iff.2 (by assumption)), numT_s (n := n) (fun h_ => hz h_.2) (by omega) (by rcases h4_ with ⟨q1, q2⟩ | ⟨q1, q2⟩; exact q2; (exfalso; omega)), h3_]; rfl)) hB ha_)
      ·
       replace g17 := bvar_f g17
       refine Of rfl (Of rfl (Pu rfl (Ni (hK16 (WC.condF rfl (WC.skip (hK15 ?_)))))))
       refine Sq fun K29 hK29 => (Sq fun K30 hK30 => (Rg (Pu rfl (Va (dx_eql rfl rfl rfl) rfl rfl (Ni (hK30 ?_))))))
       refine WC.cond rfl (fun c31 => ?_) (fun c31 => ?_)
       ·
        replace c31 := dT c31
        refine Sq fun K32 hK32 => (Rg (Pu rfl (Pu rfl (Pu rfl (Ni (hK32 ?_))))))
        exact WC.ret fun a_ ha_ => hQ (cv_ret3 rfl (.tmp rfl) (.tmp rfl) (.tmp rfl) ((Classical.em (atS s kf = 48)).elim (fun hz => by obtain ⟨h1_, h2_⟩ := numR_z hv hz hfd he; exfalso; omega) (fun hz => by obtain ⟨h1_, h2_, h3_, h4_⟩ := numR_nz hv hz hfd hf12.1 hf12.2 hkk he; rw [hnum, numT_n (fun h_ => hz h_.2) (by omega) (by rcases h4_ with ⟨q1, q2⟩ | ⟨q1, q2⟩; (exfalso; omega); exact q2)]; rfl)) hB ha_)
       ·
        replace c31 := dF c31
        refine WC.skip (hK29 (Sq fun K33 hK33 => (Sq fun K34 hK34 => (Rg (Pu rfl (Ni (hK34 ?_)))))))
        refine WC.cond rfl (fun c35 => ?_) (fun c35 => ?_)
        ·
         refine Rg (Pu rfl (Va (dx_neg rfl rfl (wrap64_id (by omega))) rfl rfl (Pu rfl (Ni (hK33 (Sq fun K36 hK36 => (Rg ?_)))))))
         refine Pu rfl (Pu rfl (Pu rfl (Pu rfl (Pu rfl (Ni (hK36 ?_))))))
         exact WC.ret fun a_ ha_ => hQ (cv_ret3 rfl (.tmp rfl) (.tmp rfl) (.tmp rfl) ((Classical.em (atS s kf = 48)).elim (fun hz => by obtain ⟨h1_, h2_⟩ := numR_z hv hz hfd he; exfalso; first | omega | (simp_all; done)) (fun hz => by obtain ⟨h1_, h2_, h3_, h4_⟩ := numR_nz hv hz hfd hf12.1 hf12.2 hkk he; rw [hnum, (show mi = true by assumption), numT_s (n := n) (fun h_ => hz h_.2) (by omega) (by rcases h4_ with ⟨q1, q2⟩ | ⟨q1, q2⟩; exact q2; (exfalso; omega)), h3_]; rfl)) hB ha_)
        ·
         replace c35 := bvar_f c35
         refine WC.skip (hK33 (Sq fun K37 hK37 => (Rg (Pu rfl (Pu rfl (Pu rfl (Pu rfl ?_)))))))
         refine Pu rfl (Ni (hK37 ?_))
         exact WC.ret fun a_ ha_ => hQ (cv_ret3 rfl (.tmp rfl) (.tmp rfl) (.tmp rfl) ((Classical.em (atS s kf = 48)).elim (fun hz => by obtain ⟨h1_, h2_⟩ := numR_z hv hz hfd he; rw [hnum, (show mi = false by first | assumption | exact Bool.eq_false_iff.2 (by assumption)), numT_z (k1 := kb) ⟨hfd, hz⟩ h1_, h2_]; rfl) (fun hz => by obtain ⟨h1_, h2_, h3_, h4_⟩ := numR_nz hv hz hfd hf12.1 hf12.2 hkk he; rw [hnum, (show mi = false by first | assumption | exact Bool.eq_false_iff.2 (by assumption)), numT_s (n := n) (fun h_ => hz h_.2) (by omega) (by rcases h4_ with ⟨q1, q2⟩ | ⟨q1, q2⟩; exact q2; (exfalso; omega)), h3_]; rfl)) hB ha_)
     refine WC.block ?_
     refine WC.loop2 (fun (kb : Nat) (n : Int) => [(0, .string s), (7, .bool mi), (9, .int .i64 (kf : Int)), (1, .int .i64 (kb : Int)), (8, .int .i64 n)]) (fun (kb : Nat) (n : Int) W => kb ≤ s.size ∧ kf ≤ kb ∧ 0 ≤ n ∧ n ≤ 9007199254740992 ∧ NumR s kf kb n ∧ Below w.heap.size w W ∧ LL (L) W) (fun (kb : Nat) (n : Int) => s.size - kb) kf 0 (by repeat first | exact trivial | refine aR ?_ | refine aI (by omega) ?_) ⟨(by omega), (by omega), (by omega), (by omega), numR_0, hB, hL⟩ ?_
     clear hB hL
     rintro K38 kb n W39 ⟨hkb, hkk, hn0, hn1, hv, hB, hL⟩ hK38
     refine Sq fun K40 hK40 => (Sq fun K41 hK41 => (Rg (Pu rfl (Pu rfl (Va (dx_lenT rfl Tryz.underlying9 rfl) rfl rfl (Va (dx_lss rfl rfl rfl) rfl rfl (Pu rfl ?_)))))))
     refine WL.split 38 rfl (fun g42 => ?_) (fun g42 => ?_)
     ·
      replace g42 := dT g42
      refine Pu rfl (Pu rfl (Va (dx_at kb rfl Tryz.underlying9 rfl rfl (by omega) (by omega)) rfl rfl (Va (dx_geq rfl rfl rfl) rfl rfl (Pu rfl (Pu rfl ?_)))))
      refine WL.split 44 rfl (fun g43 => ?_) (fun g43 => ?_)
      ·
       replace g43 := dT g43
       refine Pu rfl (Pu rfl (Va (dx_at kb rfl Tryz.underlying9 rfl rfl (by omega) (by omega)) rfl rfl (Va (dx_leq rfl rfl rfl) rfl rfl (Pu rfl (Pu rfl ?_)))))
       refine WL.split 50 rfl (fun g44 => ?_) (fun g44 => ?_)
       ·
        replace g44 := dT g44
        refine Pu rfl (Pu rfl (Va (dx_eql rfl rfl rfl) rfl rfl (Pu rfl ?_)))
        refine WL.split 54 rfl (fun g45 => ?_) (fun g45 => ?_)
        ·
         replace g45 := dT g45
         refine Of rfl (Of rfl (Of rfl (Of rfl (Pu rfl (Pu rfl (Ni (hK41 ?_)))))))
         refine WC.condT rfl (WC.skip (hK40 (WC.block (Sq fun K46 hK46 => (Rg (Pu rfl (Va (dx_mul (r := n * 10) rfl rfl rfl (wrap64_id (by omega))) rfl rfl ?_)))))))
         refine Pu rfl (Pu rfl (Va (dx_at kb rfl Tryz.underlying9 rfl rfl (by omega) (by omega)) rfl rfl (Va (dx_sub (r := (atS s kb) - 48) rfl rfl rfl (wrapu8_id (by omega))) rfl rfl (Va (dx_conv (r := (atS s kb) - 48) rfl Tryz.underlying5 Tryz.underlying3 rfl (wrap64_id (by omega))) rfl rfl (Va (dx_add (r := (n * 10) + ((atS s kb) - 48)) rfl rfl rfl (wrap64_id (by omega))) rfl rfl (Va (dx_min rfl rfl rfl) rfl rfl (Pu rfl ?_)))))))
         refine Ni (hK46 (Rg (Pu rfl (Va (dx_add (r := (kb : Int) + 1) rfl rfl rfl (wrap64_id (by omega))) rfl rfl (Pu rfl (Ni ?_))))))
         exact hK38 (kb + 1) (if 9007199254740992 < (n * 10) + ((atS s kb) - 48) then 9007199254740992 else (n * 10) + ((atS s kb) - 48)) ⟨(by omega), (by omega), (by split <;> omega), (by split <;> omega), (numR_step hv (by omega) (by omega) (by omega) (by omega) (by omega) (by omega) rfl), hB, hL⟩ (by omega) (by repeat first | exact trivial | refine aR ?_ | refine aI (by omega) ?_)
        ·
         replace g45 := dF g45
         refine Pu rfl (Pu rfl (Va (dx_at kf rfl Tryz.underlying9 rfl rfl (by omega) (by omega)) rfl rfl (Va (dx_neq rfl rfl rfl) rfl rfl (Pu rfl (Pu rfl (Ni (hK41 ?_)))))))
         refine WC.cond rfl (fun c47 => ?_) (fun c47 => ?_)
         ·
          replace c47 := bnot_t c47
          replace c47 := dF c47
          refine WC.skip (hK40 (WC.block (Sq fun K48 hK48 => (Rg (Pu rfl (Va (dx_mul (r := n * 10) rfl rfl rfl (wrap64_id (by omega))) rfl rfl (Pu rfl ?_)))))))
          refine Pu rfl (Va (dx_at kb rfl Tryz.underlying9 rfl rfl (by omega) (by omega)) rfl rfl (Va (dx_sub (r := (atS s kb) - 48) rfl rfl rfl (wrapu8_id (by omega))) rfl rfl (Va (dx_conv (r := (atS s kb) - 48) rfl Tryz.underlying5 Tryz.underlying3 rfl (wrap64_id (by omega))) rfl rfl (Va (dx_add (r := (n * 10) + ((atS s kb) - 48)) rfl rfl rfl (wrap64_id (by omega))) rfl rfl (Va (dx_min rfl rfl rfl) rfl rfl (Pu rfl (Ni ?_)))))))
          refine hK48 (Rg (Pu rfl (Va (dx_add (r := (kb : Int) + 1) rfl rfl rfl (wrap64_id (by omega))) rfl rfl (Pu rfl (Ni ?_)))))
          exact hK38 (kb + 1) (if 9007199254740992 < (n * 10) + ((atS s kb) - 48) then 9007199254740992 else (n * 10) + ((atS s kb) - 48)) ⟨(by omega), (by omega), (by split <;> omega), (by split <;> omega), (numR_step hv (by omega) (by omega) (by omega) (by omega) (by omega) (by omega) rfl), hB, hL⟩ (by omega) (by repeat first | exact trivial | refine aR ?_ | refine aI (by omega) ?_)
         ·
          replace c47 := bnot_f c47
          replace c47 := dT c47
          refine WC.exit ?_
          exact hJb7 kb n _ _ ⟨hkb, hkk, hn0, hn1, hv, (by omega), hB, hL⟩ (by repeat first | exact trivial | refine aR ?_ | refine aI (by omega) ?_)
       ·
        replace g44 := dF g44
        refine Of rfl (Of rfl (Of rfl (Of rfl (Of rfl (Of rfl (Of rfl (Of rfl ?_)))))))
        refine Of rfl (Pu rfl (Ni (hK41 (WC.condF rfl ?_))))
        refine WC.exit ?_
        exact hJb7 kb n _ _ ⟨hkb, hkk, hn0, hn1, hv, (by omega), hB, hL⟩ (by repeat first | exact trivial | refine aR ?_ | refine aI (by omega) ?_)
      ·
       replace g43 := dF g43
       refine Of rfl (Of rfl (Of rfl (Of rfl (Pu rfl (Pu rfl (Of rfl (Of rfl ?_)))))))
       refine Of rfl (Of rfl (Of rfl (Of rfl (Of rfl (Of rfl (Of rfl (Pu rfl ?_)))))))
       refine Ni (hK41 (WC.condF rfl ?_))
       refine WC.exit ?_
       exact hJb7 kb n _ _ ⟨hkb, hkk, hn0, hn1, hv, (by omega), hB, hL⟩ (by repeat first | exact trivial | refine aR ?_ | refine aI (by omega) ?_)
     ·
      replace g42 := dF g42
      refine Of rfl (Of rfl (Of rfl (Of rfl (Pu rfl (Pu rfl (Of rfl (Of rfl ?_)))))))
      refine Of rfl (Of rfl (Pu rfl (Pu rfl (Of rfl (Of rfl (Of rfl (Of rfl ?_)))))))
      refine Of rfl (Of rfl (Of rfl (Of rfl (Of rfl (Pu rfl (Ni (hK41 ?_)))))))
      refine WC.condF rfl ?_
      refine WC.exit ?_
      exact hJb7 kb n _ _ ⟨hkb, hkk, hn0, hn1, hv, (by omega), hB, hL⟩ (by repeat first | exact trivial | refine aR ?_ | refine aI (by omega) ?_)
 refine Sq fun K49 hK49 => (Rg (Pu rfl (Ni (hK49 ?_))))
 refine WC.cond rfl (fun c50 => ?_) (fun c50 => ?_)
 ·
  replace c50 := dT c50
  refine Rg (Pu rfl (Va (dx_add (r := ((ka + 1 : Nat) : Int)) rfl rfl rfl (by rw [wrap64_id (by omega)]; omega)) rfl rfl (Pu rfl (Ni ?_))))
  exact hJ2 (ka + 1) (decide (atS s ka = 45)) _ ⟨rfl, (by first | (rw [if_pos (by omega)]; done) | (rw [if_neg (by omega)]; done))⟩ (by repeat first | exact trivial | refine aR ?_)
 ·
  replace c50 := dF c50
  refine WC.skip ?_
  exact hJ2 ka (decide (atS s ka = 45)) _ ⟨rfl, (by first | (rw [if_pos (by omega)]; done) | (rw [if_neg (by omega)]; done))⟩ (by repeat first | exact trivial | refine aR ?_)

theorem strOf_app (a b : List Int) : strOfNums a ++ strOfNums b = strOfNums (a ++ b) := by
 cases ha : strOfNums a
 cases hb : strOfNums b
 rename_i x y
 have e1 := strOfNums_data a
 have e2 := strOfNums_data b
 have e3 := strOfNums_data (a ++ b)
 rw [ha] at e1
 rw [hb] at e2
 rw [List.map_append, ← e1, ← e2] at e3
 cases hc : strOfNums (a ++ b)
 rename_i z
 rw [hc] at e3
 apply ByteArray.ext
 apply Array.toList_inj.1
 simpa using e3.symm
theorem ext_one {s : ByteArray} {k : Nat} (h : k < s.size) : s.extract k (k + 1) = strOfNums [atS s k] := by
 apply sb_inj
 rw [sb_strOf (bytes_one (atS_lo s k))]
 have hl : (sb (s.extract k (k + 1))).length = 1 := by rw [sb_length, ByteArray.size_extract]; omega
 have h0 := at0_sb (s.extract k (k + 1)) 0 (by rw [ByteArray.size_extract]; omega)
 have h1 : atS (s.extract k (k + 1)) 0 = atS s k := by have := at_extract s k (k + 1) 0 (by omega) (by omega); rwa [Nat.add_zero] at this
 obtain ⟨z, hz⟩ := List.length_eq_one_iff.1 hl
 rw [hz] at h0 ⊢
 congr 1
 rw [← h1]
 unfold atS
 have e : z = ((s.extract k (k + 1)).data[0]'(by show 0 < (s.extract k (k + 1)).size; rw [ByteArray.size_extract]; omega)).toNat := h0
 rw [Array.getElem?_eq_getElem (by show 0 < (s.extract k (k + 1)).size; rw [ByteArray.size_extract]; omega)]
 exact e
theorem begin_one {s : ByteArray} {k : Nat} {c : Int} {wd : ByteArray} (hc : 0 ≤ c ∧ c ≤ 255) (hw : wd = strOfNums [c]) : beginS s wd k = takeS s k c := by
  subst hw
  unfold beginS takeS
  rw [strOfNums_size, List.length_singleton]
  by_cases h : k < s.size
  · rw [decide_eq_true h, decide_eq_true (show k + 1 ≤ s.size by omega), Bool.true_and, Bool.true_and, ext_one h, decide_eq_decide]
    constructor
    · intro e
      have := congrArg sb e
      rw [sb_strOf (bytes_one (atS_lo s k)), sb_strOf (bytes_one hc)] at this
      exact List.cons.inj this |>.1
    · intro e; rw [e]
  · rw [decide_eq_false h, decide_eq_false (show ¬ k + 1 ≤ s.size by omega)]; rfl
abbrev EscAt (s : ByteArray) : Prop := ∀ (k : Nat) (w : World) (L : List Nat), LL L w → k ≤ s.size → CV Tryz.prog 64 [.string s, .int .i64 (k : Int)] w fun v W => (∃ (l : List Int) (k' : Nat), v = .tuple #[.string (strOfNums l), .int .i64 (k' : Int)] ∧ escB s k = some (l, k') ∧ Bytes l ∧ k + l.length ≤ k' ∧ k' ≤ s.size) ∨ (v = .tuple #[.string ⟨#[]⟩, .int .i64 (-1)] ∧ escB s k = none)
theorem ext_of_at {a b : ByteArray} (hs : a.size = b.size) (h : ∀ i, i < a.size → atS a i = atS b i) : a = b := by
 apply sb_inj
 refine eq_of_all (by rw [sb_length, sb_length, hs]) fun j hj => ?_
 rw [sb_length] at hj
 have hj2 : j < b.size := by omega
 rw [at0_sb a j hj, at0_sb b j hj2]
 have := h j hj
 unfold atS at this
 rw [Array.getElem?_eq_getElem (show j < a.data.size from hj), Array.getElem?_eq_getElem (show j < b.data.size from hj2)] at this
 exact this
theorem begin_word {s wd : ByteArray} {k : Nat} (hk : k ≤ s.size) : beginS s wd k = wordS s wd k := by
  rcases Nat.lt_or_ge s.size (k + wd.size) with h | h
  · rw [word_f (i := s.size - k) (by omega) (by unfold takeS; rw [decide_eq_false (by omega)]; rfl)]
    unfold beginS
    rw [decide_eq_false (by omega)]
    rfl
  · unfold beginS
    rw [decide_eq_true h, Bool.true_and]
    have hz : (s.extract k (k + wd.size)).size = wd.size := by rw [ByteArray.size_extract]; omega
    cases hw : wordS s wd k with
    | true =>
      refine decide_eq_true (ext_of_at hz fun i hi => ?_)
      rw [at_extract s k (k + wd.size) i (by omega) h]
      exact (take_t (List.all_eq_true.1 hw i (List.mem_range.2 (by omega)))).2
    | false =>
      refine decide_eq_false fun e => ?_
      have : wordS s wd k = true := word_t fun i hi => take_of (by omega) (by rw [← at_extract s k (k + wd.size) i (by omega) h, e])
      rw [hw] at this
      cases this
abbrev SpK := List (Nat × (World → World → Prop) × List Nat)
def relK (sp : SpK) (k : Nat) (W W' : World) : Prop := match sp.find? (fun e => e.1 == k) with
 | some e => e.2.1 W W'
 | none => Below W.heap.size W W'
def RelOk (w : World) (sd : List (Option Tmp × VS)) (dl : List (List Nat)) : SpK → Prop
 | [] => True
 | e :: l => ((e.2.2.all fun j => j == e.1 || ((dl[j]?).getD []).contains e.1) = true ∧ VS.monoR e.2.1 (e.2.2.foldl (fun l k => l.set k (none, .is undef)) sd) ∧ ∀ W W', Below w.heap.size w W → e.2.1 W W' → Below w.heap.size w W') ∧ RelOk w sd dl l
theorem RelOk.at {w : World} {sd : List (Option Tmp × VS)} {dl : List (List Nat)} : ∀ {sp : SpK}, RelOk w sd dl sp → ∀ e ∈ sp, (e.2.2.all fun j => j == e.1 || ((dl[j]?).getD []).contains e.1) = true ∧ VS.monoR e.2.1 (e.2.2.foldl (fun l k => l.set k (none, .is undef)) sd) ∧ ∀ W W', Below w.heap.size w W → e.2.1 W W' → Below w.heap.size w W'
 | _ :: _, h, e, he => by
  rcases List.mem_cons.1 he with rfl | he
  · exact h.1
  · exact RelOk.at h.2 e he
def DStepsK (P : Program) (ops : Array Oper) (N : Nat) (w0 : World) (sd : List (Option Tmp × VS)) (dl : List (List Nat)) (f : Fl) (sp : SpK) : Nat → List Oper → Prop
 | _, [] => True
 | k, o :: l => (∀ W, Below w0.heap.size w0 W → DStep P ops o N W sd (fun v W' => relK sp k W W' ∧ okAt sd k v W') ((dl[k]?).getD []) f) ∧ DStepsK P ops N w0 sd dl f sp (k + 1) l
section
variable {P : Program} {N : Nat} {sd : List (Option Tmp × VS)} {dl : List (List Nat)}
theorem DStepsK.cons {ops : Array Oper} {w0 : World} {f : Fl} {k : Nat} {sp : SpK} {o : Oper} {l : List Oper} (hk : sp.all (fun e => !(e.1 == k)) = true) (h : ∀ W, Below w0.heap.size w0 W → DStep P ops o N W sd (fun v W' => Below W.heap.size W W' ∧ okAt sd k v W') ((dl[k]?).getD []) f) (hl : DStepsK P ops N w0 sd dl f sp (k + 1) l) : DStepsK P ops N w0 sd dl f sp k (o :: l) := by
 have e : relK sp k = fun W W' => Below W.heap.size W W' := by
  funext W W'
  have : sp.find? (fun e => e.1 == k) = none := List.find?_eq_none.2 fun x hx => by
   have := List.all_eq_true.1 hk x hx
   simpa using this
  simp only [relK, this]
 exact ⟨by rw [e]; exact h, hl⟩
theorem DStepsK.hit {ops : Array Oper} {w0 : World} {f : Fl} {k : Nat} {sp : SpK} {rel : World → World → Prop} {ex : List Nat} {o : Oper} {l : List Oper} (hk : sp.find? (fun e => e.1 == k) = some (k, rel, ex)) (h : ∀ W, Below w0.heap.size w0 W → DStep P ops o N W sd (fun v W' => rel W W' ∧ okAt sd k v W') ((dl[k]?).getD []) f) (hl : DStepsK P ops N w0 sd dl f sp (k + 1) l) : DStepsK P ops N w0 sd dl f sp k (o :: l) := by
 have e : relK sp k = rel := by
  funext W W'
  simp only [relK, hk]
 exact ⟨by rw [e]; exact h, hl⟩
end
theorem NewS.toW' {s base : Nat} {rs : List (List Value)} {u : Value} {w : World} (h : NewS s base rs u w) : NewW s base rs u w := by
 rcases h with h | ⟨B, sp, h1, rfl, h3, h4⟩
 · exact .inl h
 · exact .inr ⟨B, h1, h3.own⟩
theorem NewW.toS {s base : Nat} {rs : List (List Value)} {u : Value} {w : World} (h : NewW s base rs u w) (hn : rs ≠ []) : NewS s base rs u w := by
 rcases h with h | ⟨B, h1, h2⟩
 · exact .inl h
 · exact NewS.of_own h2 h1 hn
theorem NewW.keep {s base n : Nat} {rs : List (List Value)} {u : Value} {w w' : World} (h : NewW s base rs u w) (hne : rs ≠ []) (hk : KeepR s base n w w') (hn : rs.length ≤ n) : NewW s base rs u w' := ((h.toS hne).keep hk hn).toW'
section
variable {P : Program} {ops : Array Oper} {o : Oper} {N : Nat} {f : Fl} {w : World}
end
abbrev RelL := Nat → World → World → Prop
def MonoL (m : Nat) (rel : RelL) (sd : List (Option Tmp × VS)) (dl : List (List Nat)) : Prop := ∀ i, i < m → ∀ j, j ≠ i → i ∉ (dl[j]?).getD [] → ∀ u W W', rel i W W' → okAt sd j u W → okAt sd j u W'
def DStepsL (P : Program) (ops : Array Oper) (N : Nat) (G : (Nat → Bool) → World → Prop) (rel : RelL) (sd : List (Option Tmp × VS)) (dl : List (List Nat)) (f : Fl) : Nat → List Oper → Prop
 | _, [] => True
 | k, o :: l => (∀ L W, L k = false → (∀ j, k ∈ (dl[j]?).getD [] → L j = false) → G L W → DStep P ops o N W sd (fun v W' => rel k W W' ∧ G (upd L k true) W' ∧ okAt sd k v W') ((dl[k]?).getD []) f) ∧ DStepsL P ops N G rel sd dl f (k + 1) l
section
variable {P : Program} {N : Nat} {sd : List (Option Tmp × VS)} {dl : List (List Nat)}
theorem WC.drawL {id : Nat} {f : Fl} {w : World} {Q : Exit → Act → World → Prop} (G : (Nat → Bool) → World → Prop) (m : Nat) (rel : RelL) {ops : List Oper} (sd : List (Option Tmp × VS)) (dl : List (List Nat)) (hm : P.follows .mixedOrders = true) (hb : ordB .any ops.toArray = true) (hbp : ordB .any (ops.take m).toArray = true) (ht : tailB .any ops.toArray (ops.take m).length = true) (hdl : (ops.take m).map (depsOf .any) = dl)
    (hds : (ops.take m).map (·.dst) = sd.map (·.1)) (hN : inN N sd = true) (hG0 : G (fun _ => false) w.drew) (hmono : MonoL (ops.take m).length rel sd dl) (hst : DStepsL P (ops.take m).toArray N G rel sd dl f 0 (ops.take m))
    (hend : ∀ W, G (fun j => decide (j < (ops.take m).length)) W → DEnd (fun f W => WL P ops.toArray Q N (ops.drop m) f W) W sd f) : WC P N (.region id ops.toArray true) Q f w := fun a ha => by
  obtain ⟨pre, hpre⟩ : ∃ pre, pre = ops.take m := ⟨_, rfl⟩
  obtain ⟨suf, hsuf⟩ : ∃ suf, suf = ops.drop m := ⟨_, rfl⟩
  have hops : pre ++ suf = ops := by rw [hpre, hsuf]; exact List.take_append_drop m ops
  rw [← hpre] at hbp ht hdl hds hst hmono hend
  rw [← hsuf] at hend
  clear hpre hsuf
  subst hops
  have hlen : dl.length = sd.length := by rw [← hdl, List.length_map, ← List.length_map (f := (·.dst)), hds, List.length_map]
  have hpl : pre.length = dl.length := by rw [← hdl, List.length_map]
  refine wp_region_any hm ?_
  have hrep : Array.replicate (pre ++ suf).toArray.size false = Array.replicate pre.toArray.size false ++ Array.replicate suf.length false := by
    simp [Array.replicate_append_replicate]
  rw [hrep]
  have hsz : (pre ++ suf).toArray.size = pre.toArray.size + suf.length := by simp
  rw [hsz]
  refine pre_tail (pre := pre.toArray) (suf := suf) hb hbp (by simp) (by simpa using ht) pre.toArray.size _ (by simp) (fun j hj => by simp [Array.getD_eq_getD_getElem?, Array.getElem?_replicate] at hj; split at hj <;> simp_all) a w.drew ?_
  have hda : ∀ j, depsAt .any pre.toArray j = (dl[j]?).getD [] := by
    intro j
    subst hdl
    simp only [depsAt, List.getElem?_map, List.getElem?_toArray]
  have hF0 : ∀ j, (Array.replicate pre.toArray.size false).getD j false = true → False := fun j hj => by simp [Array.getD_eq_getD_getElem?, Array.getElem?_replicate] at hj; split at hj <;> simp_all
  refine wpAny_factsD hbp a G (fun j g W => okAt sd j (g j) W) (fun i _ W W' => i < pre.length ∧ rel i W W') ?_ ?_ ?_ pre.toArray.size _ (fun _ => undef) a w.drew (by simp) (by
      have := List.countP_le_length (p := fun b => !b) (l := (Array.replicate pre.toArray.size false).toList)
      simpa using this) (fun j hj => (hF0 j hj).elim) (Agrees.start fun j hj => hF0 j hj) (by
      have e : (fun j => (Array.replicate pre.toArray.size false).getD j false) = fun _ => false := by
        funext j
        cases hj : (Array.replicate pre.toArray.size false).getD j false with
        | false => rfl
        | true => exact (hF0 j hj).elim
      rw [e]
      exact hG0) (fun j hj => (hF0 j hj).elim)
  · intro i g W W' j g' hB hne hnd h
    exact hmono i hB.1 j hne (by rw [← hda j]; exact hnd) _ W W' hB.2 h
  · intro i o hoi L g W hLi hdn hG hd
    have key : ∀ (l : List Oper) (k : Nat), DStepsL P pre.toArray N G rel sd dl f k l → ∀ j o, l[j]? = some o → ∀ L W, L (k + j) = false → (∀ q, (k + j) ∈ (dl[q]?).getD [] → L q = false) → G L W → DStep P pre.toArray o N W sd (fun v W' => rel (k + j) W W' ∧ G (upd L (k + j) true) W' ∧ okAt sd (k + j) v W') ((dl[k + j]?).getD []) f := by
      intro l
      induction l with
      | nil => intro k _ j o h; simp at h
      | cons x l ih =>
        intro k hs j o h
        cases j with
        | zero =>
          simp only [List.getElem?_cons_zero, Option.some.injEq] at h
          subst h
          exact hs.1
        | succ j =>
          have := ih (k + 1) hs.2 j o (by simpa using h)
          rw [show k + (j + 1) = k + 1 + j by omega]
          exact this
    have hk := key pre 0 hst i o (by simpa using hoi) L W (by rw [Nat.zero_add]; exact hLi) (by rw [Nat.zero_add]; intro q hq; exact hdn q (by rw [hda q]; exact hq)) hG
    rw [Nat.zero_add] at hk
    have hdo : depsOf .any o = (dl[i]?).getD [] := by rw [← hda i, depsAt_eq hoi]
    rw [hdo] at hd ⊢
    rw [putL_eq (ds := sd.map (·.1)) (by simpa using hds)]
    have hH : HypL (fun j g w => okAt sd j (g j) w) dl g W ((dl[i]?).getD []) := HypL.of _ fun j hj => by have := hd j hj; rwa [hda j] at this
    have hil : i < pre.length := by
      have := (Array.getElem?_eq_some_iff.1 hoi).1
      simpa using this
    refine (DStep.to hN _ f a hk ha hH).mono fun v W' h => ⟨⟨hil, h.1⟩, h.2.1, ?_⟩
    simp only [restr_self]
    rw [show upd g i v i = v by simp [upd]]
    exact h.2.2
  · intro L g W hL hG hd
    rw [putL_eq (ds := sd.map (·.1)) (by simpa using hds)]
    have hH : HypL (fun j g w => okAt sd j (g j) w) dl g W (List.range' 0 sd.length) := HypL.of _ fun j hj => by
      have hj' : j < pre.toArray.size := by
        simp [List.mem_range'] at hj
        simp
        omega
      have := hd j hj'
      rwa [hda j] at this
    have hLe : L = fun j => decide (j < pre.length) := by
      funext j
      rw [hL j]
      simp
    rw [hLe] at hG
    have hfin := DEnd.to (Q := fun a W => wpList P (pre ++ suf).toArray Q suf a W) hN (fun f h a ha => h a ha) sd 0 f a (by simp) (hend W hG) ha hH
    show wpOps P (pre ++ suf).toArray Q (List.range' pre.toArray.size suf.length) _ _
    rw [wpOps_eq_wpList suf pre.toArray.size (fun j => by simp [List.getElem?_append_right])]
    rw [List.range_eq_range', show pre.toArray.size = sd.length by simp; omega]
    exact hfin
end
theorem heap_alloc_size (w : World) (o : Obj) : (w.alloc o).heap.size = w.heap.size + 1 := by
 show (w.heap.push o).size = _
 rw [Array.size_push]
section
variable {P : Program} {ops : Array Oper} {o : Oper} {N : Nat} {f : Fl} {w : World}
theorem dx_apRoom {t s bytes cap B : Nat} {x y : Operand} {v2 : Value} {rs news : List (List Value)} {L : List Nat} (ho : o.op = .call { callee := .builtin .append, args := #[x, y], argTypes := #[t, t] }) (ht : apB P t s bytes = true) (hx : ev f x = some (.slice (some ⟨B, 0, none⟩) rs.length cap)) (hy : ev f y = some v2)
    (h : OwS s w (.slice (some ⟨B, 0, none⟩) rs.length cap) rs B) (h2 : RdF s L w v2 news) (hn : news ≠ []) (h1 : ∀ r ∈ news, ∀ u ∈ r, u.oneCell' = true) (hroom : rs.length + news.length ≤ cap) (hw : wantF ops o f = some true := by rfl) :
    DR P ops o N f w fun u W => u = .slice (some ⟨B, 0, none⟩) (rs.length + news.length) cap ∧ OwS s W u (rs ++ news) B ∧ Only B w W := fun a ha => by
  obtain ⟨e, i, Z, hu, hi, hz, rfl, rfl, hzs⟩ := of_apB ht
  have hx := ha.ev hx
  have hy := ha.ev hy
  obtain ⟨h0, hl, cap', sp, he, hc1, hc2, hc3, hb⟩ := h
  obtain ⟨_, hl2, a2, cap2, rfl, hd1, hd2, hd3, hd4⟩ := h2
  simp only [Value.slice.injEq, true_and] at he
  obtain rfl := he
  have hlr : ∀ r ∈ rs ++ news, r.length = i.size := fun r hr => by
    rcases List.mem_append.1 hr with h | h
    · exact hl r h
    · exact hl2 r h
  obtain ⟨X, o0, rfl, hX, hc⟩ := hd4 hn
  obtain ⟨tt, hb'⟩ := hb
  have hnews : ∀ j u, news.flatten[j]? = some u → w.cell? ((⟨X, o0, none⟩ : Addr).add j) = some u := fun j u hj => by rw [addr_at]; exact hc j u hj
  have hflat : news.flatten.length = news.length * i.size := flat_len hl2
  have h1' : ∀ u ∈ news.flatten, u.oneCell' = true := fun u hu => by
    obtain ⟨r, hr, hur⟩ := List.mem_flatten.1 hu
    exact h1 r hr u hur
  have hfl : rs.flatten.length = rs.length * i.size := flat_len hl
  have hle : news.length * i.size ≤ sp.length := by
    rw [hc3]
    exact Nat.mul_le_mul_right _ (by omega)
  have hr := run_ap_room (P := P) (w := w) (t := t) (ty := o.type) hu hi B rs.length cap _ hb' ⟨X, o0, none⟩ news.length cap2 news.flatten hflat hnews h1' hroom (by rw [List.size_toArray, List.length_append, hflat, hfl]; omega)
  exact Does.of_wp (wantF_of ha hw) fun K hK => by
    unfold Oper.wp execOp
    simp only [ho, resolve, invoke, builtin, Sem.run_bind, Sem.run_pure, Result.andThen_ok, List.map_toArray, List.map_cons, List.map_nil, hx, hy, hr]
    refine hK _ _ ⟨rfl, ⟨h0, hlr, cap, sp.drop news.flatten.length, by rw [List.length_append], by rw [List.length_append]; exact hroom, hc2, ?_, ⟨tt, ?_⟩⟩, only_setRow w B _⟩
    · rw [List.length_drop, List.length_append, hc3, hflat, ← Nat.sub_mul]
      congr 1
      omega
    · rw [setRow_heap w B _ _ tt _ hb']
      congr 3
      simp only [List.flatten_append, List.append_assoc]
      rw [← hfl, List.take_left, List.drop_append, List.drop_eq_nil_of_le (by omega), List.nil_append, Nat.add_sub_cancel_left]
theorem dx_litX {t len s : Nat} {parts : Array (Nat × Operand)} {e : TypeId} {i : TypeInfo} {Z : Value} {ps : List (Nat × Value)} {rs : List (List Value)} (ho : o.op = .buildSlice t len parts) (hu : P.underlying t = some (.slice e)) (hi : P.info? e = some i) (hz : i.zero = some Z) (hs : i.size = s) (h0 : 0 < s)
  (hp : (evl f (parts.toList.map (·.2))).map (fun vs => (parts.toList.map (·.1)).zip vs) = some ps) (hlen : len * s ≤ 16777216)
  (hf : Instr.fill (fun k => some (k * s, s)) (if len * s = 0 then #[] else (Array.range (len * s)).map (Z.cells[· % Z.cells.size]!)) ps = some rs.flatten.toArray) (hrs : ∀ r ∈ rs, r.length = s) (hl : rs.length = len) (hm : len ≤ maxLen) (hw : wantF ops o f = some true := by rfl) : DR P ops o N f w (fun u W => NewO s w rs u W ∧ W.heap.size = w.heap.size + 1) := fun a ha => by
 have key : (parts.map fun (i, x) => (i, a.eval x)).toList = ps := by
  cases hq : evl f (parts.toList.map (·.2)) with
  | none => rw [hq] at hp; cases hp
  | some vs =>
   rw [hq] at hp
   have h1 := ha.evl hq
   simp only [Option.map_some, Option.some.injEq] at hp
   rw [← hp, ← h1, Array.toList_map]
   clear hp h1 hq ho
   induction parts.toList with
   | nil => rfl
   | cons p l ih => simp only [List.map_cons, List.zip_cons_cons, List.cons.injEq, true_and]; exact ih
 subst hs
 have hrun := run_buildSlice (w := w) hu hi hz len (parts.map fun (i, x) => (i, a.eval x)) hlen (cs := rs.flatten.toArray) (by rw [key]; exact hf)
 exact Does.of_wp (wantF_of ha hw) fun K hK => by
  unfold Oper.wp execOp
  simp only [ho, Sem.run_bind, hrun, Sem.run_pure, Result.andThen_ok]
  obtain ⟨n1, n2, n3⟩ := newB_row w e rs.flatten
  exact hK _ _ ⟨⟨⟨h0, hrs, len, [], by rw [hl], by omega, hm, by simp [hl], by simpa using n1⟩, n2, n3⟩, heap_alloc_size _ _⟩
theorem dx_lit1X {t s bytes : Nat} {x : Operand} {V : Value} {r : List Value} (ho : o.op = .buildSlice t 1 #[(0, x)]) (ht : apB P t s bytes = true) (h0 : 0 < s) (hs : s ≤ 16777216) (hx : ev f x = some V) (hV : V.cells.toList = r) (hl : r.length = s) (hw : wantF ops o f = some true := by rfl) : DR P ops o N f w (fun u W => NewO s w [r] u W ∧ W.heap.size = w.heap.size + 1) := by
 obtain ⟨e, i, Z, hu, hi, hZ, rfl, rfl, hzs⟩ := of_apB ht
 have hVs : V.cells.size = i.size := by rw [← Array.length_toList, hV, hl]
 refine dx_litX (ps := [(0, V)]) (rs := [r]) ho hu hi hZ rfl h0 (by simp [evl, hx]) (by omega) ?_ (by simpa using hl) rfl (by unfold maxLen; omega) hw
 rw [if_neg (by omega), fill_one i.size _ (by simp) V hVs]
 simp [← hV]
end
theorem OwS.uniq {s B : Nat} {w : World} {u u' : Value} {rs rs' : List (List Value)} (h : OwS s w u rs B) (h' : OwS s w u' rs' B) (hl : rs.length = rs'.length) : u = u' := by
 obtain ⟨h0, hr, cap, sp, rfl, a2, a3, a4, ⟨t, a5⟩⟩ := h
 obtain ⟨_, hr', cap', sp', rfl, b2, b3, b4, ⟨t', b5⟩⟩ := h'
 rw [a5] at b5
 have e := congrArg (fun o : Option Obj => match o with | some (.cells cs _ _) => cs.size | _ => 0) b5
 simp only [List.size_toArray, List.length_append, flat_len hr, flat_len hr', a4, b4, hl] at e
 have hc : cap * s = cap' * s := by
  have e1 : rs'.length * s + (cap - rs'.length) * s = cap * s := by rw [← Nat.add_mul]; congr 1; omega
  have e2 : rs'.length * s + (cap' - rs'.length) * s = cap' * s := by rw [← Nat.add_mul]; congr 1; omega
  omega
 rw [hl, Nat.eq_of_mul_eq_mul_right h0 hc]
abbrev vC (iv : Value) : List Value := [.int .i64 5, .int .i64 0, .string ⟨#[]⟩, .slice none 0 0, iv]
abbrev zR : List Value := [.int .i64 0, .int .i64 0, .string ⟨#[]⟩, .slice none 0 0, .slice none 0 0]
def H2 (A : Bool) (W0 : World) (V D : Nat) (iv : Value) (rows : List (List Value)) (tr : List Value) (l4 l5 l7 l9 : Bool) (W : World) : Prop :=
 ChgV W0.heap.size V D W0 W ∧ (l9 = false → Blk W V (vC iv)) ∧ (l5 = false → if A = true then W.heap.size = W0.heap.size + (if l4 = true then 1 else 0) else OwS 5 W iv rows D) ∧
 (l7 = true → ∃ u, OwS 5 W u (rows ++ [tr]) D) ∧ (l9 = true → ∃ u r, Blk W V (vC u) ∧ OwS 5 W u (rows ++ [r]) D)
def rel2 (A : Bool) (V D : Nat) (rows : List (List Value)) (tr : List Value) : RelL := fun k W W' =>
 if k = 5 then (if A = true then Below W.heap.size W W' else Only D W W') else if k = 7 then Only D W W' ∧ ∀ u r, OwS 5 W u (rows ++ [r]) D → OwS 5 W' u (rows ++ [tr]) D else if k = 9 then Only V W W' else Below W.heap.size W W'
def p4 (W0 : World) (V D : Nat) (u : Value) (W : World) : Prop := ∃ B, B ≠ D ∧ B ≠ V ∧ W0.heap.size ≤ B ∧ OwS 5 W u [zR] B
def p5 (D : Nat) (rows : List (List Value)) (u : Value) (W : World) : Prop := ∃ r, OwS 5 W u (rows ++ [r]) D
abbrev sd2 (W0 : World) (V D n : Nat) (iv : Value) (rows : List (List Value)) (tr : List Value) : List (Option Tmp × VS) :=
  [(some 10, .is (.pointer (some ⟨V, 4, none⟩))), (some 11, .is iv), (some 12, .is (.agg tr.toArray)), (some 13, .is (.int .i64 (n : Int))), (some 14, .by (p4 W0 V D)), (some 15, .by (p5 D rows)),
   (some 16, .is (.pointer (some ⟨D, n * 5, none⟩))), (none, .by fun _ _ => True), (some 17, .is (.pointer (some ⟨V, 4, none⟩))), (none, .by fun _ _ => True)]
theorem p4_rel {A : Bool} {W0 W W' : World} {V D i : Nat} {rows : List (List Value)} {tr : List Value} {u : Value} (hr : rel2 A V D rows tr i W W') (h : p4 W0 V D u W) : p4 W0 V D u W' := by
  obtain ⟨B, h1, h2, h3, h4⟩ := h
  refine ⟨B, h1, h2, h3, ?_⟩
  unfold rel2 at hr
  split at hr
  · split at hr
    · exact h4.below hr
    · exact h4.other hr h1
  · split at hr
    · exact h4.other hr.1 h1
    · split at hr
      · exact h4.other hr h2
      · exact h4.below hr
theorem p5_rel {A : Bool} {W W' : World} {V D i : Nat} {rows : List (List Value)} {tr : List Value} {u : Value} (hi : i ≠ 5) (hVD : D ≠ V) (hr : rel2 A V D rows tr i W W') (h : p5 D rows u W) : p5 D rows u W' := by
  obtain ⟨r, h4⟩ := h
  unfold rel2 at hr
  rw [if_neg hi] at hr
  split at hr
  · exact ⟨tr, hr.2 u r h4⟩
  · split at hr
    · exact ⟨r, h4.other hr hVD⟩
    · exact ⟨r, h4.below hr⟩
theorem mono2 {A : Bool} {W0 : World} {V D n m : Nat} {iv : Value} {rows : List (List Value)} {tr : List Value} {dl : List (List Nat)} (hVD : D ≠ V) : MonoL m (rel2 A V D rows tr) (sd2 W0 V D n iv rows tr) dl := by
 intro i hi j hne hnd u W W' hr h
 match j, hne, h with
 | 0, _, h => exact h
 | 1, _, h => exact h
 | 2, _, h => exact h
 | 3, _, h => exact h
 | 4, _, h => exact p4_rel hr h
 | 5, hne, h => exact p5_rel (fun e => hne e.symm) hVD hr h
 | 6, _, h => exact h
 | 7, _, _ => exact trivial
 | 8, _, h => exact h
 | 9, _, _ => exact trivial
 | _ + 10, _, _ => exact trivial
theorem end2 {A : Bool} {W0 W : World} {V D : Nat} {iv : Value} {rows : List (List Value)} {tr : List Value} (h : H2 A W0 V D iv rows tr true true true true W) : ChgV W0.heap.size V D W0 W ∧ ∃ u, Blk W V (vC u) ∧ OwS 5 W u (rows ++ [tr]) D := by
 obtain ⟨h1, _, _, h4, h5⟩ := h
 obtain ⟨u, hu⟩ := h4 rfl
 obtain ⟨u', r, hv, hu'⟩ := h5 rfl
 obtain rfl := hu.uniq hu' (by simp)
 exact ⟨h1, u, hv, hu⟩
theorem begin2 {A : Bool} {W0 : World} {V D : Nat} {iv : Value} {rows : List (List Value)} {tr : List Value} (hv : Blk W0 V (vC iv)) (hA : A = false → OwS 5 W0 iv rows D) : H2 A W0 V D iv rows tr false false false false W0.drew := by
 have hb : Below W0.heap.size W0 W0.drew := below_draws (Below.refl _ _) 1
 refine ⟨.of_below hb, fun _ => hv.below hb, fun _ => ?_, fun h => (by cases h), fun h => (by cases h)⟩
 cases A with
 | true => rw [if_pos rfl]; exact World.size_drew _
 | false => rw [if_neg (by decide)]; exact (hA rfl).below hb
theorem lit2 {A : Bool} {W0 W W' : World} {V D : Nat} {iv : Value} {rows : List (List Value)} {tr : List Value} {l7 l9 : Bool} (h : H2 A W0 V D iv rows tr false false l7 l9 W) (hb : Below W.heap.size W W') (hs : W'.heap.size = W.heap.size + 1) : H2 A W0 V D iv rows tr true false l7 l9 W' := by
  obtain ⟨h1, h2, h3, h4, h5⟩ := h
  have h0 := h3 rfl
  refine ⟨h1.both (.of_below (hb.mono h1.size)), fun e => (h2 e).below hb, fun _ => ?_, fun e => ?_, fun e => ?_⟩
  · cases A with
    | true => rw [if_pos rfl] at h0 ⊢; rw [hs, h0]; rfl
    | false => rw [if_neg (by decide)] at h0 ⊢; exact h0.below hb
  · obtain ⟨u, hu⟩ := h4 e; exact ⟨u, hu.below hb⟩
  · obtain ⟨u, r, hv, hu⟩ := h5 e; exact ⟨u, r, hv.below hb, hu.below hb⟩
theorem app2 {A : Bool} {W0 W W' : World} {V D : Nat} {iv : Value} {rows : List (List Value)} {tr : List Value} {l4 : Bool} (hVD : D ≠ V) (h : H2 A W0 V D iv rows tr l4 false false false W) (hr : if A = true then Below W.heap.size W W' else Only D W W') : H2 A W0 V D iv rows tr l4 true false false W' := by
 obtain ⟨h1, h2, h3, h4, h5⟩ := h
 cases A with
 | true => rw [if_pos rfl] at hr; exact ⟨h1.both (.of_below (hr.mono h1.size)), fun e => (h2 e).below hr, fun h => (by cases h), fun h => (by cases h), fun h => (by cases h)⟩
 | false => rw [if_neg (by decide)] at hr; exact ⟨h1.both (.of_only hr (.inr (.inl rfl))), fun e => (h2 e).other hr hVD.symm, fun h => (by cases h), fun h => (by cases h), fun h => (by cases h)⟩
end Go.Proofs.YtghpdnfdbhjmpaaGreatDoor
