/- What the walk of the reference of sha needs. The reference of sha: sums by words of 32 bits. The reference of sha: sums by words of 64 bits. alive of layer 7. -/
import Derived.Lib.SmallJoins
import Derived.Test.YtohnicmacmkapaaDoorYC
namespace Go.Proofs.YtohnicmacmkapaaDoor
open Go.RowKit
set_option linter.unusedVariables false
set_option linter.unusedSimpArgs false
set_option maxRecDepth 8000

theorem cv_old {P : Program} {F : FuncId} {args : List Value} {u : Value} {w : World} (h : Calls P F args.toArray w fun e w' => e = .returned u ∧ w' = w) : CV P F args w fun v _ => v = u :=
  Calls.mono h fun e w' ⟨h1, h2⟩ => ⟨u, h1, rfl, by rw [h2]; exact Below.refl _ _⟩
def encU (z : List Int) : List Value := z.map (Value.int .u64)
theorem encU_len (z : List Int) : (encU z).length = z.length := by simp [encU]
theorem oc_U (z : List Int) : ∀ u ∈ encU z, u.oneCell' = true := fun u hu => by
  obtain ⟨n, _, rfl⟩ := List.mem_map.1 hu
  rfl
theorem cellU {z : List Int} {i : Nat} (h : i < z.length) : (encU z)[i]? = some (.int .u64 (at0 z i)) := by simp [encU, at0, h]
theorem setU {z : List Int} {k : Nat} {y : Int} (h : k < z.length) : (encU z).take k ++ ([.int .u64 y] ++ (encU z).drop (k + 1)) = encU (z.set k y) := by
  unfold encU
  rw [← List.map_take, ← List.map_drop, List.set_eq_take_append_cons_drop, if_pos h]
  simp
theorem enc8U {z : List Int} (h : z.length = 8) : encU z = [.int .u64 (at0 z 0), .int .u64 (at0 z 1), .int .u64 (at0 z 2), .int .u64 (at0 z 3), .int .u64 (at0 z 4), .int .u64 (at0 z 5), .int .u64 (at0 z 6), .int .u64 (at0 z 7)] := by
  match z, h with
  | [a, b, c, d, e, f, g, i], _ => rfl
abbrev e8 (x : Int) : List Value := [.int .u8 x]
theorem oc_e8 (xs : List Int) : ∀ r ∈ xs.map e8, ∀ u ∈ r, u.oneCell' = true := fun r hr u hu => by
  obtain ⟨x, _, rfl⟩ := List.mem_map.1 hr
  rw [List.mem_singleton.1 hu]
  rfl
/-- The reference's tables, off these blocks. -/
def TabL (L : List Nat) (w : World) : Prop := TabR w ∧ 1 ∉ L ∧ 2 ∉ L
theorem TabR.at {w w' : World} (h : TabR w) (h1 : w'.heap[1]? = w.heap[1]?) (h2 : w'.heap[2]? = w.heap[2]?) : TabR w' := by
  refine ⟨fun k hk => ?_, fun k hk => ?_⟩
  · have := h.be k hk
    unfold World.cell? at this ⊢
    rw [h1]
    exact this
  · have := h.ro k hk
    unfold World.cell? at this ⊢
    rw [h2]
    exact this
theorem TabL.below {L : List Nat} {w w' : World} (h : TabL L w) (hb : Below w.heap.size w w') : TabL L w' := ⟨h.1.below hb, h.2⟩
theorem TabL.more {L : List Nat} {w w' : World} (h : TabL L w) (hb : Below w.heap.size w w') {B : Nat} (hB : w.heap.size ≤ B) : TabL (B :: L) w' := by
  have := h.1.lt
  refine ⟨h.1.below hb, fun hx => ?_, fun hx => ?_⟩
  · rcases List.mem_cons.1 hx with e | e
    · omega
    · exact h.2.1 e
  · rcases List.mem_cons.1 hx with e | e
    · omega
    · exact h.2.2 e
theorem TabL.only {L : List Nat} {w w' : World} (h : TabL L w) {B : Nat} (ho : Only B w w') (hB : B ∈ L) : TabL L w' := ⟨h.1.at (ho.block _ (fun e => h.2.1 (e ▸ hB))) (ho.block _ (fun e => h.2.2 (e ▸ hB))), h.2⟩
theorem TabL.less {L L' : List Nat} {w : World} (h : TabL L w) (hl : ∀ x, x ∈ L' → x ∈ L) : TabL L' w := ⟨h.1, fun hx => h.2.1 (hl _ hx), fun hx => h.2.2 (hl _ hx)⟩
/-- What was there at a base is as it was (the list is of no weight). -/
def SinceB (w1 : World) (L : List Nat) (w : World) : Prop := Below w1.heap.size w1 w
theorem SinceB.below {w1 w w' : World} {L : List Nat} (h : SinceB w1 L w) (hb : Below w.heap.size w w') : SinceB w1 L w' := Below.trans h (hb.mono (Below.size h))
theorem SinceB.more {w1 w w' : World} {L : List Nat} (h : SinceB w1 L w) (hb : Below w.heap.size w w') {B : Nat} (hB : w.heap.size ≤ B) : SinceB w1 (B :: L) w' := h.below hb
theorem SinceB.less {w1 w : World} {L L' : List Nat} (h : SinceB w1 L w) (hl : ∀ x, x ∈ L' → x ∈ L) : SinceB w1 L' w := h
theorem NewS.toV {s base : Nat} {rs : List (List Value)} {u : Value} {w : World} (h : NewS s base rs u w) : NewW s base rs u w := by
  rcases h with h | ⟨B, sp, h1, rfl, h3, h4⟩
  · exact .inl h
  · exact .inr ⟨B, h1, h3.own⟩
section
variable {P : Program} {ops : Array Oper} {o : Oper} {N : Nat} {f : Fl} {w : World}
theorem dx_shr {t t' : TypeId} {x y : Operand} {K K2 : IntKind} {m n r : Int} (ho : o.op = .binOp .shr t x y t') (hx : ev f x = some (.int K m)) (hy : ev f y = some (.int K2 n)) (hn : 0 ≤ n) (hn2 : n ≤ K.bits) (hr : m / 2 ^ n.toNat = r) (hw : wantF ops o f = some true := by rfl) : DV P ops o N f w (.int K r) := fun a ha =>
  Does.shr (wantF_of ha hw) ho (ha.ev hx) (ha.ev hy) hn hn2 hr ⟨rfl, rfl⟩
theorem dx_shl {t t' : TypeId} {x y : Operand} {K K2 : IntKind} {m n r : Int} (ho : o.op = .binOp .shl t x y t') (hx : ev f x = some (.int K m)) (hy : ev f y = some (.int K2 n)) (hn : 0 ≤ n) (hn2 : n ≤ K.bits) (hr : K.wrap (m * 2 ^ n.toNat) = r) (hw : wantF ops o f = some true := by rfl) : DV P ops o N f w (.int K r) := fun a ha =>
  Does.shl (wantF_of ha hw) ho (ha.ev hx) (ha.ev hy) hn hn2 hr ⟨rfl, rfl⟩
theorem dx_unX {t : TypeId} {x : Operand} {m : Int} (ho : o.op = .unOp .xor t x) (hx : ev f x = some (.int .u64 m)) (hw : wantF ops o f = some true := by rfl) : DV P ops o N f w (.int .u64 (not64 m)) := fun a ha =>
  Does.unXor (wantF_of ha hw) ho (ha.ev hx) ⟨rfl, rfl⟩
end
theorem bld_3 (a b c : Int) : Tryd.prog.built 59 [(0, .int .i64 a), (1, .int .i64 b), (2, .int .i64 c)] = some [.int .i64 a, .int .i64 b, .int .i64 c].toArray := by kernel_rfl
theorem bld_43 (a b c d e f g h i j k l : Value) : Tryd.prog.built 60 [(0, .agg #[a, b, c]), (1, .agg #[d, e, f]), (2, .agg #[g, h, i]), (3, .agg #[j, k, l])] = some [a, b, c, d, e, f, g, h, i, j, k, l].toArray := by kernel_rfl
theorem bld_8 (a b c d e f g h : Int) : Tryd.prog.built 52 [(0, .int .u64 a), (1, .int .u64 b), (2, .int .u64 c), (3, .int .u64 d), (4, .int .u64 e), (5, .int .u64 f), (6, .int .u64 g), (7, .int .u64 h)] = some [.int .u64 a, .int .u64 b, .int .u64 c, .int .u64 d, .int .u64 e, .int .u64 f, .int .u64 g, .int .u64 h].toArray := by kernel_rfl
theorem cells_z80 : (Value.agg (Array.replicate 80 (Value.int .u64 0))).cells.toList = encU (List.replicate 80 0) := by simp [Value.cells, encU]
theorem cells_z8 : (Value.agg #[.int .u64 0, .int .u64 0, .int .u64 0, .int .u64 0, .int .u64 0, .int .u64 0, .int .u64 0, .int .u64 0]).cells.toList = encU (List.replicate 8 0) := rfl
theorem wrap_m (x : Int) : IntKind.u64.wrap x = x % 18446744073709551616 := wrap_u64_eq x
theorem wrap_8 (x : Int) : IntKind.u8.wrap x = x % 256 := IntKind.wrap_u8' x
theorem mod_in (x : Int) : In64 (x % 18446744073709551616) := mod_in64 x
theorem mix_set {T st : List Int} {i : Nat} (hT : T.length = 8) (hs : st.length = 8) (hi : i < 8) : (T.take i ++ st.drop i).set i (at0 T i) = T.take (i + 1) ++ st.drop (i + 1) := by
  have h1 : (T.take i).length = i := by rw [List.length_take]; omega
  rw [List.set_append, if_neg (by omega), h1, Nat.sub_self]
  rw [show st.drop i = st[i] :: st.drop (i + 1) from List.drop_eq_getElem_cons (by omega)]
  rw [List.set_cons_zero, take_snoc T i (by omega), List.append_assoc]
  rfl
theorem mixl_len {T st : List Int} {i : Nat} (hT : T.length = 8) (hs : st.length = 8) (hi : i ≤ 8) : (T.take i ++ st.drop i).length = 8 := by
  rw [List.length_append, List.length_take, List.length_drop, hT, hs]
  omega
theorem rep_len : (List.replicate 8 (0 : Int)).length = 8 := List.length_replicate ..
theorem cv_oldB {P : Program} {F : FuncId} {args : List Value} {u : Value} {w : World} (h : Calls P F args.toArray w fun e w' => e = .returned u ∧ Below w.heap.size w w') : CV P F args w fun v _ => v = u :=
  Calls.mono h fun e w' ⟨h1, h2⟩ => ⟨u, h1, rfl, h2⟩
theorem mix_at {T st : List Int} {i : Nat} (hT : T.length = 8) (hs : st.length = 8) (hi : i < 8) : at0 (T.take i ++ st.drop i) i = at0 st i := by
  have h1 : (T.take i).length = i := by rw [List.length_take]; omega
  rw [at0_app, if_neg (by omega), h1, Nat.sub_self]
  unfold at0
  rw [List.getElem?_drop, Nat.add_zero]
theorem at0_all {p : Int → Prop} {l : List Int} (h0 : p 0) (h : ∀ x ∈ l, p x) (j : Nat) : p (at0 l j) := by
  unfold at0
  cases e : l[j]? with
  | none => exact h0
  | some x => exact h x (List.mem_of_getElem? e)
theorem map_take_snoc (l : List Int) (t : Nat) (h : t < l.length) : (l.take (t + 1)).map e8 = (l.take t).map e8 ++ [e8 (at0 l t)] := by rw [take_snoc l t h, List.map_append]; rfl
theorem at0_some {l : List Int} {i : Nat} (h : i < l.length) : l[i]? = some (at0 l i) := by unfold at0; rw [List.getElem?_eq_getElem h]; rfl
theorem padded_eq32 (n : Nat) (h : n ≤ 1099511627776) : padded (n : Int) 32 = (padN32 n : Nat) := by
  unfold padded padN32
  rw [if_neg (by omega)]
  omega
theorem padN32_ge (n : Nat) : n + 9 ≤ padN32 n ∧ padN32 n ≤ n + 72 ∧ padN32 n % 64 = 0 := by unfold padN32; omega
theorem take32_len (st zs : List Int) : (take32 st zs).length = 8 := by simp [take32]
theorem take32_at (st zs : List Int) (j : Nat) (h : j < 8) : at0 (take32 st zs) j = (at0 st j + at0 (rounds32 (sched32 zs 48) (eight32 st) 64).list j) % 4294967296 := by simp [take32, at0, h]
theorem begin32_len : begin32.length = 8 := by simp [begin32]
theorem absorb32_len (zs : List Int) : ∀ k, (absorb32 begin32 zs k).length = 8
  | 0 => begin32_len
  | k + 1 => take32_len _ _
theorem begin32_in : ∀ x ∈ begin32, In32 x := by unfold In32; decide
theorem absorb32_in (zs : List Int) : ∀ k, ∀ x ∈ absorb32 begin32 zs k, In32 x
  | 0 => begin32_in
  | k + 1 => fun x hx => by
    obtain ⟨j, _, rfl⟩ := List.mem_map.1 hx
    exact mod_in32 _
theorem zero_in32' : In32 0 := by unfold In32; omega
theorem eight32_ok {st : List Int} (h : ∀ x ∈ st, In32 x) : (eight32 st).ok := ⟨at0_all zero_in32' h 0, at0_all zero_in32' h 1, at0_all zero_in32' h 2, at0_all zero_in32' h 3, at0_all zero_in32' h 4, at0_all zero_in32' h 5, at0_all zero_in32' h 6, at0_all zero_in32' h 7⟩
theorem full32_bytes {D : List Int} (h : Bytes D) : Bytes (full32 D) := fun x hx => (List.mem_append.1 hx).elim (h x) (tailZ_bytes _ _ x)
/-- The bytes so far, of those with what is padded: some zeros behind the one bit. -/
theorem full32_split (D : List Int) : full32 D = D ++ 128 :: List.replicate (padN32 D.length - D.length - 9) 0 ++ lensL D.length := by simp [full32, tailZ]
theorem lens_val32 (n k : Nat) (hk : k < 8) : (n : Int) * 8 / 2 ^ (56 - 8 * (k : Int)).toNat % 256 = at0 (lensL n) k := by
  rw [lensL_at _ _ hk, show (56 - 8 * (k : Int)).toNat = 8 * (7 - k) by omega]
theorem tell32_val (st : List Int) (i j : Nat) (hi : i < 8) (hj : j < 4) : at0 st i / 2 ^ (24 - 8 * (j : Int)).toNat % 256 = at0 (tell32 st) (i * 4 + j) := by
  rw [tell32_at _ _ (by omega), show (i * 4 + j) / 4 = i by omega, show (24 - 8 * (j : Int)).toNat = 8 * (4 - 1 - (i * 4 + j) % 4) by omega]
theorem tell32_len (st : List Int) : (tell32 st).length = 32 := by simp [tell32]
theorem padded_eq64 (n : Nat) (h : n ≤ 1099511627776) : padded (n : Int) 64 = (padN64 n : Nat) := by
  unfold padded padN64
  rw [if_neg (by omega)]
  omega
theorem padN64_ge (n : Nat) : n + 9 ≤ padN64 n ∧ padN64 n ≤ n + 144 ∧ padN64 n % 128 = 0 := by unfold padN64; omega
theorem take64_len (st zs : List Int) : (take64 st zs).length = 8 := by simp [take64]
theorem take64_at (st zs : List Int) (j : Nat) (h : j < 8) : at0 (take64 st zs) j = (at0 st j + at0 (rounds64 (sched64 zs 64) (eight64 st) 80).list j) % 18446744073709551616 := by simp [take64, at0, h]
theorem begin64_len : begin64.length = 8 := by simp [begin64]
theorem absorb64_len (zs : List Int) : ∀ k, (absorb64 begin64 zs k).length = 8
  | 0 => begin64_len
  | k + 1 => take64_len _ _
theorem begin64_in : ∀ x ∈ begin64, In64 x := by unfold In64; decide
theorem absorb64_in (zs : List Int) : ∀ k, ∀ x ∈ absorb64 begin64 zs k, In64 x
  | 0 => begin64_in
  | k + 1 => fun x hx => by
    obtain ⟨j, _, rfl⟩ := List.mem_map.1 hx
    exact mod_in64 _
theorem zero_in64' : In64 0 := by unfold In64; omega
theorem eight64_ok {st : List Int} (h : ∀ x ∈ st, In64 x) : (eight64 st).ok := ⟨at0_all zero_in64' h 0, at0_all zero_in64' h 1, at0_all zero_in64' h 2, at0_all zero_in64' h 3, at0_all zero_in64' h 4, at0_all zero_in64' h 5, at0_all zero_in64' h 6, at0_all zero_in64' h 7⟩
theorem full64_bytes {D : List Int} (h : Bytes D) : Bytes (full64 D) := fun x hx => (List.mem_append.1 hx).elim (h x) (tailZ_bytes _ _ x)
/-- The bytes so far, of those with what is padded: some zeros behind the one bit. -/
theorem full64_split (D : List Int) : full64 D = D ++ 128 :: List.replicate (padN64 D.length - D.length - 9) 0 ++ lensL D.length := by simp [full64, tailZ]
theorem lens_val64 (n k : Nat) (hk : k < 8) : (n : Int) * 8 / 2 ^ (56 - 8 * (k : Int)).toNat % 256 = at0 (lensL n) k := by
  rw [lensL_at _ _ hk, show (56 - 8 * (k : Int)).toNat = 8 * (7 - k) by omega]
theorem tell64_val (st : List Int) (i j : Nat) (hi : i < 8) (hj : j < 8) : at0 st i / 2 ^ (56 - 8 * (j : Int)).toNat % 256 = at0 (tell64 st) (i * 8 + j) := by
  rw [tell64_at _ _ (by omega), show (i * 8 + j) / 8 = i by omega, show (56 - 8 * (j : Int)).toNat = 8 * (8 - 1 - (i * 8 + j) % 8) by omega]
theorem tell64_len (st : List Int) : (tell64 st).length = 64 := by simp [tell64]
theorem next32_eq (m : List Int) (i : Nat) (a b c d : Int) (ha : a = at0 m (i - 16)) (hb : b = lowA32 (at0 m (i - 15))) (hc : c = at0 m (i - 7)) (hd : d = lowB32 (at0 m (i - 2))) : (((a + b) % 18446744073709551616 + c) % 18446744073709551616 + d) % 18446744073709551616 % 4294967296 = next32 m i := by
  subst ha hb hc hd
  unfold next32
  omega
theorem next64_eq (m : List Int) (i : Nat) (a b c d : Int) (ha : a = at0 m (i - 16)) (hb : b = lowA64 (at0 m (i - 15))) (hc : c = at0 m (i - 7)) (hd : d = lowB64 (at0 m (i - 2))) : (((a + b) % 18446744073709551616 + c) % 18446744073709551616 + d) % 18446744073709551616 = next64 m i := by
  subst ha hb hc hd
  unfold next64
  omega
theorem t32_eq (m : List Int) (i : Nat) (v : Eight32) (h : v.ok) : ((((v.h + bigB32 v.e) % 18446744073709551616 + bits BinOp.xor .u64 (bits BinOp.and .u64 v.e v.f) (bits BinOp.and .u64 (not64 v.e) v.g)) % 18446744073709551616 + at0 cubesL i / 4294967296) % 18446744073709551616 + at0 m i) % 18446744073709551616 % 4294967296 = tt32 m i v := by
  obtain ⟨_, _, _, _, he, hf, hg, _⟩ := h
  rw [and_32 he hf, notand_32 he hg, xor_32 (bits_in32 _ _ _) (bits_in32 _ _ _)]
  unfold tt32
  omega
theorem t64_eq (m : List Int) (i : Nat) (v : Eight64) (h : v.ok) : ((((v.h + bigB64 v.e) % 18446744073709551616 + bits BinOp.xor .u64 (bits BinOp.and .u64 v.e v.f) (bits BinOp.and .u64 (not64 v.e) v.g)) % 18446744073709551616 + at0 cubesL i) % 18446744073709551616 + at0 m i) % 18446744073709551616 = tt64 m i v := by
  unfold tt64
  omega
theorem u32_eq (v : Eight32) (h : v.ok) : (bigA32 v.a + bits BinOp.xor .u64 (bits BinOp.xor .u64 (bits BinOp.and .u64 v.a v.b) (bits BinOp.and .u64 v.a v.c)) (bits BinOp.and .u64 v.b v.c)) % 18446744073709551616 % 4294967296 = uu32 v := by
  obtain ⟨ha, hb, hc, _⟩ := h
  rw [and_32 ha hb, and_32 ha hc, and_32 hb hc, xor_32 (bits_in32 _ _ _) (bits_in32 _ _ _), xor_32 (bits_in32 _ _ _) (bits_in32 _ _ _)]
  unfold uu32
  omega
theorem u64_eq (v : Eight64) (h : v.ok) : (bigA64 v.a + bits BinOp.xor .u64 (bits BinOp.xor .u64 (bits BinOp.and .u64 v.a v.b) (bits BinOp.and .u64 v.a v.c)) (bits BinOp.and .u64 v.b v.c)) % 18446744073709551616 = uu64 v := rfl
theorem cut_add32 (x y : Int) : (x + y) % 18446744073709551616 % 4294967296 = (x + y) % 4294967296 := by omega
theorem cut_add64 (x y : Int) : (x + y) % 18446744073709551616 = (x + y) % 18446744073709551616 := rfl
end Go.Proofs.YtohnicmacmkapaaDoor
namespace Go.Proofs.YtohnicmacmkapaaDoor
open Go.RowKit
set_option linter.unusedVariables false
set_option linter.unusedSimpArgs false
set_option maxRecDepth 8000

set_option maxHeartbeats 4000000 in
theorem refSum32_v (D : List Int) (sv : Value) (w : World) (L : List Nat) (hL : LL L w) (h1 : RdF 1 L w sv (D.map e8)) (hT : TabL L w)  (hDm : D.length ≤ 10000) (hDb : Bytes D) : CV Tryd.prog 26 [sv, .int .i64 32] w fun v W => RdF 1 L W v ((sum32 D).map e8) := by
  refine cv_enter (N := 280) (f := [(0, sv), (1, .int .i64 32)]) Tryd.func26 rfl rfl rfl rfl fun Q hQ hE => ?_
  have hB := Below.refl w.heap.size w
  have hL0 := hL
  have h1m : D.length ≤ maxLen := by have := h1.len; rwa [List.length_map] at this
  unfold maxLen at h1m
  refine WC.seq fun K1 hK1 => ?_
  refine WC.region ?_
  refine WL.val (dx_assign rfl rfl) rfl rfl ?_
  refine WL.nil ?_
  refine hK1 ?_
  refine WC.seq fun K2 hK2 => ?_
  refine WC.region ?_
  refine WL.val (dx_build rfl rfl (bld_3 _ _ _)) rfl rfl ?_
  refine WL.val (dx_build rfl rfl (bld_3 _ _ _)) rfl rfl ?_
  refine WL.val (dx_build rfl rfl (bld_3 _ _ _)) rfl rfl ?_
  refine WL.val (dx_build rfl rfl (bld_3 _ _ _)) rfl rfl ?_
  refine WL.val (dx_build rfl rfl (bld_43 _ _ _ _ _ _ _ _ _ _ _ _)) rfl rfl ?_
  refine WL.get (dx_alloc rfl ty_zero_60 rfl) rfl rfl ?_
  rintro _ W3 ⟨rfl, k4, b5, z6⟩
  have l7 := hB.size
  replace h1 := h1.more b5 (Nat.le_refl _)
  replace hT := hT.more b5 (Nat.le_refl _)
  replace hB := below_then hB b5
  replace hL := LL.more hL z6
  refine WL.do (dx_store (cs' := [.int .i64 2, .int .i64 13, .int .i64 22, .int .i64 6, .int .i64 11, .int .i64 25, .int .i64 7, .int .i64 18, .int .i64 3, .int .i64 17, .int .i64 19, .int .i64 10]) (vs := [.int .i64 2, .int .i64 13, .int .i64 22, .int .i64 6, .int .i64 11, .int .i64 25, .int .i64 7, .int .i64 18, .int .i64 3, .int .i64 17, .int .i64 19, .int .i64 10]) rfl ty_size_60_12 rfl rfl rfl (oc_cons rfl (oc_cons rfl (oc_cons rfl (oc_cons rfl (oc_cons rfl (oc_cons rfl (oc_cons rfl (oc_cons rfl (oc_cons rfl (oc_cons rfl (oc_cons rfl (oc_cons rfl oc_nil)))))))))))) k4 rfl (Nat.le_of_ble_eq_true rfl) rfl) rfl ?_
  rintro _ W8 ⟨k10, o9⟩
  clear k4
  replace h1 := h1.only o9 (.head _)
  replace hT := hT.only o9 (.head _)
  replace hB := o9.below hB l7
  replace hL := LL.only hL o9
  refine WL.nil ?_
  refine hK2 ?_
  refine WC.seq fun K11 hK11 => ?_
  refine WC.region ?_
  refine WL.val (dx_assign rfl rfl) rfl rfl ?_
  refine WL.nil ?_
  refine hK11 ?_
  refine WC.seq fun K12 hK12 => ?_
  refine WC.seq fun K13 hK13 => ?_
  refine WC.region ?_
  refine WL.val (dx_move rfl rfl) rfl rfl ?_
  refine WL.val (dx_eql rfl rfl rfl) rfl rfl ?_
  refine WL.nil ?_
  refine hK13 ?_
  refine WC.condF rfl ?_
  refine WC.skip ?_
  refine hK12 ?_
  refine WC.seq fun K14 hK14 => ?_
  have hDl : D.length ≤ 10000 := hDm
  have zh1 := h1
  have zhT := hT
  have zk10 := k10
  have zhB := hB
  have zhL := hL
  have hC : SinceB W8 (w.heap.size :: L) W8 := Below.refl _ _
  refine WC.region ?_
  refine WL.get (dx_lit0E rfl ty_ap_25 (by decide)) rfl rfl ?_
  rintro u15 W16 ⟨b17, hE⟩
  replace h1 := h1.below b17
  replace hT := hT.below b17
  replace hC := hC.below b17
  replace k10 := k10.below b17
  replace hB := below_then hB b17
  replace hL := LL.below hL b17
  refine WL.val (dx_move rfl rfl) rfl rfl ?_
  refine WL.get (dx_apN (base := W8.heap.size) rfl ty_ap_25 rfl rfl hE h1 (oc_e8 D) (by rw [List.length_map]; unfold maxLen; omega) (by rw [List.length_map]; omega) (Below.size hC)) rfl rfl ?_
  rintro u18 W19 ⟨b20, hN⟩
  replace h1 := h1.below b20
  replace hT := hT.below b20
  replace hC := hC.below b20
  replace k10 := k10.below b20
  replace hB := below_then hB b20
  replace hL := LL.below hL b20
  have h5 : NewW 1 W8.heap.size (D.map e8) u18 W19 := hN.toV
  refine WL.get (dx_lit1 (r := e8 128) rfl ty_ap_25 (by decide) (by decide) rfl rfl rfl) rfl rfl ?_
  rintro x21 W22 ⟨k24, b23, z25⟩
  replace h1 := h1.below b23
  replace hT := hT.below b23
  replace hC := hC.below b23
  replace h5 := h5.below b23
  replace k10 := k10.below b23
  replace hB := below_then hB b23
  replace hL := LL.below hL b23
  have hx := k24.rd (L := []) (by simp)
  refine WL.get (dx_apW (base := W8.heap.size) rfl ty_ap_25 rfl rfl h5 hx (oc_e8 [128]) (by simp [maxLen]; omega) (by simp; omega) (Below.size hC)) rfl rfl ?_
  rintro x26 W27 ⟨h5, b28⟩
  replace h5 : NewW 1 W8.heap.size ((D ++ [128]).map e8) x26 W27 := by rw [List.map_append]; exact h5
  replace hC : SinceB W8 (w.heap.size :: L) W27 := Below.trans hC b28
  replace h1 := zh1.below hC
  replace hT := zhT.below hC
  replace k10 := zk10.below hC
  replace hB := below_then zhB hC
  replace hL := LL.below zhL hC
  refine WL.val (dx_assign rfl rfl) rfl rfl ?_
  refine WL.nil ?_
  refine hK14 ?_
  refine WC.seq fun K29 hK29 => ?_
  refine WC.block ?_
  have hpg := padN32_ge D.length
  refine WC.loop2 (fun (j : Nat) (ov : Value) => [(0, sv), (1, .int .i64 32), (5, .pointer (some ⟨w.heap.size, 0, none⟩)), (6, .int .i64 64), (7, ov)]) (fun (j : Nat) (ov : Value) W => j ≤ padN32 D.length - D.length - 9 ∧ Below w.heap.size w W ∧ LL (w.heap.size :: L) W ∧ RdF 1 (w.heap.size :: L) W sv (D.map e8) ∧ TabL (w.heap.size :: L) W ∧ SinceB W8 (w.heap.size :: L) W ∧ NewW 1 W8.heap.size ((D ++ 128 :: List.replicate j 0).map e8) ov W ∧ Blk W w.heap.size [.int .i64 2, .int .i64 13, .int .i64 22, .int .i64 6, .int .i64 11, .int .i64 25, .int .i64 7, .int .i64 18, .int .i64 3, .int .i64 17, .int .i64 19, .int .i64 10]) (fun (j : Nat) (ov : Value) => padN32 D.length - j) 0 x26 (by repeat first | exact trivial | exact And.intro rfl trivial | refine And.intro rfl ?_ | refine And.intro (congrArg (fun z : Int => some (Value.int .i64 z)) (by omega)) ?_) ⟨Nat.zero_le _, hB, hL, h1, hT, hC, h5, k10⟩ ?_
  clear h1 hT hC h5 k10 hB hL
  rintro K30 j ov W31 ⟨hj, hB, hL, h1, hT, hC, h5, k10⟩ hK30
  have hol : (D ++ 128 :: List.replicate j 0).length = D.length + 1 + j := by simp; omega
  refine WC.seq fun K32 hK32 => ?_
  refine WC.seq fun K33 hK33 => ?_
  refine WC.region ?_
  refine WL.val (dx_move rfl rfl) rfl rfl ?_
  refine WL.val (dx_lenF rfl ty_slice_25 rfl (h5.rd (L := []) (by simp))) rfl rfl ?_
  have hln : ((D ++ 128 :: List.replicate j 0).map e8).length = (D ++ 128 :: List.replicate j 0).length := List.length_map _
  refine WL.val (dx_move rfl rfl) rfl rfl ?_
  refine WL.val (dx_lenF rfl ty_slice_25 rfl h1) rfl rfl ?_
  refine WL.val (dx_move rfl rfl) rfl rfl ?_
  refine WL.get (dx_cv rfl Tryd.func15 rfl rfl rfl ((show CV _ _ [.int .i64 ((D.map e8).length : Int), .int .i64 32] _ (fun v _ => v = .int .i64 ((padN32 D.length : Nat) : Int)) from by rw [List.length_map]; have := cv_old (ref_padded_v (D.length : Int) 32 W31 (by omega) (by decide)); rw [padded_eq32 _ (by omega)] at this; exact this))) rfl rfl ?_
  rintro _ W35 ⟨rfl, b34⟩
  replace h1 := h1.below b34
  replace hT := hT.below b34
  replace hC := hC.below b34
  replace h5 := h5.below b34
  replace k10 := k10.below b34
  replace hB := below_then hB b34
  replace hL := LL.below hL b34
  refine WL.val (dx_sub (r := ((padN32 D.length : Nat) : Int) - 8) rfl rfl rfl (wrap64_id (by omega))) rfl rfl ?_
  refine WL.val (dx_lss rfl rfl rfl) rfl rfl ?_
  refine WL.nil ?_
  refine hK33 ?_
  refine WC.cond rfl (fun c36 => ?_) (fun c36 => ?_)
  ·
    replace c36 := of_decide_eq_true c36
    refine WC.skip ?_
    refine hK32 ?_
    refine WC.block ?_
    refine WC.region ?_
    refine WL.val (dx_move rfl rfl) rfl rfl ?_
    refine WL.get (dx_lit1 (r := e8 0) rfl ty_ap_25 (by decide) (by decide) rfl rfl rfl) rfl rfl ?_
    rintro x37 W38 ⟨k40, b39, z41⟩
    replace h1 := h1.below b39
    replace hT := hT.below b39
    replace hC := hC.below b39
    replace h5 := h5.below b39
    replace k10 := k10.below b39
    replace hB := below_then hB b39
    replace hL := LL.below hL b39
    have hx := k40.rd (L := []) (by simp)
    refine WL.get (dx_apW (base := W8.heap.size) rfl ty_ap_25 rfl rfl h5 hx (oc_e8 [0]) (by simp [maxLen]; omega) (by simp; omega) (Below.size hC)) rfl rfl ?_
    rintro x42 W43 ⟨h5, b44⟩
    replace h5 : NewW 1 W8.heap.size (((D ++ 128 :: List.replicate j 0) ++ [0]).map e8) x42 W43 := by rw [List.map_append]; exact h5
    replace hC : SinceB W8 (w.heap.size :: L) W43 := Below.trans hC b44
    replace h1 := zh1.below hC
    replace hT := zhT.below hC
    replace k10 := zk10.below hC
    replace hB := below_then zhB hC
    replace hL := LL.below zhL hC
    refine WL.val (dx_assign rfl rfl) rfl rfl ?_
    refine WL.nil ?_
    rw [show ((D ++ 128 :: List.replicate j 0) ++ [0]) = D ++ 128 :: List.replicate (j + 1) 0 from by rw [List.replicate_succ']; simp] at h5
    exact hK30 (j + 1) x42 ⟨(by simp only [List.length_map] at *; omega), hB, hL, h1, hT, hC, h5, k10⟩ (by simp only [List.length_map] at *; omega) (by repeat first | exact trivial | exact And.intro rfl trivial | refine And.intro rfl ?_ | refine And.intro (congrArg (fun z : Int => some (Value.int .i64 z)) (by omega)) ?_)
  ·
    replace c36 := of_decide_eq_false c36
    refine WC.exit ?_
    refine hK29 ?_
    refine WC.seq fun K45 hK45 => ?_
    have hje : j = padN32 D.length - D.length - 9 := (by simp only [List.length_map] at *; omega)
    refine WC.region ?_
    refine WL.val (dx_move rfl rfl) rfl rfl ?_
    refine WL.val (dx_lenF rfl ty_slice_25 rfl h1) rfl rfl ?_
    refine WL.val (dx_conv (r := (D.length : Int)) rfl Tryd.underlying3 Tryd.underlying49 rfl (by rw [wrap_m, List.length_map]; omega)) rfl rfl ?_
    refine WL.val (dx_mul (r := (D.length : Int) * 8) rfl rfl rfl (by rw [wrap_m]; omega)) rfl rfl ?_
    refine WL.val (dx_assign rfl rfl) rfl rfl ?_
    refine WL.nil ?_
    refine hK45 ?_
    refine WC.seq fun K46 hK46 => ?_
    refine WC.seq fun K47 hK47 => ?_
    refine WC.region ?_
    refine WL.val (dx_assign rfl rfl) rfl rfl ?_
    refine WL.nil ?_
    refine hK47 ?_
    refine WC.block ?_
    replace h5 : NewW 1 W8.heap.size (((D ++ 128 :: List.replicate j 0) ++ (lensL D.length).take 0).map e8) ov W35 := by rw [List.take_zero, List.append_nil]; exact h5
    refine WC.loop2 (fun (k : Nat) (ov2 : Value) => [(1, .int .i64 32), (5, .pointer (some ⟨w.heap.size, 0, none⟩)), (6, .int .i64 64), (8, .int .u64 ((D.length : Int) * 8)), (7, ov2), (9, .int .i64 (56 - 8 * (k : Int)))]) (fun (k : Nat) (ov2 : Value) W => k ≤ 8 ∧ Below w.heap.size w W ∧ LL (w.heap.size :: L) W ∧ RdF 1 (w.heap.size :: L) W sv (D.map e8) ∧ TabL (w.heap.size :: L) W ∧ SinceB W8 (w.heap.size :: L) W ∧ NewW 1 W8.heap.size (((D ++ 128 :: List.replicate j 0) ++ (lensL D.length).take k).map e8) ov2 W ∧ Blk W w.heap.size [.int .i64 2, .int .i64 13, .int .i64 22, .int .i64 6, .int .i64 11, .int .i64 25, .int .i64 7, .int .i64 18, .int .i64 3, .int .i64 17, .int .i64 19, .int .i64 10]) (fun (k : Nat) (ov2 : Value) => 8 - k) 0 ov (by repeat first | exact trivial | exact And.intro rfl trivial | refine And.intro rfl ?_ | refine And.intro (congrArg (fun z : Int => some (Value.int .i64 z)) (by omega)) ?_) ⟨(by decide), hB, hL, h1, hT, hC, h5, k10⟩ ?_
    clear h1 hT hC h5 k10 hB hL
    rintro K48 k ov2 W49 ⟨hk, hB, hL, h1, hT, hC, h5, k10⟩ hK48
    have hol2 : ((D ++ 128 :: List.replicate j 0) ++ (lensL D.length).take k).length = D.length + 1 + j + k := by simp [lensL_len]; omega
    refine WC.seq fun K50 hK50 => ?_
    refine WC.seq fun K51 hK51 => ?_
    refine WC.region ?_
    refine WL.val (dx_move rfl rfl) rfl rfl ?_
    refine WL.val (dx_geq rfl rfl rfl) rfl rfl ?_
    refine WL.nil ?_
    refine hK51 ?_
    refine WC.cond rfl (fun c52 => ?_) (fun c52 => ?_)
    ·
      replace c52 := of_decide_eq_true c52
      refine WC.skip ?_
      refine hK50 ?_
      refine WC.seq fun K53 hK53 => ?_
      refine WC.block ?_
      refine WC.region ?_
      refine WL.val (dx_move rfl rfl) rfl rfl ?_
      refine WL.val (dx_move rfl rfl) rfl rfl ?_
      refine WL.val (dx_move rfl rfl) rfl rfl ?_
      refine WL.val (dx_conv (r := (56 - 8 * (k : Int))) rfl Tryd.underlying3 Tryd.underlying42 rfl (by rw [wrap_m]; omega)) rfl rfl ?_
      refine WL.val (dx_shr rfl rfl rfl (by omega) (by show _ ≤ (64 : Int); omega) rfl) rfl rfl ?_
      refine WL.val (dx_conv (r := at0 (lensL D.length) k) rfl Tryd.underlying49 Tryd.underlying5 rfl ((wrap_8 _).trans (lens_val32 _ _ (by omega)))) rfl rfl ?_
      refine WL.get (dx_lit1 (r := e8 (at0 (lensL D.length) k)) rfl ty_ap_25 (by decide) (by decide) rfl rfl rfl) rfl rfl ?_
      rintro x54 W55 ⟨k57, b56, z58⟩
      replace h1 := h1.below b56
      replace hT := hT.below b56
      replace hC := hC.below b56
      replace h5 := h5.below b56
      replace k10 := k10.below b56
      replace hB := below_then hB b56
      replace hL := LL.below hL b56
      have hx := k57.rd (L := []) (by simp)
      refine WL.get (dx_apW (base := W8.heap.size) rfl ty_ap_25 rfl rfl h5 hx (oc_e8 [at0 (lensL D.length) k]) (by simp [maxLen]; omega) (by simp; omega) (Below.size hC)) rfl rfl ?_
      rintro x59 W60 ⟨h5, b61⟩
      replace h5 : NewW 1 W8.heap.size ((((D ++ 128 :: List.replicate j 0) ++ (lensL D.length).take k) ++ [at0 (lensL D.length) k]).map e8) x59 W60 := by rw [List.map_append]; exact h5
      replace hC : SinceB W8 (w.heap.size :: L) W60 := Below.trans hC b61
      replace h1 := zh1.below hC
      replace hT := zhT.below hC
      replace k10 := zk10.below hC
      replace hB := below_then zhB hC
      replace hL := LL.below zhL hC
      refine WL.val (dx_assign rfl rfl) rfl rfl ?_
      refine WL.nil ?_
      refine hK53 ?_
      refine WC.region ?_
      refine WL.val (dx_move rfl rfl) rfl rfl ?_
      refine WL.val (dx_sub (r := (56 - 8 * ((k + 1 : Nat) : Int))) rfl rfl rfl (by rw [wrap64_id (by omega)]; omega)) rfl rfl ?_
      refine WL.val (dx_assign rfl rfl) rfl rfl ?_
      refine WL.nil ?_
      rw [show (((D ++ 128 :: List.replicate j 0) ++ (lensL D.length).take k) ++ [at0 (lensL D.length) k]) = (D ++ 128 :: List.replicate j 0) ++ (lensL D.length).take (k + 1) from by rw [take_snoc _ _ (by rw [lensL_len]; omega), List.append_assoc]] at h5
      exact hK48 (k + 1) x59 ⟨(by omega), hB, hL, h1, hT, hC, h5, k10⟩ (by omega) (by repeat first | exact trivial | exact And.intro rfl trivial | refine And.intro rfl ?_ | refine And.intro (congrArg (fun z : Int => some (Value.int .i64 z)) (by omega)) ?_)
    ·
      replace c52 := of_decide_eq_false c52
      refine WC.exit ?_
      refine hK46 ?_
      refine WC.seq fun K62 hK62 => ?_
      have hfe : ((D ++ 128 :: List.replicate j 0) ++ (lensL D.length).take k) = (full32 D) := by rw [full32_split, hje, List.take_of_length_le (by rw [lensL_len]; omega)]
      rw [hfe] at h5
      have hA : RdF 1 (w.heap.size :: L) W49 ov2 ((full32 D).map e8) := h5.rd zhL
      have hFl : (full32 D).length = padN32 D.length := full32_len D
      have hFb : Bytes (full32 D) := full32_bytes hDb
      have hFm : ((full32 D).map e8).length = (full32 D).length := List.length_map _
      refine WC.region ?_
      refine WL.get (dx_alloc (cs := encU (List.replicate 8 0)) rfl ty_zero_52 cells_z8) rfl rfl ?_
      rintro _ W63 ⟨rfl, k64, b65, z66⟩
      have n67 : w.heap.size ≠ W49.heap.size := Nat.ne_of_lt k10.lt
      have l68 := hB.size
      replace hT := hT.more b65 (Nat.le_refl _)
      replace hA := hA.more b65 (Nat.le_refl _)
      replace k10 := k10.below b65
      replace hB := below_then hB b65
      replace hL := LL.more hL z66
      refine WL.nil ?_
      refine hK62 ?_
      refine WC.seq fun K69 hK69 => ?_
      refine WC.seq fun K70 hK70 => ?_
      refine WC.region ?_
      refine WL.val (dx_assign rfl rfl) rfl rfl ?_
      refine WL.nil ?_
      refine hK70 ?_
      refine WC.block ?_
      replace k64 : Blk W63 W49.heap.size (encU (begin32.take 0 ++ (List.replicate 8 (0 : Int)).drop 0)) := k64
      refine WC.loop (fun (i : Nat) => [(1, .int .i64 32), (5, .pointer (some ⟨w.heap.size, 0, none⟩)), (6, .int .i64 64), (7, ov2), (10, .pointer (some ⟨W49.heap.size, 0, none⟩)), (11, .int .i64 (i : Int))]) (fun (i : Nat) W => i ≤ 8 ∧ Below w.heap.size w W ∧ LL (W49.heap.size :: w.heap.size :: L) W ∧ TabL (W49.heap.size :: w.heap.size :: L) W ∧ RdF 1 (W49.heap.size :: w.heap.size :: L) W ov2 ((full32 D).map e8) ∧ Blk W w.heap.size [.int .i64 2, .int .i64 13, .int .i64 22, .int .i64 6, .int .i64 11, .int .i64 25, .int .i64 7, .int .i64 18, .int .i64 3, .int .i64 17, .int .i64 19, .int .i64 10] ∧ Blk W W49.heap.size (encU (begin32.take i ++ (List.replicate 8 (0 : Int)).drop i))) (fun (i : Nat) => 8 - i) 0 (by repeat first | exact trivial | exact And.intro rfl trivial | refine And.intro rfl ?_ | refine And.intro (congrArg (fun z : Int => some (Value.int .i64 z)) (by omega)) ?_) ⟨(by decide), hB, hL, hT, hA, k10, k64⟩ ?_
      clear hT hA k10 k64 hB hL
      rintro K71 i W72 ⟨hi, hB, hL, hT, hA, k10, k64⟩ hK71
      refine WC.seq fun K73 hK73 => ?_
      refine WC.seq fun K74 hK74 => ?_
      refine WC.region ?_
      refine WL.val (dx_move rfl rfl) rfl rfl ?_
      refine WL.val (dx_lss rfl rfl rfl) rfl rfl ?_
      refine WL.nil ?_
      refine hK74 ?_
      refine WC.cond rfl (fun c75 => ?_) (fun c75 => ?_)
      ·
        replace c75 := of_decide_eq_true c75
        refine WC.skip ?_
        refine hK73 ?_
        refine WC.seq fun K76 hK76 => ?_
        refine WC.block ?_
        refine WC.region ?_
        refine WL.val (dx_move rfl rfl) rfl rfl ?_
        refine WL.val (dx_move rfl rfl) rfl rfl ?_
        refine WL.val (dx_idxA (o1 := i) rfl Tryd.underlying52 ty_size_49_1 rfl rfl (by omega) (by first | (simp; done) | omega)) rfl rfl ?_
        refine WL.val (dx_load rfl ty_one_49 rfl (hT.1.be i (by omega))) rfl rfl ?_
        refine WL.val (dx_move rfl rfl) rfl rfl ?_
        refine WL.val (dx_sub (r := 32) rfl rfl rfl (by decide)) rfl rfl ?_
        refine WL.val (dx_conv (r := 32) rfl Tryd.underlying3 Tryd.underlying42 rfl (by decide)) rfl rfl ?_
        refine WL.val (dx_shr rfl rfl rfl (by decide) (by decide) (begin32_at i (by omega)).symm) rfl rfl ?_
        refine WL.val (dx_idxA (o1 := i) rfl Tryd.underlying52 ty_size_49_1 rfl rfl (by omega) (by first | (simp; done) | omega)) rfl rfl ?_
        refine WL.do (dx_store (cs' := encU ((begin32.take i ++ (List.replicate 8 (0 : Int)).drop i).set i (at0 begin32 i))) (vs := [.int .u64 (at0 begin32 i)]) rfl ty_size_49_1 rfl rfl rfl (oc_cons rfl oc_nil) k64 rfl (by rw [encU_len, show (begin32.take i ++ (List.replicate 8 (0 : Int)).drop i).length = 8 from (mixl_len begin32_len rep_len hi)]; exact (by omega)) (setU (by rw [show (begin32.take i ++ (List.replicate 8 (0 : Int)).drop i).length = 8 from (mixl_len begin32_len rep_len hi)]; exact (by omega)))) rfl ?_
        rintro _ W77 ⟨k79, o78⟩
        replace k10 := k10.other o78 n67
        clear k64
        replace hT := hT.only o78 (.head _)
        replace hA := hA.only o78 (.head _)
        replace hB := o78.below hB l68
        replace hL := LL.only hL o78
        refine WL.nil ?_
        refine hK76 ?_
        refine WC.region ?_
        refine WL.val (dx_move rfl rfl) rfl rfl ?_
        refine WL.val (dx_add (r := (i : Int) + 1) rfl rfl rfl (wrap64_id (by omega))) rfl rfl ?_
        refine WL.val (dx_assign rfl rfl) rfl rfl ?_
        refine WL.nil ?_
        rw [mix_set begin32_len rep_len (by omega)] at k79
        exact hK71 (i + 1) ⟨(by omega), hB, hL, hT, hA, k10, k79⟩ (by omega) (by repeat first | exact trivial | exact And.intro rfl trivial | refine And.intro rfl ?_ | refine And.intro (congrArg (fun z : Int => some (Value.int .i64 z)) (by omega)) ?_)
      ·
        replace c75 := of_decide_eq_false c75
        refine WC.exit ?_
        refine hK69 ?_
        refine WC.seq fun K80 hK80 => ?_
        have hi8 : i = 8 := by omega
        subst hi8
        replace k64 : Blk W72 W49.heap.size (encU (absorb32 begin32 (full32 D) 0)) := by have e : begin32.take 8 ++ (List.replicate 8 (0 : Int)).drop 8 = begin32 := (by rw [List.take_of_length_le (by rw [begin32_len]; exact Nat.le_refl _)]; simp); rw [e] at k64; exact k64
        refine WC.region ?_
        refine WL.val (dx_move rfl rfl) rfl rfl ?_
        refine WL.val (dx_quo (r := 4) rfl rfl rfl (by omega) (by decide)) rfl rfl ?_
        refine WL.val (dx_assign rfl rfl) rfl rfl ?_
        refine WL.nil ?_
        refine hK80 ?_
        refine WC.seq fun K81 hK81 => ?_
        refine WC.seq fun K82 hK82 => ?_
        refine WC.region ?_
        refine WL.val (dx_assign rfl rfl) rfl rfl ?_
        refine WL.nil ?_
        refine hK82 ?_
        refine WC.block ?_
        refine WC.loop (fun (q : Nat) => [(1, .int .i64 32), (5, .pointer (some ⟨w.heap.size, 0, none⟩)), (6, .int .i64 64), (7, ov2), (10, .pointer (some ⟨W49.heap.size, 0, none⟩)), (12, .int .i64 4), (13, .int .i64 ((q * 64 : Nat) : Int))]) (fun (q : Nat) W => q * 64 ≤ padN32 D.length ∧ Below w.heap.size w W ∧ LL (W49.heap.size :: w.heap.size :: L) W ∧ TabL (W49.heap.size :: w.heap.size :: L) W ∧ RdF 1 (W49.heap.size :: w.heap.size :: L) W ov2 ((full32 D).map e8) ∧ Blk W w.heap.size [.int .i64 2, .int .i64 13, .int .i64 22, .int .i64 6, .int .i64 11, .int .i64 25, .int .i64 7, .int .i64 18, .int .i64 3, .int .i64 17, .int .i64 19, .int .i64 10] ∧ Blk W W49.heap.size (encU (absorb32 begin32 (full32 D) q))) (fun (q : Nat) => padN32 D.length - q * 64) 0 (by repeat first | exact trivial | exact And.intro rfl trivial | refine And.intro rfl ?_ | refine And.intro (congrArg (fun z : Int => some (Value.int .i64 z)) (by omega)) ?_) ⟨(by omega), hB, hL, hT, hA, k10, k64⟩ ?_
        clear hT hA k10 k64 hB hL
        rintro K83 q W84 ⟨hq, hB, hL, hT, hA, k10, k64⟩ hK83
        refine WC.seq fun K85 hK85 => ?_
        refine WC.seq fun K86 hK86 => ?_
        refine WC.region ?_
        refine WL.val (dx_move rfl rfl) rfl rfl ?_
        refine WL.val (dx_move rfl rfl) rfl rfl ?_
        refine WL.val (dx_lenF rfl ty_slice_25 rfl hA) rfl rfl ?_
        refine WL.val (dx_lss rfl rfl rfl) rfl rfl ?_
        refine WL.nil ?_
        refine hK86 ?_
        refine WC.cond rfl (fun c87 => ?_) (fun c87 => ?_)
        ·
          replace c87 := of_decide_eq_true c87
          refine WC.skip ?_
          refine hK85 ?_
          refine WC.seq fun K88 hK88 => ?_
          refine WC.block ?_
          refine WC.seq fun K89 hK89 => ?_
          have hpm := (padN32_ge D.length).2.2
          have hc_ := c87
          rw [hFm, hFl] at hc_
          have hqq : q * 64 + 64 ≤ padN32 D.length := by omega
          obtain ⟨zs, hzs⟩ : ∃ z, z = ((full32 D).drop (q * 64)).take 64 := ⟨_, rfl⟩
          have hzl : zs.length = 64 := by rw [hzs, List.length_take, List.length_drop, hFl]; omega
          have hzb : Bytes zs := fun x hx => hFb x (by rw [hzs] at hx; exact List.mem_of_mem_drop (List.mem_of_mem_take hx))
          obtain ⟨st, hst⟩ : ∃ z, z = absorb32 begin32 (full32 D) q := ⟨_, rfl⟩
          rw [← hst] at k64
          have hsl : st.length = 8 := by rw [hst]; exact absorb32_len _ _
          have hsi : ∀ x ∈ st, In32 x := by rw [hst]; exact absorb32_in _ _
          refine WC.region ?_
          refine WL.get (dx_alloc (cs := encU (List.replicate 80 0)) rfl ty_zero_61 cells_z80) rfl rfl ?_
          rintro _ W90 ⟨rfl, k91, b92, z93⟩
          have n94 : w.heap.size ≠ W84.heap.size := Nat.ne_of_lt k10.lt
          have n95 : W49.heap.size ≠ W84.heap.size := Nat.ne_of_lt k64.lt
          have l96 := hB.size
          replace hT := hT.more b92 (Nat.le_refl _)
          replace hA := hA.more b92 (Nat.le_refl _)
          replace k10 := k10.below b92
          replace k64 := k64.below b92
          replace hB := below_then hB b92
          replace hL := LL.more hL z93
          refine WL.nil ?_
          refine hK89 ?_
          refine WC.seq fun K97 hK97 => ?_
          refine WC.seq fun K98 hK98 => ?_
          refine WC.region ?_
          refine WL.val (dx_assign rfl rfl) rfl rfl ?_
          refine WL.nil ?_
          refine hK98 ?_
          refine WC.block ?_
          rw [← part32_zero zs] at k91
          refine WC.loop (fun (i : Nat) => [(1, .int .i64 32), (5, .pointer (some ⟨w.heap.size, 0, none⟩)), (6, .int .i64 64), (7, ov2), (10, .pointer (some ⟨W49.heap.size, 0, none⟩)), (12, .int .i64 4), (13, .int .i64 ((q * 64 : Nat) : Int)), (14, .pointer (some ⟨W84.heap.size, 0, none⟩)), (15, .int .i64 (i : Int))]) (fun (i : Nat) W => i ≤ 64 ∧ Below w.heap.size w W ∧ LL (W84.heap.size :: W49.heap.size :: w.heap.size :: L) W ∧ TabL (W84.heap.size :: W49.heap.size :: w.heap.size :: L) W ∧ RdF 1 (W84.heap.size :: W49.heap.size :: w.heap.size :: L) W ov2 ((full32 D).map e8) ∧ Blk W w.heap.size [.int .i64 2, .int .i64 13, .int .i64 22, .int .i64 6, .int .i64 11, .int .i64 25, .int .i64 7, .int .i64 18, .int .i64 3, .int .i64 17, .int .i64 19, .int .i64 10] ∧ Blk W W49.heap.size (encU st) ∧ Blk W W84.heap.size (encU (part32 zs i))) (fun (i : Nat) => 64 - i) 0 (by repeat first | exact trivial | exact And.intro rfl trivial | refine And.intro rfl ?_ | refine And.intro (congrArg (fun z : Int => some (Value.int .i64 z)) (by omega)) ?_) ⟨Nat.zero_le _, hB, hL, hT, hA, k10, k64, k91⟩ ?_
          clear hT hA k10 k64 k91 hB hL
          rintro K99 i W100 ⟨hi, hB, hL, hT, hA, k10, k64, k91⟩ hK99
          refine WC.seq fun K101 hK101 => ?_
          refine WC.seq fun K102 hK102 => ?_
          refine WC.region ?_
          refine WL.val (dx_move rfl rfl) rfl rfl ?_
          refine WL.val (dx_move rfl rfl) rfl rfl ?_
          refine WL.val (dx_mul (r := 64) rfl rfl rfl (by decide)) rfl rfl ?_
          refine WL.val (dx_lss rfl rfl rfl) rfl rfl ?_
          refine WL.nil ?_
          refine hK102 ?_
          refine WC.cond rfl (fun c103 => ?_) (fun c103 => ?_)
          ·
            replace c103 := of_decide_eq_true c103
            refine WC.skip ?_
            refine hK101 ?_
            refine WC.seq fun K104 hK104 => ?_
            refine WC.block ?_
            have ez : (full32 D)[q * 64 + i]? = some (at0 zs i) := by have e1 : at0 zs i = at0 (full32 D) (q * 64 + i) := (by rw [hzs]; unfold at0; rw [List.getElem?_take, if_pos (by omega), List.getElem?_drop]); rw [e1]; exact at0_some (by omega)
            have hzi := at0_all (p := fun x => 0 ≤ x ∧ x ≤ 255) (by decide) hzb i
            have hpl := part32_lt hzb hzl i (by omega)
            refine WC.drawM 17 [(some 98, .is (.int .i64 (i : Int))), (some 99, .is (.int .i64 4)), (some 100, .is (.int .i64 ((i : Int) / 4))), (some 101, .is (.int .i64 (i : Int))), (some 102, .is (.int .i64 4)), (some 103, .is (.int .i64 ((i : Int) / 4))), (some 104, .is (.pointer (some ⟨W84.heap.size, (i / 4), none⟩))), (some 105, .is (.int .u64 (at0 (part32 zs i) (i / 4)))), (some 106, .is (.int .u64 (at0 (part32 zs i) (i / 4) * 256))), (some 107, .is (ov2)), (some 108, .is (.int .i64 ((q * 64 : Nat) : Int))), (some 109, .is (.int .i64 (i : Int))), (some 110, .is (.int .i64 (((q * 64 : Nat) : Int) + (i : Int)))), (some 111, .by fun u W => PtR (W84.heap.size :: W49.heap.size :: w.heap.size :: L) W u [.int .u8 (at0 zs i)]), (some 112, .is (.int .u8 (at0 zs i))), (some 113, .is (.int .u64 (at0 zs i))), (some 114, .is (.int .u64 (at0 (part32 zs i) (i / 4) * 256 + (at0 zs i))))] [[], [], [0, 1], [], [], [3, 4], [5], [6], [7], [], [], [], [10, 11], [9, 12], [13], [14], [8, 15]] (by kernel_rfl) (by kernel_rfl) (by kernel_rfl) (by kernel_rfl) (by kernel_rfl) (by kernel_rfl) (by kernel_rfl) ⟨fun _ _ _ hb h => h.below hb, trivial⟩ ?_ ?_
            ·
              refine DSteps.cons (fun Wd hd => ?_) ?_
              ·
                exact DV.dr (dx_move rfl rfl) ⟨Below.refl _ _, rfl⟩
              refine DSteps.cons (fun Wd hd => ?_) ?_
              ·
                exact DV.dr (dx_move rfl rfl) ⟨Below.refl _ _, rfl⟩
              refine DSteps.cons (fun Wd hd => ?_) ?_
              ·
                exact DV.dr (dx_quo (r := (i : Int) / 4) rfl rfl rfl (by decide) (by rw [Int.tdiv_eq_ediv_of_nonneg (by omega)]; exact wrap64_id (by omega))) ⟨Below.refl _ _, rfl⟩
              refine DSteps.cons (fun Wd hd => ?_) ?_
              ·
                exact DV.dr (dx_move rfl rfl) ⟨Below.refl _ _, rfl⟩
              refine DSteps.cons (fun Wd hd => ?_) ?_
              ·
                exact DV.dr (dx_move rfl rfl) ⟨Below.refl _ _, rfl⟩
              refine DSteps.cons (fun Wd hd => ?_) ?_
              ·
                exact DV.dr (dx_quo (r := (i : Int) / 4) rfl rfl rfl (by decide) (by rw [Int.tdiv_eq_ediv_of_nonneg (by omega)]; exact wrap64_id (by omega))) ⟨Below.refl _ _, rfl⟩
              refine DSteps.cons (fun Wd hd => ?_) ?_
              ·
                exact DV.dr (dx_idxA (o1 := (i / 4)) rfl Tryd.underlying61 ty_size_49_1 rfl rfl (by omega) (by first | (simp; done) | omega)) ⟨Below.refl _ _, rfl⟩
              refine DSteps.cons (fun Wd hd => ?_) ?_
              ·
                have k91 := k91.below hd
                exact DV.dr (dx_load rfl ty_one_49 rfl (k91.cell (k := (i / 4)) (cellU (by rw [show (part32 zs i).length = 80 from (part32_len _ _)]; exact (by omega))))) ⟨Below.refl _ _, rfl⟩
              refine DSteps.cons (fun Wd hd => ?_) ?_
              ·
                exact DV.dr (dx_shl (r := at0 (part32 zs i) (i / 4) * 256) rfl rfl rfl (by decide) (by decide) (by rw [wrap_m, show (2 : Int) ^ (8 : Int).toNat = 256 from by decide]; omega)) ⟨Below.refl _ _, rfl⟩
              refine DSteps.cons (fun Wd hd => ?_) ?_
              ·
                exact DV.dr (dx_move rfl rfl) ⟨Below.refl _ _, rfl⟩
              refine DSteps.cons (fun Wd hd => ?_) ?_
              ·
                exact DV.dr (dx_move rfl rfl) ⟨Below.refl _ _, rfl⟩
              refine DSteps.cons (fun Wd hd => ?_) ?_
              ·
                exact DV.dr (dx_move rfl rfl) ⟨Below.refl _ _, rfl⟩
              refine DSteps.cons (fun Wd hd => ?_) ?_
              ·
                exact DV.dr (dx_add (r := ((q * 64 : Nat) : Int) + (i : Int)) rfl rfl rfl (wrap64_id (by omega))) ⟨Below.refl _ _, rfl⟩
              refine DSteps.cons (fun Wd hd => ?_) ?_
              ·
                have hA := hA.below hd
                exact (dx_idxF (q * 64 + i) rfl ty_slice_25 rfl rfl hA (by omega) (at_mapX ez)).mono (fun v W' h => ⟨by rw [← h.1]; exact Below.refl _ _, by rw [← h.1]; exact h.2⟩)
              refine DSteps.cons (fun Wd hd => ?_) ?_
              ·
                intro u27_13 p27_13
                exact DV.dr (dx_loadP rfl ty_one_5 rfl p27_13) ⟨Below.refl _ _, rfl⟩
              refine DSteps.cons (fun Wd hd => ?_) ?_
              ·
                exact DV.dr (dx_conv (r := (at0 zs i)) rfl Tryd.underlying5 Tryd.underlying49 rfl (wrapu64_id (by omega))) ⟨Below.refl _ _, rfl⟩
              refine DSteps.cons (fun Wd hd => ?_) ?_
              ·
                exact DV.dr (dx_or_i (r := at0 (part32 zs i) (i / 4) * 256 + (at0 zs i)) rfl rfl rfl (or_be64 _ _ (by omega) (by omega))) ⟨Below.refl _ _, rfl⟩
              exact trivial
            ·
              intro W105 b106
              intro u27_13 p27_13
              replace hT := hT.below b106
              replace hA := hA.below b106
              replace k10 := k10.below b106
              replace k64 := k64.below b106
              replace k91 := k91.below b106
              replace hB := below_then hB b106
              replace hL := LL.below hL b106
              refine WL.val (dx_idxA (o1 := (i / 4)) rfl Tryd.underlying61 ty_size_49_1 rfl rfl (by omega) (by first | (simp; done) | omega)) rfl rfl ?_
              refine WL.do (dx_store (cs' := encU ((part32 zs i).set (i / 4) (at0 (part32 zs i) (i / 4) * 256 + (at0 zs i)))) (vs := [.int .u64 (at0 (part32 zs i) (i / 4) * 256 + (at0 zs i))]) rfl ty_size_49_1 rfl rfl rfl (oc_cons rfl oc_nil) k91 rfl (by rw [encU_len, show (part32 zs i).length = 80 from (part32_len _ _)]; exact (by omega)) (setU (by rw [show (part32 zs i).length = 80 from (part32_len _ _)]; exact (by omega)))) rfl ?_
              rintro _ W107 ⟨k109, o108⟩
              replace k10 := k10.other o108 n94
              replace k64 := k64.other o108 n95
              clear k91
              replace hT := hT.only o108 (.head _)
              replace hA := hA.only o108 (.head _)
              replace p27_13 := p27_13.only o108 (.head _)
              replace hB := o108.below hB l96
              replace hL := LL.only hL o108
              refine WL.nil ?_
              refine hK104 ?_
              refine WC.region ?_
              refine WL.val (dx_move rfl rfl) rfl rfl ?_
              refine WL.val (dx_add (r := (i : Int) + 1) rfl rfl rfl (wrap64_id (by omega))) rfl rfl ?_
              refine WL.val (dx_assign rfl rfl) rfl rfl ?_
              refine WL.nil ?_
              rw [part32_step zs hzl i (by omega)] at k109
              exact hK99 (i + 1) ⟨(by omega), hB, hL, hT, hA, k10, k64, k109⟩ (by omega) (by repeat first | exact trivial | exact And.intro rfl trivial | refine And.intro rfl ?_ | refine And.intro (congrArg (fun z : Int => some (Value.int .i64 z)) (by omega)) ?_)
          ·
            replace c103 := of_decide_eq_false c103
            refine WC.exit ?_
            refine hK97 ?_
            refine WC.seq fun K110 hK110 => ?_
            refine WC.seq fun K111 hK111 => ?_
            refine WC.region ?_
            refine WL.val (dx_assign rfl rfl) rfl rfl ?_
            refine WL.nil ?_
            refine hK111 ?_
            refine WC.block ?_
            have hi6 : i = 64 := by omega
            subst hi6
            rw [part32_all zs hzl] at k91
            refine WC.loop (fun (k : Nat) => [(1, .int .i64 32), (5, .pointer (some ⟨w.heap.size, 0, none⟩)), (6, .int .i64 64), (7, ov2), (10, .pointer (some ⟨W49.heap.size, 0, none⟩)), (12, .int .i64 4), (13, .int .i64 ((q * 64 : Nat) : Int)), (14, .pointer (some ⟨W84.heap.size, 0, none⟩)), (16, .int .i64 ((k + 16 : Nat) : Int))]) (fun (k : Nat) W => k ≤ 48 ∧ Below w.heap.size w W ∧ LL (W84.heap.size :: W49.heap.size :: w.heap.size :: L) W ∧ TabL (W84.heap.size :: W49.heap.size :: w.heap.size :: L) W ∧ RdF 1 (W84.heap.size :: W49.heap.size :: w.heap.size :: L) W ov2 ((full32 D).map e8) ∧ Blk W w.heap.size [.int .i64 2, .int .i64 13, .int .i64 22, .int .i64 6, .int .i64 11, .int .i64 25, .int .i64 7, .int .i64 18, .int .i64 3, .int .i64 17, .int .i64 19, .int .i64 10] ∧ Blk W W49.heap.size (encU st) ∧ Blk W W84.heap.size (encU (sched32 zs k))) (fun (k : Nat) => 48 - k) 0 (by repeat first | exact trivial | exact And.intro rfl trivial | refine And.intro rfl ?_ | refine And.intro (congrArg (fun z : Int => some (Value.int .i64 z)) (by omega)) ?_) ⟨Nat.zero_le _, hB, hL, hT, hA, k10, k64, k91⟩ ?_
            clear hT hA k10 k64 k91 hB hL
            rintro K112 k W113 ⟨hk, hB, hL, hT, hA, k10, k64, k91⟩ hK112
            refine WC.seq fun K114 hK114 => ?_
            refine WC.seq fun K115 hK115 => ?_
            refine WC.region ?_
            refine WL.val (dx_move rfl rfl) rfl rfl ?_
            refine WL.val (dx_move rfl rfl) rfl rfl ?_
            refine WL.val (dx_lss rfl rfl rfl) rfl rfl ?_
            refine WL.nil ?_
            refine hK115 ?_
            refine WC.cond rfl (fun c116 => ?_) (fun c116 => ?_)
            ·
              replace c116 := of_decide_eq_true c116
              refine WC.skip ?_
              refine hK114 ?_
              refine WC.seq fun K117 hK117 => ?_
              refine WC.block ?_
              have hsi2 := at0_all (p := In32) zero_in32' (sched32_in hzb hzl k)
              refine WC.drawM 30 [(some 121, .is (.int .i64 ((k + 16 : Nat) : Int))), (some 122, .is (.int .i64 ((k + 16 : Nat) : Int))), (some 123, .is (.int .i64 (((k + 16 : Nat) : Int) - 16))), (some 124, .is (.pointer (some ⟨W84.heap.size, (k + 16 - 16), none⟩))), (some 125, .is (.int .u64 (at0 (sched32 zs k) (k + 16 - 16)))), (some 126, .is (.int .i64 ((k + 16 : Nat) : Int))), (some 127, .is (.int .i64 (((k + 16 : Nat) : Int) - 15))), (some 128, .is (.pointer (some ⟨W84.heap.size, (k + 16 - 15), none⟩))), (some 129, .is (.int .u64 (at0 (sched32 zs k) (k + 16 - 15)))), (some 130, .is (.pointer (some ⟨w.heap.size, 6, none⟩))), (some 131, .is (.agg #[.int .i64 7, .int .i64 18, .int .i64 3])), (some 132, .is (.int .i64 32)), (some 133, .is (.int .u64 (lowA32 (at0 (sched32 zs k) (k + 16 - 15))))), (some 134, .is (.int .u64 ((at0 (sched32 zs k) (k + 16 - 16) + lowA32 (at0 (sched32 zs k) (k + 16 - 15))) % 18446744073709551616))), (some 135, .is (.int .i64 ((k + 16 : Nat) : Int))), (some 136, .is (.int .i64 (((k + 16 : Nat) : Int) - 7))), (some 137, .is (.pointer (some ⟨W84.heap.size, (k + 16 - 7), none⟩))), (some 138, .is (.int .u64 (at0 (sched32 zs k) (k + 16 - 7)))), (some 139, .is (.int .u64 (((at0 (sched32 zs k) (k + 16 - 16) + lowA32 (at0 (sched32 zs k) (k + 16 - 15))) % 18446744073709551616 + at0 (sched32 zs k) (k + 16 - 7)) % 18446744073709551616))), (some 140, .is (.int .i64 ((k + 16 : Nat) : Int))), (some 141, .is (.int .i64 (((k + 16 : Nat) : Int) - 2))), (some 142, .is (.pointer (some ⟨W84.heap.size, (k + 16 - 2), none⟩))), (some 143, .is (.int .u64 (at0 (sched32 zs k) (k + 16 - 2)))), (some 144, .is (.pointer (some ⟨w.heap.size, 9, none⟩))), (some 145, .is (.agg #[.int .i64 17, .int .i64 19, .int .i64 10])), (some 146, .is (.int .i64 32)), (some 147, .is (.int .u64 (lowB32 (at0 (sched32 zs k) (k + 16 - 2))))), (some 148, .is (.int .u64 ((((at0 (sched32 zs k) (k + 16 - 16) + lowA32 (at0 (sched32 zs k) (k + 16 - 15))) % 18446744073709551616 + at0 (sched32 zs k) (k + 16 - 7)) % 18446744073709551616 + lowB32 (at0 (sched32 zs k) (k + 16 - 2))) % 18446744073709551616))), (some 149, .is (.int .i64 32)), (some 150, .is (.int .u64 (next32 (sched32 zs k) (16 + k))))] [[], [], [1], [2], [3], [], [5], [6], [7], [], [9], [], [8, 10, 11], [4, 12], [], [14], [15], [16], [13, 17], [], [19], [20], [21], [], [23], [], [22, 24, 25, 12], [18, 26], [], [27, 28, 26]] (by kernel_rfl) (by kernel_rfl) (by kernel_rfl) (by kernel_rfl) (by kernel_rfl) (by kernel_rfl) (by kernel_rfl) (by exact trivial) ?_ ?_
              ·
                refine DSteps.cons (fun Wd hd => ?_) ?_
                ·
                  exact DV.dr (dx_move rfl rfl) ⟨Below.refl _ _, rfl⟩
                refine DSteps.cons (fun Wd hd => ?_) ?_
                ·
                  exact DV.dr (dx_move rfl rfl) ⟨Below.refl _ _, rfl⟩
                refine DSteps.cons (fun Wd hd => ?_) ?_
                ·
                  exact DV.dr (dx_sub (r := ((k + 16 : Nat) : Int) - 16) rfl rfl rfl (wrap64_id (by omega))) ⟨Below.refl _ _, rfl⟩
                refine DSteps.cons (fun Wd hd => ?_) ?_
                ·
                  exact DV.dr (dx_idxA (o1 := (k + 16 - 16)) rfl Tryd.underlying61 ty_size_49_1 rfl rfl (by omega) (by first | (simp; done) | omega)) ⟨Below.refl _ _, rfl⟩
                refine DSteps.cons (fun Wd hd => ?_) ?_
                ·
                  have k91 := k91.below hd
                  exact DV.dr (dx_load rfl ty_one_49 rfl (k91.cell (k := (k + 16 - 16)) (cellU (by rw [show (sched32 zs k).length = 80 from (sched32_len _ _)]; exact (by omega))))) ⟨Below.refl _ _, rfl⟩
                refine DSteps.cons (fun Wd hd => ?_) ?_
                ·
                  exact DV.dr (dx_move rfl rfl) ⟨Below.refl _ _, rfl⟩
                refine DSteps.cons (fun Wd hd => ?_) ?_
                ·
                  exact DV.dr (dx_sub (r := ((k + 16 : Nat) : Int) - 15) rfl rfl rfl (wrap64_id (by omega))) ⟨Below.refl _ _, rfl⟩
                refine DSteps.cons (fun Wd hd => ?_) ?_
                ·
                  exact DV.dr (dx_idxA (o1 := (k + 16 - 15)) rfl Tryd.underlying61 ty_size_49_1 rfl rfl (by omega) (by first | (simp; done) | omega)) ⟨Below.refl _ _, rfl⟩
                refine DSteps.cons (fun Wd hd => ?_) ?_
                ·
                  have k91 := k91.below hd
                  exact DV.dr (dx_load rfl ty_one_49 rfl (k91.cell (k := (k + 16 - 15)) (cellU (by rw [show (sched32 zs k).length = 80 from (sched32_len _ _)]; exact (by omega))))) ⟨Below.refl _ _, rfl⟩
                refine DSteps.cons (fun Wd hd => ?_) ?_
                ·
                  exact DV.dr (dx_idxA (o1 := 6) rfl Tryd.underlying60 ty_size_59_3 rfl rfl (by decide) rfl) ⟨Below.refl _ _, rfl⟩
                refine DSteps.cons (fun Wd hd => ?_) ?_
                ·
                  have k10 := k10.below hd
                  exact DV.dr (dx_loadN (cs := [.int .i64 7, .int .i64 18, .int .i64 3]) rfl ty_agg_59_3 rfl (k10.part 6 3) rfl) ⟨Below.refl _ _, rfl⟩
                refine DSteps.cons (fun Wd hd => ?_) ?_
                ·
                  exact DV.dr (dx_move rfl rfl) ⟨Below.refl _ _, rfl⟩
                refine DSteps.cons (fun Wd hd => ?_) ?_
                ·
                  exact DR.mono (dx_cv rfl Tryd.func41 rfl rfl rfl ((show CV _ _ [_, _, _, _] _ (fun v _ => v = .int .u64 (lowA32 (at0 (sched32 zs k) (k + 16 - 15)))) from cv_oldB (ref_mixtrue32_v (at0 (sched32 zs k) (k + 16 - 15)) 7 18 3 Wd (hsi2 _) (by decide) (by decide) (by decide))))) (fun v W' ⟨h, hb⟩ => ⟨hb, (by rw [h]; exact rfl)⟩)
                refine DSteps.cons (fun Wd hd => ?_) ?_
                ·
                  exact DV.dr (dx_add rfl rfl rfl (wrap_m _)) ⟨Below.refl _ _, rfl⟩
                refine DSteps.cons (fun Wd hd => ?_) ?_
                ·
                  exact DV.dr (dx_move rfl rfl) ⟨Below.refl _ _, rfl⟩
                refine DSteps.cons (fun Wd hd => ?_) ?_
                ·
                  exact DV.dr (dx_sub (r := ((k + 16 : Nat) : Int) - 7) rfl rfl rfl (wrap64_id (by omega))) ⟨Below.refl _ _, rfl⟩
                refine DSteps.cons (fun Wd hd => ?_) ?_
                ·
                  exact DV.dr (dx_idxA (o1 := (k + 16 - 7)) rfl Tryd.underlying61 ty_size_49_1 rfl rfl (by omega) (by first | (simp; done) | omega)) ⟨Below.refl _ _, rfl⟩
                refine DSteps.cons (fun Wd hd => ?_) ?_
                ·
                  have k91 := k91.below hd
                  exact DV.dr (dx_load rfl ty_one_49 rfl (k91.cell (k := (k + 16 - 7)) (cellU (by rw [show (sched32 zs k).length = 80 from (sched32_len _ _)]; exact (by omega))))) ⟨Below.refl _ _, rfl⟩
                refine DSteps.cons (fun Wd hd => ?_) ?_
                ·
                  exact DV.dr (dx_add rfl rfl rfl (wrap_m _)) ⟨Below.refl _ _, rfl⟩
                refine DSteps.cons (fun Wd hd => ?_) ?_
                ·
                  exact DV.dr (dx_move rfl rfl) ⟨Below.refl _ _, rfl⟩
                refine DSteps.cons (fun Wd hd => ?_) ?_
                ·
                  exact DV.dr (dx_sub (r := ((k + 16 : Nat) : Int) - 2) rfl rfl rfl (wrap64_id (by omega))) ⟨Below.refl _ _, rfl⟩
                refine DSteps.cons (fun Wd hd => ?_) ?_
                ·
                  exact DV.dr (dx_idxA (o1 := (k + 16 - 2)) rfl Tryd.underlying61 ty_size_49_1 rfl rfl (by omega) (by first | (simp; done) | omega)) ⟨Below.refl _ _, rfl⟩
                refine DSteps.cons (fun Wd hd => ?_) ?_
                ·
                  have k91 := k91.below hd
                  exact DV.dr (dx_load rfl ty_one_49 rfl (k91.cell (k := (k + 16 - 2)) (cellU (by rw [show (sched32 zs k).length = 80 from (sched32_len _ _)]; exact (by omega))))) ⟨Below.refl _ _, rfl⟩
                refine DSteps.cons (fun Wd hd => ?_) ?_
                ·
                  exact DV.dr (dx_idxA (o1 := 9) rfl Tryd.underlying60 ty_size_59_3 rfl rfl (by decide) rfl) ⟨Below.refl _ _, rfl⟩
                refine DSteps.cons (fun Wd hd => ?_) ?_
                ·
                  have k10 := k10.below hd
                  exact DV.dr (dx_loadN (cs := [.int .i64 17, .int .i64 19, .int .i64 10]) rfl ty_agg_59_3 rfl (k10.part 9 3) rfl) ⟨Below.refl _ _, rfl⟩
                refine DSteps.cons (fun Wd hd => ?_) ?_
                ·
                  exact DV.dr (dx_move rfl rfl) ⟨Below.refl _ _, rfl⟩
                refine DSteps.cons (fun Wd hd => ?_) ?_
                ·
                  exact DR.mono (dx_cv rfl Tryd.func41 rfl rfl rfl ((show CV _ _ [_, _, _, _] _ (fun v _ => v = .int .u64 (lowB32 (at0 (sched32 zs k) (k + 16 - 2)))) from cv_oldB (ref_mixtrue32_v (at0 (sched32 zs k) (k + 16 - 2)) 17 19 10 Wd (hsi2 _) (by decide) (by decide) (by decide))))) (fun v W' ⟨h, hb⟩ => ⟨hb, (by rw [h]; exact rfl)⟩)
                refine DSteps.cons (fun Wd hd => ?_) ?_
                ·
                  exact DV.dr (dx_add rfl rfl rfl (wrap_m _)) ⟨Below.refl _ _, rfl⟩
                refine DSteps.cons (fun Wd hd => ?_) ?_
                ·
                  exact DV.dr (dx_move rfl rfl) ⟨Below.refl _ _, rfl⟩
                refine DSteps.cons (fun Wd hd => ?_) ?_
                ·
                  exact DR.mono (dx_cv rfl Tryd.func40 rfl rfl rfl ((show CV _ _ [_, _] _ (fun v _ => v = .int .u64 (next32 (sched32 zs k) (16 + k))) from CV.mono (cv_old (ref_cut32_v ((((at0 (sched32 zs k) (k + 16 - 16) + lowA32 (at0 (sched32 zs k) (k + 16 - 15))) % 18446744073709551616 + at0 (sched32 zs k) (k + 16 - 7)) % 18446744073709551616 + lowB32 (at0 (sched32 zs k) (k + 16 - 2))) % 18446744073709551616) Wd (mod_in _))) fun v _ _ h => h.trans (congrArg (Value.int .u64) (show (((at0 (sched32 zs k) (k + 16 - 16) + lowA32 (at0 (sched32 zs k) (k + 16 - 15))) % 18446744073709551616 + at0 (sched32 zs k) (k + 16 - 7)) % 18446744073709551616 + lowB32 (at0 (sched32 zs k) (k + 16 - 2))) % 18446744073709551616 % 4294967296 = next32 (sched32 zs k) (16 + k) from by rw [show 16 + k = k + 16 from Nat.add_comm _ _]; exact next32_eq (sched32 zs k) (k + 16) _ _ _ _ rfl rfl rfl rfl))))) (fun v W' ⟨h, hb⟩ => ⟨hb, (by rw [h]; exact rfl)⟩)
                exact trivial
              ·
                intro W118 b119
                replace hT := hT.below b119
                replace hA := hA.below b119
                replace k10 := k10.below b119
                replace k64 := k64.below b119
                replace k91 := k91.below b119
                replace hB := below_then hB b119
                replace hL := LL.below hL b119
                refine WL.val (dx_idxA (o1 := (k + 16)) rfl Tryd.underlying61 ty_size_49_1 rfl rfl (by omega) (by first | (simp; done) | omega)) rfl rfl ?_
                refine WL.do (dx_store (cs' := encU ((sched32 zs k).set (k + 16) (next32 (sched32 zs k) (16 + k)))) (vs := [.int .u64 (next32 (sched32 zs k) (16 + k))]) rfl ty_size_49_1 rfl rfl rfl (oc_cons rfl oc_nil) k91 rfl (by rw [encU_len, show (sched32 zs k).length = 80 from (sched32_len _ _)]; exact (by omega)) (setU (by rw [show (sched32 zs k).length = 80 from (sched32_len _ _)]; exact (by omega)))) rfl ?_
                rintro _ W120 ⟨k122, o121⟩
                replace k10 := k10.other o121 n94
                replace k64 := k64.other o121 n95
                clear k91
                replace hT := hT.only o121 (.head _)
                replace hA := hA.only o121 (.head _)
                replace hB := o121.below hB l96
                replace hL := LL.only hL o121
                refine WL.nil ?_
                refine hK117 ?_
                refine WC.region ?_
                refine WL.val (dx_move rfl rfl) rfl rfl ?_
                refine WL.val (dx_add (r := ((k + 1 + 16 : Nat) : Int)) rfl rfl rfl (by rw [wrap64_id (by omega)]; omega)) rfl rfl ?_
                refine WL.val (dx_assign rfl rfl) rfl rfl ?_
                refine WL.nil ?_
                replace k122 : Blk W120 W84.heap.size (encU (sched32 zs (k + 1))) := by rw [show k + 16 = 16 + k from Nat.add_comm _ _] at k122; exact k122
                exact hK112 (k + 1) ⟨(by omega), hB, hL, hT, hA, k10, k64, k122⟩ (by omega) (by repeat first | exact trivial | exact And.intro rfl trivial | refine And.intro rfl ?_ | refine And.intro (congrArg (fun z : Int => some (Value.int .i64 z)) (by omega)) ?_)
            ·
              replace c116 := of_decide_eq_false c116
              refine WC.exit ?_
              refine hK110 ?_
              refine WC.seq fun K123 hK123 => ?_
              refine WC.region ?_
              refine WL.val (dx_loadN rfl ty_agg_52_8 rfl k64.range (by rw [encU_len]; exact hsl)) rfl rfl ?_
              refine WL.get (dx_alloc (cs := encU (List.replicate 8 0)) rfl ty_zero_52 cells_z8) rfl rfl ?_
              rintro _ W124 ⟨rfl, k125, b126, z127⟩
              have n128 : w.heap.size ≠ W113.heap.size := Nat.ne_of_lt k10.lt
              have n129 : W49.heap.size ≠ W113.heap.size := Nat.ne_of_lt k64.lt
              have n130 : W84.heap.size ≠ W113.heap.size := Nat.ne_of_lt k91.lt
              have l131 := hB.size
              replace hT := hT.more b126 (Nat.le_refl _)
              replace hA := hA.more b126 (Nat.le_refl _)
              replace k10 := k10.below b126
              replace k64 := k64.below b126
              replace k91 := k91.below b126
              replace hB := below_then hB b126
              replace hL := LL.more hL z127
              refine WL.do (dx_storeW (vs := (encU st)) rfl ty_size_52_8 rfl rfl rfl (oc_U st) k125 (by rw [encU_len]; exact hsl) (by rw [encU_len, List.length_replicate])) rfl ?_
              rintro _ W132 ⟨k134, o133⟩
              replace k10 := k10.other o133 n128
              replace k64 := k64.other o133 n129
              replace k91 := k91.other o133 n130
              clear k125
              replace hT := hT.only o133 (.head _)
              replace hA := hA.only o133 (.head _)
              replace hB := o133.below hB l131
              replace hL := LL.only hL o133
              refine WL.nil ?_
              refine hK123 ?_
              refine WC.seq fun K135 hK135 => ?_
              refine WC.seq fun K136 hK136 => ?_
              refine WC.region ?_
              refine WL.val (dx_assign rfl rfl) rfl rfl ?_
              refine WL.nil ?_
              refine hK136 ?_
              refine WC.block ?_
              have hks : k = 48 := by omega
              subst hks
              replace k134 : Blk W132 W113.heap.size [.int .u64 (rounds32 (sched32 zs 48) (eight32 st) 0).a, .int .u64 (rounds32 (sched32 zs 48) (eight32 st) 0).b, .int .u64 (rounds32 (sched32 zs 48) (eight32 st) 0).c, .int .u64 (rounds32 (sched32 zs 48) (eight32 st) 0).d, .int .u64 (rounds32 (sched32 zs 48) (eight32 st) 0).e, .int .u64 (rounds32 (sched32 zs 48) (eight32 st) 0).f, .int .u64 (rounds32 (sched32 zs 48) (eight32 st) 0).g, .int .u64 (rounds32 (sched32 zs 48) (eight32 st) 0).h] := by rw [enc8U hsl] at k134; exact k134
              have hok := rounds32_ok (m := sched32 zs 48) (eight32_ok hsi)
              refine WC.loop (fun (i : Nat) => [(1, .int .i64 32), (5, .pointer (some ⟨w.heap.size, 0, none⟩)), (6, .int .i64 64), (7, ov2), (10, .pointer (some ⟨W49.heap.size, 0, none⟩)), (12, .int .i64 4), (13, .int .i64 ((q * 64 : Nat) : Int)), (14, .pointer (some ⟨W84.heap.size, 0, none⟩)), (17, .pointer (some ⟨W113.heap.size, 0, none⟩)), (18, .int .i64 (i : Int))]) (fun (i : Nat) W => i ≤ 64 ∧ Below w.heap.size w W ∧ LL (W113.heap.size :: W84.heap.size :: W49.heap.size :: w.heap.size :: L) W ∧ TabL (W113.heap.size :: W84.heap.size :: W49.heap.size :: w.heap.size :: L) W ∧ RdF 1 (W113.heap.size :: W84.heap.size :: W49.heap.size :: w.heap.size :: L) W ov2 ((full32 D).map e8) ∧ Blk W w.heap.size [.int .i64 2, .int .i64 13, .int .i64 22, .int .i64 6, .int .i64 11, .int .i64 25, .int .i64 7, .int .i64 18, .int .i64 3, .int .i64 17, .int .i64 19, .int .i64 10] ∧ Blk W W49.heap.size (encU st) ∧ Blk W W84.heap.size (encU (sched32 zs 48)) ∧ Blk W W113.heap.size [.int .u64 ((rounds32 (sched32 zs 48) (eight32 st) i).a), .int .u64 ((rounds32 (sched32 zs 48) (eight32 st) i).b), .int .u64 ((rounds32 (sched32 zs 48) (eight32 st) i).c), .int .u64 ((rounds32 (sched32 zs 48) (eight32 st) i).d), .int .u64 ((rounds32 (sched32 zs 48) (eight32 st) i).e), .int .u64 ((rounds32 (sched32 zs 48) (eight32 st) i).f), .int .u64 ((rounds32 (sched32 zs 48) (eight32 st) i).g), .int .u64 ((rounds32 (sched32 zs 48) (eight32 st) i).h)]) (fun (i : Nat) => 64 - i) 0 (by repeat first | exact trivial | exact And.intro rfl trivial | refine And.intro rfl ?_ | refine And.intro (congrArg (fun z : Int => some (Value.int .i64 z)) (by omega)) ?_) ⟨Nat.zero_le _, hB, hL, hT, hA, k10, k64, k91, k134⟩ ?_
              clear hT hA k10 k64 k91 k134 hB hL
              rintro K137 i W138 ⟨hi, hB, hL, hT, hA, k10, k64, k91, k134⟩ hK137
              obtain ⟨ev, hev⟩ : ∃ e, e = (rounds32 (sched32 zs 48) (eight32 st) i) := ⟨_, rfl⟩
              rw [← hev] at k134
              have hokv := hok i
              rw [← hev] at hokv
              refine WC.seq fun K139 hK139 => ?_
              refine WC.seq fun K140 hK140 => ?_
              refine WC.region ?_
              refine WL.val (dx_move rfl rfl) rfl rfl ?_
              refine WL.val (dx_move rfl rfl) rfl rfl ?_
              refine WL.val (dx_lss rfl rfl rfl) rfl rfl ?_
              refine WL.nil ?_
              refine hK140 ?_
              refine WC.cond rfl (fun c141 => ?_) (fun c141 => ?_)
              ·
                replace c141 := of_decide_eq_true c141
                refine WC.skip ?_
                refine hK139 ?_
                refine WC.seq fun K142 hK142 => ?_
                refine WC.block ?_
                refine WC.seq fun K143 hK143 => ?_
                refine WC.drawM 35 ((some 158, .is (.pointer (some ⟨W113.heap.size, 7, none⟩))) :: (some 159, .is (.int .u64 ev.h)) :: (some 160, .is (.pointer (some ⟨W113.heap.size, 4, none⟩))) :: (some 161, .is (.int .u64 ev.e)) :: (some 162, .is (.pointer (some ⟨w.heap.size, 3, none⟩))) :: (some 163, .is (.agg #[.int .i64 6, .int .i64 11, .int .i64 25])) :: (some 164, .is (.int .i64 32)) :: (some 165, .is (.int .u64 (bigB32 ev.e))) :: (some 166, .is (.int .u64 ((ev.h + bigB32 ev.e) % 18446744073709551616))) :: (some 167, .is (.pointer (some ⟨W113.heap.size, 4, none⟩))) :: (some 168, .is (.int .u64 ev.e)) :: (some 169, .is (.pointer (some ⟨W113.heap.size, 5, none⟩))) :: (some 170, .is (.int .u64 ev.f)) :: (some 171, .is (.int .u64 (bits BinOp.and .u64 ev.e ev.f))) :: (some 172, .is (.pointer (some ⟨W113.heap.size, 4, none⟩))) :: (some 173, .is (.int .u64 ev.e)) :: (some 174, .is (.int .u64 (not64 ev.e))) :: (some 175, .is (.pointer (some ⟨W113.heap.size, 6, none⟩))) :: (some 176, .is (.int .u64 ev.g)) :: (some 177, .is (.int .u64 (bits BinOp.and .u64 (not64 ev.e) ev.g))) :: (some 178, .is (.int .u64 (bits BinOp.xor .u64 (bits BinOp.and .u64 ev.e ev.f) (bits BinOp.and .u64 (not64 ev.e) ev.g)))) :: (some 179, .is (.int .u64 (((ev.h + bigB32 ev.e) % 18446744073709551616 + bits BinOp.xor .u64 (bits BinOp.and .u64 ev.e ev.f) (bits BinOp.and .u64 (not64 ev.e) ev.g)) % 18446744073709551616))) :: (some 180, .is (.int .i64 (i : Int))) :: (some 181, .is (.pointer (some ⟨2, i, none⟩))) :: (some 182, .is (.int .u64 (at0 cubesL i))) :: (some 183, .is (.int .i64 32)) :: (some 184, .is (.int .i64 32)) :: (some 185, .is (.int .u64 32)) :: (some 186, .is (.int .u64 (at0 cubesL i / 4294967296))) :: (some 187, .is (.int .u64 ((((ev.h + bigB32 ev.e) % 18446744073709551616 + bits BinOp.xor .u64 (bits BinOp.and .u64 ev.e ev.f) (bits BinOp.and .u64 (not64 ev.e) ev.g)) % 18446744073709551616 + at0 cubesL i / 4294967296) % 18446744073709551616))) :: (some 188, .is (.int .i64 (i : Int))) :: (some 189, .is (.pointer (some ⟨W84.heap.size, i, none⟩))) :: (some 190, .is (.int .u64 (at0 (sched32 zs 48) i))) :: (some 191, .is (.int .u64 (((((ev.h + bigB32 ev.e) % 18446744073709551616 + bits BinOp.xor .u64 (bits BinOp.and .u64 ev.e ev.f) (bits BinOp.and .u64 (not64 ev.e) ev.g)) % 18446744073709551616 + at0 cubesL i / 4294967296) % 18446744073709551616 + at0 (sched32 zs 48) i) % 18446744073709551616))) :: (some 192, .is (.int .i64 32)) :: []) [[], [0], [], [2], [], [4], [], [3, 5, 6], [1, 7], [], [9], [], [11], [10, 12], [], [14], [15], [], [17], [16, 18], [13, 19], [8, 20], [], [22], [23], [], [25], [26], [24, 27], [21, 28], [], [30], [31], [29, 32], []] (by kernel_rfl) (by kernel_rfl) (by kernel_rfl) (by kernel_rfl) (by kernel_rfl) (by kernel_rfl) (by kernel_rfl) (by exact trivial) ?_ ?_
                ·
                  refine DSteps.cons (fun Wd hd => ?_) ?_
                  ·
                    exact DV.dr (dx_idxA (o1 := 7) rfl Tryd.underlying52 ty_size_49_1 rfl rfl (by decide) rfl) ⟨Below.refl _ _, rfl⟩
                  refine DSteps.cons (fun Wd hd => ?_) ?_
                  ·
                    have k134 := k134.below hd
                    exact DV.dr (dx_load rfl ty_one_49 rfl (k134.cell (k := 7) rfl)) ⟨Below.refl _ _, rfl⟩
                  refine DSteps.cons (fun Wd hd => ?_) ?_
                  ·
                    exact DV.dr (dx_idxA (o1 := 4) rfl Tryd.underlying52 ty_size_49_1 rfl rfl (by decide) rfl) ⟨Below.refl _ _, rfl⟩
                  refine DSteps.cons (fun Wd hd => ?_) ?_
                  ·
                    have k134 := k134.below hd
                    exact DV.dr (dx_load rfl ty_one_49 rfl (k134.cell (k := 4) rfl)) ⟨Below.refl _ _, rfl⟩
                  refine DSteps.cons (fun Wd hd => ?_) ?_
                  ·
                    exact DV.dr (dx_idxA (o1 := 3) rfl Tryd.underlying60 ty_size_59_3 rfl rfl (by decide) rfl) ⟨Below.refl _ _, rfl⟩
                  refine DSteps.cons (fun Wd hd => ?_) ?_
                  ·
                    have k10 := k10.below hd
                    exact DV.dr (dx_loadN (cs := [.int .i64 6, .int .i64 11, .int .i64 25]) rfl ty_agg_59_3 rfl (k10.part 3 3) rfl) ⟨Below.refl _ _, rfl⟩
                  refine DSteps.cons (fun Wd hd => ?_) ?_
                  ·
                    exact DV.dr (dx_move rfl rfl) ⟨Below.refl _ _, rfl⟩
                  refine DSteps.cons (fun Wd hd => ?_) ?_
                  ·
                    exact DR.mono (dx_cv rfl Tryd.func41 rfl rfl rfl ((show CV _ _ [_, _, _, _] _ (fun v _ => v = .int .u64 (bigB32 ev.e)) from cv_oldB (ref_mixfalse32_v ev.e 6 11 25 Wd hokv.2.2.2.2.1 (by decide) (by decide) (by decide))))) (fun v W' ⟨h, hb⟩ => ⟨hb, (by rw [h]; exact rfl)⟩)
                  refine DSteps.cons (fun Wd hd => ?_) ?_
                  ·
                    exact DV.dr (dx_add rfl rfl rfl (wrap_m _)) ⟨Below.refl _ _, rfl⟩
                  refine DSteps.cons (fun Wd hd => ?_) ?_
                  ·
                    exact DV.dr (dx_idxA (o1 := 4) rfl Tryd.underlying52 ty_size_49_1 rfl rfl (by decide) rfl) ⟨Below.refl _ _, rfl⟩
                  refine DSteps.cons (fun Wd hd => ?_) ?_
                  ·
                    have k134 := k134.below hd
                    exact DV.dr (dx_load rfl ty_one_49 rfl (k134.cell (k := 4) rfl)) ⟨Below.refl _ _, rfl⟩
                  refine DSteps.cons (fun Wd hd => ?_) ?_
                  ·
                    exact DV.dr (dx_idxA (o1 := 5) rfl Tryd.underlying52 ty_size_49_1 rfl rfl (by decide) rfl) ⟨Below.refl _ _, rfl⟩
                  refine DSteps.cons (fun Wd hd => ?_) ?_
                  ·
                    have k134 := k134.below hd
                    exact DV.dr (dx_load rfl ty_one_49 rfl (k134.cell (k := 5) rfl)) ⟨Below.refl _ _, rfl⟩
                  refine DSteps.cons (fun Wd hd => ?_) ?_
                  ·
                    exact DV.dr (dx_and_i (r := bits BinOp.and .u64 ev.e ev.f) rfl rfl rfl rfl) ⟨Below.refl _ _, rfl⟩
                  refine DSteps.cons (fun Wd hd => ?_) ?_
                  ·
                    exact DV.dr (dx_idxA (o1 := 4) rfl Tryd.underlying52 ty_size_49_1 rfl rfl (by decide) rfl) ⟨Below.refl _ _, rfl⟩
                  refine DSteps.cons (fun Wd hd => ?_) ?_
                  ·
                    have k134 := k134.below hd
                    exact DV.dr (dx_load rfl ty_one_49 rfl (k134.cell (k := 4) rfl)) ⟨Below.refl _ _, rfl⟩
                  refine DSteps.cons (fun Wd hd => ?_) ?_
                  ·
                    exact DV.dr (dx_unX rfl rfl) ⟨Below.refl _ _, rfl⟩
                  refine DSteps.cons (fun Wd hd => ?_) ?_
                  ·
                    exact DV.dr (dx_idxA (o1 := 6) rfl Tryd.underlying52 ty_size_49_1 rfl rfl (by decide) rfl) ⟨Below.refl _ _, rfl⟩
                  refine DSteps.cons (fun Wd hd => ?_) ?_
                  ·
                    have k134 := k134.below hd
                    exact DV.dr (dx_load rfl ty_one_49 rfl (k134.cell (k := 6) rfl)) ⟨Below.refl _ _, rfl⟩
                  refine DSteps.cons (fun Wd hd => ?_) ?_
                  ·
                    exact DV.dr (dx_and_i (r := bits BinOp.and .u64 (not64 ev.e) ev.g) rfl rfl rfl rfl) ⟨Below.refl _ _, rfl⟩
                  refine DSteps.cons (fun Wd hd => ?_) ?_
                  ·
                    exact DV.dr (dx_xor_i (r := bits BinOp.xor .u64 (bits BinOp.and .u64 ev.e ev.f) (bits BinOp.and .u64 (not64 ev.e) ev.g)) rfl rfl rfl rfl) ⟨Below.refl _ _, rfl⟩
                  refine DSteps.cons (fun Wd hd => ?_) ?_
                  ·
                    exact DV.dr (dx_add rfl rfl rfl (wrap_m _)) ⟨Below.refl _ _, rfl⟩
                  refine DSteps.cons (fun Wd hd => ?_) ?_
                  ·
                    exact DV.dr (dx_move rfl rfl) ⟨Below.refl _ _, rfl⟩
                  refine DSteps.cons (fun Wd hd => ?_) ?_
                  ·
                    exact DV.dr (dx_idxA (o1 := i) rfl Tryd.underlying61 ty_size_49_1 rfl rfl (by omega) (by first | (simp; done) | omega)) ⟨Below.refl _ _, rfl⟩
                  refine DSteps.cons (fun Wd hd => ?_) ?_
                  ·
                    have hT := hT.below hd
                    exact DV.dr (dx_load rfl ty_one_49 rfl (hT.1.ro i (by omega))) ⟨Below.refl _ _, rfl⟩
                  refine DSteps.cons (fun Wd hd => ?_) ?_
                  ·
                    exact DV.dr (dx_move rfl rfl) ⟨Below.refl _ _, rfl⟩
                  refine DSteps.cons (fun Wd hd => ?_) ?_
                  ·
                    exact DV.dr (dx_sub (r := 32) rfl rfl rfl (by decide)) ⟨Below.refl _ _, rfl⟩
                  refine DSteps.cons (fun Wd hd => ?_) ?_
                  ·
                    exact DV.dr (dx_conv (r := 32) rfl Tryd.underlying3 Tryd.underlying42 rfl (by decide)) ⟨Below.refl _ _, rfl⟩
                  refine DSteps.cons (fun Wd hd => ?_) ?_
                  ·
                    exact DV.dr (dx_shr (r := at0 cubesL i / 4294967296) rfl rfl rfl (by decide) (by decide) rfl) ⟨Below.refl _ _, rfl⟩
                  refine DSteps.cons (fun Wd hd => ?_) ?_
                  ·
                    exact DV.dr (dx_add rfl rfl rfl (wrap_m _)) ⟨Below.refl _ _, rfl⟩
                  refine DSteps.cons (fun Wd hd => ?_) ?_
                  ·
                    exact DV.dr (dx_move rfl rfl) ⟨Below.refl _ _, rfl⟩
                  refine DSteps.cons (fun Wd hd => ?_) ?_
                  ·
                    exact DV.dr (dx_idxA (o1 := i) rfl Tryd.underlying61 ty_size_49_1 rfl rfl (by omega) (by first | (simp; done) | omega)) ⟨Below.refl _ _, rfl⟩
                  refine DSteps.cons (fun Wd hd => ?_) ?_
                  ·
                    have k91 := k91.below hd
                    exact DV.dr (dx_load rfl ty_one_49 rfl (k91.cell (k := i) (cellU (by rw [show (sched32 zs 48).length = 80 from (sched32_len _ _)]; exact (by omega))))) ⟨Below.refl _ _, rfl⟩
                  refine DSteps.cons (fun Wd hd => ?_) ?_
                  ·
                    exact DV.dr (dx_add rfl rfl rfl (wrap_m _)) ⟨Below.refl _ _, rfl⟩
                  refine DSteps.cons (fun Wd hd => ?_) ?_
                  ·
                    exact DV.dr (dx_move rfl rfl) ⟨Below.refl _ _, rfl⟩
                  exact trivial
                ·
                  intro W144 b145
                  replace hT := hT.below b145
                  replace hA := hA.below b145
                  replace k10 := k10.below b145
                  replace k64 := k64.below b145
                  replace k91 := k91.below b145
                  replace k134 := k134.below b145
                  replace hB := below_then hB b145
                  replace hL := LL.below hL b145
                  refine WL.get (dx_cv rfl Tryd.func40 rfl rfl rfl ((show CV _ _ [_, _] _ (fun v _ => v = .int .u64 (tt32 (sched32 zs 48) i ev)) from CV.mono (cv_old (ref_cut32_v (((((ev.h + bigB32 ev.e) % 18446744073709551616 + bits BinOp.xor .u64 (bits BinOp.and .u64 ev.e ev.f) (bits BinOp.and .u64 (not64 ev.e) ev.g)) % 18446744073709551616 + at0 cubesL i / 4294967296) % 18446744073709551616 + at0 (sched32 zs 48) i) % 18446744073709551616) W144 (mod_in _))) fun v _ _ h => h.trans (congrArg (Value.int .u64) (show ((((ev.h + bigB32 ev.e) % 18446744073709551616 + bits BinOp.xor .u64 (bits BinOp.and .u64 ev.e ev.f) (bits BinOp.and .u64 (not64 ev.e) ev.g)) % 18446744073709551616 + at0 cubesL i / 4294967296) % 18446744073709551616 + at0 (sched32 zs 48) i) % 18446744073709551616 % 4294967296 = tt32 (sched32 zs 48) i ev from t32_eq (sched32 zs 48) i ev hokv))))) rfl rfl ?_
                  rintro _ W147 ⟨rfl, b146⟩
                  replace hT := hT.below b146
                  replace hA := hA.below b146
                  replace k10 := k10.below b146
                  replace k64 := k64.below b146
                  replace k91 := k91.below b146
                  replace k134 := k134.below b146
                  replace hB := below_then hB b146
                  replace hL := LL.below hL b146
                  refine WL.val (dx_assign rfl rfl) rfl rfl ?_
                  refine WL.nil ?_
                  refine hK143 ?_
                  refine WC.seq fun K148 hK148 => ?_
                  refine WC.drawM 25 [(some 194, .is (.pointer (some ⟨W113.heap.size, 0, none⟩))), (some 195, .is (.int .u64 ev.a)), (some 196, .is (.pointer (some ⟨w.heap.size, 0, none⟩))), (some 197, .is (.agg #[.int .i64 2, .int .i64 13, .int .i64 22])), (some 198, .is (.int .i64 32)), (some 199, .is (.int .u64 (bigA32 ev.a))), (some 200, .is (.pointer (some ⟨W113.heap.size, 0, none⟩))), (some 201, .is (.int .u64 ev.a)), (some 202, .is (.pointer (some ⟨W113.heap.size, 1, none⟩))), (some 203, .is (.int .u64 ev.b)), (some 204, .is (.int .u64 (bits BinOp.and .u64 ev.a ev.b))), (some 205, .is (.pointer (some ⟨W113.heap.size, 0, none⟩))), (some 206, .is (.int .u64 ev.a)), (some 207, .is (.pointer (some ⟨W113.heap.size, 2, none⟩))), (some 208, .is (.int .u64 ev.c)), (some 209, .is (.int .u64 (bits BinOp.and .u64 ev.a ev.c))), (some 210, .is (.int .u64 (bits BinOp.xor .u64 (bits BinOp.and .u64 ev.a ev.b) (bits BinOp.and .u64 ev.a ev.c)))), (some 211, .is (.pointer (some ⟨W113.heap.size, 1, none⟩))), (some 212, .is (.int .u64 ev.b)), (some 213, .is (.pointer (some ⟨W113.heap.size, 2, none⟩))), (some 214, .is (.int .u64 ev.c)), (some 215, .is (.int .u64 (bits BinOp.and .u64 ev.b ev.c))), (some 216, .is (.int .u64 (bits BinOp.xor .u64 (bits BinOp.xor .u64 (bits BinOp.and .u64 ev.a ev.b) (bits BinOp.and .u64 ev.a ev.c)) (bits BinOp.and .u64 ev.b ev.c)))), (some 217, .is (.int .u64 ((bigA32 ev.a + bits BinOp.xor .u64 (bits BinOp.xor .u64 (bits BinOp.and .u64 ev.a ev.b) (bits BinOp.and .u64 ev.a ev.c)) (bits BinOp.and .u64 ev.b ev.c)) % 18446744073709551616))), (some 218, .is (.int .i64 32))] [[], [0], [], [2], [], [1, 3, 4], [], [6], [], [8], [7, 9], [], [11], [], [13], [12, 14], [10, 15], [], [17], [], [19], [18, 20], [16, 21], [5, 22], []] (by kernel_rfl) (by kernel_rfl) (by kernel_rfl) (by kernel_rfl) (by kernel_rfl) (by kernel_rfl) (by kernel_rfl) (by exact trivial) ?_ ?_
                  ·
                    refine DSteps.cons (fun Wd hd => ?_) ?_
                    ·
                      exact DV.dr (dx_idxA (o1 := 0) rfl Tryd.underlying52 ty_size_49_1 rfl rfl (by decide) rfl) ⟨Below.refl _ _, rfl⟩
                    refine DSteps.cons (fun Wd hd => ?_) ?_
                    ·
                      have k134 := k134.below hd
                      exact DV.dr (dx_load rfl ty_one_49 rfl (k134.cell (k := 0) rfl)) ⟨Below.refl _ _, rfl⟩
                    refine DSteps.cons (fun Wd hd => ?_) ?_
                    ·
                      exact DV.dr (dx_idxA (o1 := 0) rfl Tryd.underlying60 ty_size_59_3 rfl rfl (by decide) rfl) ⟨Below.refl _ _, rfl⟩
                    refine DSteps.cons (fun Wd hd => ?_) ?_
                    ·
                      have k10 := k10.below hd
                      exact DV.dr (dx_loadN (cs := [.int .i64 2, .int .i64 13, .int .i64 22]) rfl ty_agg_59_3 rfl (k10.part 0 3) rfl) ⟨Below.refl _ _, rfl⟩
                    refine DSteps.cons (fun Wd hd => ?_) ?_
                    ·
                      exact DV.dr (dx_move rfl rfl) ⟨Below.refl _ _, rfl⟩
                    refine DSteps.cons (fun Wd hd => ?_) ?_
                    ·
                      exact DR.mono (dx_cv rfl Tryd.func41 rfl rfl rfl ((show CV _ _ [_, _, _, _] _ (fun v _ => v = .int .u64 (bigA32 ev.a)) from cv_oldB (ref_mixfalse32_v ev.a 2 13 22 Wd hokv.1 (by decide) (by decide) (by decide))))) (fun v W' ⟨h, hb⟩ => ⟨hb, (by rw [h]; exact rfl)⟩)
                    refine DSteps.cons (fun Wd hd => ?_) ?_
                    ·
                      exact DV.dr (dx_idxA (o1 := 0) rfl Tryd.underlying52 ty_size_49_1 rfl rfl (by decide) rfl) ⟨Below.refl _ _, rfl⟩
                    refine DSteps.cons (fun Wd hd => ?_) ?_
                    ·
                      have k134 := k134.below hd
                      exact DV.dr (dx_load rfl ty_one_49 rfl (k134.cell (k := 0) rfl)) ⟨Below.refl _ _, rfl⟩
                    refine DSteps.cons (fun Wd hd => ?_) ?_
                    ·
                      exact DV.dr (dx_idxA (o1 := 1) rfl Tryd.underlying52 ty_size_49_1 rfl rfl (by decide) rfl) ⟨Below.refl _ _, rfl⟩
                    refine DSteps.cons (fun Wd hd => ?_) ?_
                    ·
                      have k134 := k134.below hd
                      exact DV.dr (dx_load rfl ty_one_49 rfl (k134.cell (k := 1) rfl)) ⟨Below.refl _ _, rfl⟩
                    refine DSteps.cons (fun Wd hd => ?_) ?_
                    ·
                      exact DV.dr (dx_and_i (r := bits BinOp.and .u64 ev.a ev.b) rfl rfl rfl rfl) ⟨Below.refl _ _, rfl⟩
                    refine DSteps.cons (fun Wd hd => ?_) ?_
                    ·
                      exact DV.dr (dx_idxA (o1 := 0) rfl Tryd.underlying52 ty_size_49_1 rfl rfl (by decide) rfl) ⟨Below.refl _ _, rfl⟩
                    refine DSteps.cons (fun Wd hd => ?_) ?_
                    ·
                      have k134 := k134.below hd
                      exact DV.dr (dx_load rfl ty_one_49 rfl (k134.cell (k := 0) rfl)) ⟨Below.refl _ _, rfl⟩
                    refine DSteps.cons (fun Wd hd => ?_) ?_
                    ·
                      exact DV.dr (dx_idxA (o1 := 2) rfl Tryd.underlying52 ty_size_49_1 rfl rfl (by decide) rfl) ⟨Below.refl _ _, rfl⟩
                    refine DSteps.cons (fun Wd hd => ?_) ?_
                    ·
                      have k134 := k134.below hd
                      exact DV.dr (dx_load rfl ty_one_49 rfl (k134.cell (k := 2) rfl)) ⟨Below.refl _ _, rfl⟩
                    refine DSteps.cons (fun Wd hd => ?_) ?_
                    ·
                      exact DV.dr (dx_and_i (r := bits BinOp.and .u64 ev.a ev.c) rfl rfl rfl rfl) ⟨Below.refl _ _, rfl⟩
                    refine DSteps.cons (fun Wd hd => ?_) ?_
                    ·
                      exact DV.dr (dx_xor_i (r := bits BinOp.xor .u64 (bits BinOp.and .u64 ev.a ev.b) (bits BinOp.and .u64 ev.a ev.c)) rfl rfl rfl rfl) ⟨Below.refl _ _, rfl⟩
                    refine DSteps.cons (fun Wd hd => ?_) ?_
                    ·
                      exact DV.dr (dx_idxA (o1 := 1) rfl Tryd.underlying52 ty_size_49_1 rfl rfl (by decide) rfl) ⟨Below.refl _ _, rfl⟩
                    refine DSteps.cons (fun Wd hd => ?_) ?_
                    ·
                      have k134 := k134.below hd
                      exact DV.dr (dx_load rfl ty_one_49 rfl (k134.cell (k := 1) rfl)) ⟨Below.refl _ _, rfl⟩
                    refine DSteps.cons (fun Wd hd => ?_) ?_
                    ·
                      exact DV.dr (dx_idxA (o1 := 2) rfl Tryd.underlying52 ty_size_49_1 rfl rfl (by decide) rfl) ⟨Below.refl _ _, rfl⟩
                    refine DSteps.cons (fun Wd hd => ?_) ?_
                    ·
                      have k134 := k134.below hd
                      exact DV.dr (dx_load rfl ty_one_49 rfl (k134.cell (k := 2) rfl)) ⟨Below.refl _ _, rfl⟩
                    refine DSteps.cons (fun Wd hd => ?_) ?_
                    ·
                      exact DV.dr (dx_and_i (r := bits BinOp.and .u64 ev.b ev.c) rfl rfl rfl rfl) ⟨Below.refl _ _, rfl⟩
                    refine DSteps.cons (fun Wd hd => ?_) ?_
                    ·
                      exact DV.dr (dx_xor_i (r := bits BinOp.xor .u64 (bits BinOp.xor .u64 (bits BinOp.and .u64 ev.a ev.b) (bits BinOp.and .u64 ev.a ev.c)) (bits BinOp.and .u64 ev.b ev.c)) rfl rfl rfl rfl) ⟨Below.refl _ _, rfl⟩
                    refine DSteps.cons (fun Wd hd => ?_) ?_
                    ·
                      exact DV.dr (dx_add rfl rfl rfl (wrap_m _)) ⟨Below.refl _ _, rfl⟩
                    refine DSteps.cons (fun Wd hd => ?_) ?_
                    ·
                      exact DV.dr (dx_move rfl rfl) ⟨Below.refl _ _, rfl⟩
                    exact trivial
                  ·
                    intro W149 b150
                    replace hT := hT.below b150
                    replace hA := hA.below b150
                    replace k10 := k10.below b150
                    replace k64 := k64.below b150
                    replace k91 := k91.below b150
                    replace k134 := k134.below b150
                    replace hB := below_then hB b150
                    replace hL := LL.below hL b150
                    refine WL.get (dx_cv rfl Tryd.func40 rfl rfl rfl ((show CV _ _ [_, _] _ (fun v _ => v = .int .u64 (uu32 ev)) from CV.mono (cv_old (ref_cut32_v ((bigA32 ev.a + bits BinOp.xor .u64 (bits BinOp.xor .u64 (bits BinOp.and .u64 ev.a ev.b) (bits BinOp.and .u64 ev.a ev.c)) (bits BinOp.and .u64 ev.b ev.c)) % 18446744073709551616) W149 (mod_in _))) fun v _ _ h => h.trans (congrArg (Value.int .u64) (show (bigA32 ev.a + bits BinOp.xor .u64 (bits BinOp.xor .u64 (bits BinOp.and .u64 ev.a ev.b) (bits BinOp.and .u64 ev.a ev.c)) (bits BinOp.and .u64 ev.b ev.c)) % 18446744073709551616 % 4294967296 = uu32 ev from u32_eq ev hokv))))) rfl rfl ?_
                    rintro _ W152 ⟨rfl, b151⟩
                    replace hT := hT.below b151
                    replace hA := hA.below b151
                    replace k10 := k10.below b151
                    replace k64 := k64.below b151
                    replace k91 := k91.below b151
                    replace k134 := k134.below b151
                    replace hB := below_then hB b151
                    replace hL := LL.below hL b151
                    refine WL.val (dx_assign rfl rfl) rfl rfl ?_
                    refine WL.nil ?_
                    refine hK148 ?_
                    refine WC.drawM 23 [(some 220, .is (.int .u64 (tt32 (sched32 zs 48) i ev))), (some 221, .is (.int .u64 (uu32 ev))), (some 222, .is (.int .u64 ((tt32 (sched32 zs 48) i ev + uu32 ev) % 18446744073709551616))), (some 223, .is (.int .i64 32)), (some 224, .is (.int .u64 ((tt32 (sched32 zs 48) i ev + uu32 ev) % 4294967296))), (some 225, .is (.pointer (some ⟨W113.heap.size, 0, none⟩))), (some 226, .is (.int .u64 ev.a)), (some 227, .is (.pointer (some ⟨W113.heap.size, 1, none⟩))), (some 228, .is (.int .u64 ev.b)), (some 229, .is (.pointer (some ⟨W113.heap.size, 2, none⟩))), (some 230, .is (.int .u64 ev.c)), (some 231, .is (.pointer (some ⟨W113.heap.size, 3, none⟩))), (some 232, .is (.int .u64 ev.d)), (some 233, .is (.int .u64 (tt32 (sched32 zs 48) i ev))), (some 234, .is (.int .u64 ((ev.d + tt32 (sched32 zs 48) i ev) % 18446744073709551616))), (some 235, .is (.int .i64 32)), (some 236, .is (.int .u64 ((ev.d + tt32 (sched32 zs 48) i ev) % 4294967296))), (some 237, .is (.pointer (some ⟨W113.heap.size, 4, none⟩))), (some 238, .is (.int .u64 ev.e)), (some 239, .is (.pointer (some ⟨W113.heap.size, 5, none⟩))), (some 240, .is (.int .u64 ev.f)), (some 241, .is (.pointer (some ⟨W113.heap.size, 6, none⟩))), (some 242, .is (.int .u64 ev.g))] [[], [], [0, 1], [], [2, 3], [], [5], [], [7], [], [9], [], [11], [], [12, 13], [], [14, 15, 4], [], [17], [], [19], [], [21]] (by kernel_rfl) (by kernel_rfl) (by kernel_rfl) (by kernel_rfl) (by kernel_rfl) (by kernel_rfl) (by kernel_rfl) (by exact trivial) ?_ ?_
                    ·
                      refine DSteps.cons (fun Wd hd => ?_) ?_
                      ·
                        exact DV.dr (dx_move rfl rfl) ⟨Below.refl _ _, rfl⟩
                      refine DSteps.cons (fun Wd hd => ?_) ?_
                      ·
                        exact DV.dr (dx_move rfl rfl) ⟨Below.refl _ _, rfl⟩
                      refine DSteps.cons (fun Wd hd => ?_) ?_
                      ·
                        exact DV.dr (dx_add rfl rfl rfl (wrap_m _)) ⟨Below.refl _ _, rfl⟩
                      refine DSteps.cons (fun Wd hd => ?_) ?_
                      ·
                        exact DV.dr (dx_move rfl rfl) ⟨Below.refl _ _, rfl⟩
                      refine DSteps.cons (fun Wd hd => ?_) ?_
                      ·
                        exact DR.mono (dx_cv rfl Tryd.func40 rfl rfl rfl ((show CV _ _ [_, _] _ (fun v _ => v = .int .u64 ((tt32 (sched32 zs 48) i ev + uu32 ev) % 4294967296)) from CV.mono (cv_old (ref_cut32_v ((tt32 (sched32 zs 48) i ev + uu32 ev) % 18446744073709551616) Wd (mod_in _))) fun v _ _ h => h.trans (congrArg (Value.int .u64) (show (tt32 (sched32 zs 48) i ev + uu32 ev) % 18446744073709551616 % 4294967296 = (tt32 (sched32 zs 48) i ev + uu32 ev) % 4294967296 from cut_add32 _ _))))) (fun v W' ⟨h, hb⟩ => ⟨hb, (by rw [h]; exact rfl)⟩)
                      refine DSteps.cons (fun Wd hd => ?_) ?_
                      ·
                        exact DV.dr (dx_idxA (o1 := 0) rfl Tryd.underlying52 ty_size_49_1 rfl rfl (by decide) rfl) ⟨Below.refl _ _, rfl⟩
                      refine DSteps.cons (fun Wd hd => ?_) ?_
                      ·
                        have k134 := k134.below hd
                        exact DV.dr (dx_load rfl ty_one_49 rfl (k134.cell (k := 0) rfl)) ⟨Below.refl _ _, rfl⟩
                      refine DSteps.cons (fun Wd hd => ?_) ?_
                      ·
                        exact DV.dr (dx_idxA (o1 := 1) rfl Tryd.underlying52 ty_size_49_1 rfl rfl (by decide) rfl) ⟨Below.refl _ _, rfl⟩
                      refine DSteps.cons (fun Wd hd => ?_) ?_
                      ·
                        have k134 := k134.below hd
                        exact DV.dr (dx_load rfl ty_one_49 rfl (k134.cell (k := 1) rfl)) ⟨Below.refl _ _, rfl⟩
                      refine DSteps.cons (fun Wd hd => ?_) ?_
                      ·
                        exact DV.dr (dx_idxA (o1 := 2) rfl Tryd.underlying52 ty_size_49_1 rfl rfl (by decide) rfl) ⟨Below.refl _ _, rfl⟩
                      refine DSteps.cons (fun Wd hd => ?_) ?_
                      ·
                        have k134 := k134.below hd
                        exact DV.dr (dx_load rfl ty_one_49 rfl (k134.cell (k := 2) rfl)) ⟨Below.refl _ _, rfl⟩
                      refine DSteps.cons (fun Wd hd => ?_) ?_
                      ·
                        exact DV.dr (dx_idxA (o1 := 3) rfl Tryd.underlying52 ty_size_49_1 rfl rfl (by decide) rfl) ⟨Below.refl _ _, rfl⟩
                      refine DSteps.cons (fun Wd hd => ?_) ?_
                      ·
                        have k134 := k134.below hd
                        exact DV.dr (dx_load rfl ty_one_49 rfl (k134.cell (k := 3) rfl)) ⟨Below.refl _ _, rfl⟩
                      refine DSteps.cons (fun Wd hd => ?_) ?_
                      ·
                        exact DV.dr (dx_move rfl rfl) ⟨Below.refl _ _, rfl⟩
                      refine DSteps.cons (fun Wd hd => ?_) ?_
                      ·
                        exact DV.dr (dx_add rfl rfl rfl (wrap_m _)) ⟨Below.refl _ _, rfl⟩
                      refine DSteps.cons (fun Wd hd => ?_) ?_
                      ·
                        exact DV.dr (dx_move rfl rfl) ⟨Below.refl _ _, rfl⟩
                      refine DSteps.cons (fun Wd hd => ?_) ?_
                      ·
                        exact DR.mono (dx_cv rfl Tryd.func40 rfl rfl rfl ((show CV _ _ [_, _] _ (fun v _ => v = .int .u64 ((ev.d + tt32 (sched32 zs 48) i ev) % 4294967296)) from CV.mono (cv_old (ref_cut32_v ((ev.d + tt32 (sched32 zs 48) i ev) % 18446744073709551616) Wd (mod_in _))) fun v _ _ h => h.trans (congrArg (Value.int .u64) (show (ev.d + tt32 (sched32 zs 48) i ev) % 18446744073709551616 % 4294967296 = (ev.d + tt32 (sched32 zs 48) i ev) % 4294967296 from cut_add32 _ _))))) (fun v W' ⟨h, hb⟩ => ⟨hb, (by rw [h]; exact rfl)⟩)
                      refine DSteps.cons (fun Wd hd => ?_) ?_
                      ·
                        exact DV.dr (dx_idxA (o1 := 4) rfl Tryd.underlying52 ty_size_49_1 rfl rfl (by decide) rfl) ⟨Below.refl _ _, rfl⟩
                      refine DSteps.cons (fun Wd hd => ?_) ?_
                      ·
                        have k134 := k134.below hd
                        exact DV.dr (dx_load rfl ty_one_49 rfl (k134.cell (k := 4) rfl)) ⟨Below.refl _ _, rfl⟩
                      refine DSteps.cons (fun Wd hd => ?_) ?_
                      ·
                        exact DV.dr (dx_idxA (o1 := 5) rfl Tryd.underlying52 ty_size_49_1 rfl rfl (by decide) rfl) ⟨Below.refl _ _, rfl⟩
                      refine DSteps.cons (fun Wd hd => ?_) ?_
                      ·
                        have k134 := k134.below hd
                        exact DV.dr (dx_load rfl ty_one_49 rfl (k134.cell (k := 5) rfl)) ⟨Below.refl _ _, rfl⟩
                      refine DSteps.cons (fun Wd hd => ?_) ?_
                      ·
                        exact DV.dr (dx_idxA (o1 := 6) rfl Tryd.underlying52 ty_size_49_1 rfl rfl (by decide) rfl) ⟨Below.refl _ _, rfl⟩
                      refine DSteps.cons (fun Wd hd => ?_) ?_
                      ·
                        have k134 := k134.below hd
                        exact DV.dr (dx_load rfl ty_one_49 rfl (k134.cell (k := 6) rfl)) ⟨Below.refl _ _, rfl⟩
                      exact trivial
                    ·
                      intro W153 b154
                      replace hT := hT.below b154
                      replace hA := hA.below b154
                      replace k10 := k10.below b154
                      replace k64 := k64.below b154
                      replace k91 := k91.below b154
                      replace k134 := k134.below b154
                      replace hB := below_then hB b154
                      replace hL := LL.below hL b154
                      refine WL.val (dx_build rfl rfl (bld_8 _ _ _ _ _ _ _ _)) rfl rfl ?_
                      refine WL.do (dx_store (cs' := [.int .u64 ((tt32 (sched32 zs 48) i ev + uu32 ev) % 4294967296), .int .u64 ev.a, .int .u64 ev.b, .int .u64 ev.c, .int .u64 ((ev.d + tt32 (sched32 zs 48) i ev) % 4294967296), .int .u64 ev.e, .int .u64 ev.f, .int .u64 ev.g]) (vs := [.int .u64 ((tt32 (sched32 zs 48) i ev + uu32 ev) % 4294967296), .int .u64 ev.a, .int .u64 ev.b, .int .u64 ev.c, .int .u64 ((ev.d + tt32 (sched32 zs 48) i ev) % 4294967296), .int .u64 ev.e, .int .u64 ev.f, .int .u64 ev.g]) rfl ty_size_52_8 rfl rfl rfl (oc_cons rfl (oc_cons rfl (oc_cons rfl (oc_cons rfl (oc_cons rfl (oc_cons rfl (oc_cons rfl (oc_cons rfl oc_nil)))))))) k134 rfl (Nat.le_of_ble_eq_true rfl) rfl) rfl ?_
                      rintro _ W155 ⟨k157, o156⟩
                      replace k10 := k10.other o156 n128
                      replace k64 := k64.other o156 n129
                      replace k91 := k91.other o156 n130
                      clear k134
                      replace hT := hT.only o156 (.head _)
                      replace hA := hA.only o156 (.head _)
                      replace hB := o156.below hB l131
                      replace hL := LL.only hL o156
                      refine WL.nil ?_
                      refine hK142 ?_
                      refine WC.region ?_
                      refine WL.val (dx_move rfl rfl) rfl rfl ?_
                      refine WL.val (dx_add (r := (i : Int) + 1) rfl rfl rfl (wrap64_id (by omega))) rfl rfl ?_
                      refine WL.val (dx_assign rfl rfl) rfl rfl ?_
                      refine WL.nil ?_
                      replace k157 : Blk W155 W113.heap.size [.int .u64 (rounds32 (sched32 zs 48) (eight32 st) (i + 1)).a, .int .u64 (rounds32 (sched32 zs 48) (eight32 st) (i + 1)).b, .int .u64 (rounds32 (sched32 zs 48) (eight32 st) (i + 1)).c, .int .u64 (rounds32 (sched32 zs 48) (eight32 st) (i + 1)).d, .int .u64 (rounds32 (sched32 zs 48) (eight32 st) (i + 1)).e, .int .u64 (rounds32 (sched32 zs 48) (eight32 st) (i + 1)).f, .int .u64 (rounds32 (sched32 zs 48) (eight32 st) (i + 1)).g, .int .u64 (rounds32 (sched32 zs 48) (eight32 st) (i + 1)).h] := by show Blk _ _ [.int .u64 (round32 (sched32 zs 48) i (rounds32 (sched32 zs 48) (eight32 st) i)).a, .int .u64 (round32 (sched32 zs 48) i (rounds32 (sched32 zs 48) (eight32 st) i)).b, .int .u64 (round32 (sched32 zs 48) i (rounds32 (sched32 zs 48) (eight32 st) i)).c, .int .u64 (round32 (sched32 zs 48) i (rounds32 (sched32 zs 48) (eight32 st) i)).d, .int .u64 (round32 (sched32 zs 48) i (rounds32 (sched32 zs 48) (eight32 st) i)).e, .int .u64 (round32 (sched32 zs 48) i (rounds32 (sched32 zs 48) (eight32 st) i)).f, .int .u64 (round32 (sched32 zs 48) i (rounds32 (sched32 zs 48) (eight32 st) i)).g, .int .u64 (round32 (sched32 zs 48) i (rounds32 (sched32 zs 48) (eight32 st) i)).h]; rw [← hev]; exact k157
                      exact hK137 (i + 1) ⟨(by omega), hB, hL, hT, hA, k10, k64, k91, k157⟩ (by omega) (by repeat first | exact trivial | exact And.intro rfl trivial | refine And.intro rfl ?_ | refine And.intro (congrArg (fun z : Int => some (Value.int .i64 z)) (by omega)) ?_)
              ·
                replace c141 := of_decide_eq_false c141
                refine WC.exit ?_
                refine hK135 ?_
                refine WC.seq fun K158 hK158 => ?_
                refine WC.region ?_
                refine WL.val (dx_assign rfl rfl) rfl rfl ?_
                refine WL.nil ?_
                refine hK158 ?_
                refine WC.block ?_
                have hi7 : i = 64 := by omega
                subst hi7
                replace k134 : Blk W138 W113.heap.size (encU ev.list) := k134
                rw [hev] at k134
                replace k64 : Blk W138 W49.heap.size (encU ((take32 st zs).take 0 ++ st.drop 0)) := by rw [List.take_zero, List.drop_zero, List.nil_append]; exact k64
                refine WC.loop (fun (i : Nat) => [(1, .int .i64 32), (5, .pointer (some ⟨w.heap.size, 0, none⟩)), (6, .int .i64 64), (7, ov2), (10, .pointer (some ⟨W49.heap.size, 0, none⟩)), (12, .int .i64 4), (13, .int .i64 ((q * 64 : Nat) : Int)), (17, .pointer (some ⟨W113.heap.size, 0, none⟩)), (21, .int .i64 (i : Int))]) (fun (i : Nat) W => i ≤ 8 ∧ Below w.heap.size w W ∧ LL (W113.heap.size :: W84.heap.size :: W49.heap.size :: w.heap.size :: L) W ∧ TabL (W113.heap.size :: W84.heap.size :: W49.heap.size :: w.heap.size :: L) W ∧ RdF 1 (W113.heap.size :: W84.heap.size :: W49.heap.size :: w.heap.size :: L) W ov2 ((full32 D).map e8) ∧ Blk W w.heap.size [.int .i64 2, .int .i64 13, .int .i64 22, .int .i64 6, .int .i64 11, .int .i64 25, .int .i64 7, .int .i64 18, .int .i64 3, .int .i64 17, .int .i64 19, .int .i64 10] ∧ Blk W W49.heap.size (encU ((take32 st zs).take i ++ st.drop i)) ∧ Blk W W84.heap.size (encU (sched32 zs 48)) ∧ Blk W W113.heap.size (encU ((rounds32 (sched32 zs 48) (eight32 st) 64).list))) (fun (i : Nat) => 8 - i) 0 (by repeat first | exact trivial | exact And.intro rfl trivial | refine And.intro rfl ?_ | refine And.intro (congrArg (fun z : Int => some (Value.int .i64 z)) (by omega)) ?_) ⟨Nat.zero_le _, hB, hL, hT, hA, k10, k64, k91, k134⟩ ?_
                clear hT hA k10 k64 k91 k134 hB hL
                rintro K159 i W160 ⟨hi, hB, hL, hT, hA, k10, k64, k91, k134⟩ hK159
                refine WC.seq fun K161 hK161 => ?_
                refine WC.seq fun K162 hK162 => ?_
                refine WC.region ?_
                refine WL.val (dx_move rfl rfl) rfl rfl ?_
                refine WL.val (dx_lss rfl rfl rfl) rfl rfl ?_
                refine WL.nil ?_
                refine hK162 ?_
                refine WC.cond rfl (fun c163 => ?_) (fun c163 => ?_)
                ·
                  replace c163 := of_decide_eq_true c163
                  refine WC.skip ?_
                  refine hK161 ?_
                  refine WC.seq fun K164 hK164 => ?_
                  refine WC.block ?_
                  refine WC.drawM 10 [(some 248, .is (.int .i64 (i : Int))), (some 249, .is (.int .i64 (i : Int))), (some 250, .is (.pointer (some ⟨W49.heap.size, i, none⟩))), (some 251, .is (.int .u64 (at0 ((take32 st zs).take i ++ st.drop i) i))), (some 252, .is (.int .i64 (i : Int))), (some 253, .is (.pointer (some ⟨W113.heap.size, i, none⟩))), (some 254, .is (.int .u64 (at0 ((rounds32 (sched32 zs 48) (eight32 st) 64).list) i))), (some 255, .is (.int .u64 ((at0 ((take32 st zs).take i ++ st.drop i) i + at0 ((rounds32 (sched32 zs 48) (eight32 st) 64).list) i) % 18446744073709551616))), (some 256, .is (.int .i64 32)), (some 257, .is (.int .u64 (at0 (take32 st zs) i)))] [[], [], [1], [2], [], [4], [5], [3, 6], [], [7, 8]] (by kernel_rfl) (by kernel_rfl) (by kernel_rfl) (by kernel_rfl) (by kernel_rfl) (by kernel_rfl) (by kernel_rfl) (by exact trivial) ?_ ?_
                  ·
                    refine DSteps.cons (fun Wd hd => ?_) ?_
                    ·
                      exact DV.dr (dx_move rfl rfl) ⟨Below.refl _ _, rfl⟩
                    refine DSteps.cons (fun Wd hd => ?_) ?_
                    ·
                      exact DV.dr (dx_move rfl rfl) ⟨Below.refl _ _, rfl⟩
                    refine DSteps.cons (fun Wd hd => ?_) ?_
                    ·
                      exact DV.dr (dx_idxA (o1 := i) rfl Tryd.underlying52 ty_size_49_1 rfl rfl (by omega) (by first | (simp; done) | omega)) ⟨Below.refl _ _, rfl⟩
                    refine DSteps.cons (fun Wd hd => ?_) ?_
                    ·
                      have k64 := k64.below hd
                      exact DV.dr (dx_load rfl ty_one_49 rfl (k64.cell (k := i) (cellU (by rw [show ((take32 st zs).take i ++ st.drop i).length = 8 from (mixl_len (take32_len _ _) hsl hi)]; exact (by omega))))) ⟨Below.refl _ _, rfl⟩
                    refine DSteps.cons (fun Wd hd => ?_) ?_
                    ·
                      exact DV.dr (dx_move rfl rfl) ⟨Below.refl _ _, rfl⟩
                    refine DSteps.cons (fun Wd hd => ?_) ?_
                    ·
                      exact DV.dr (dx_idxA (o1 := i) rfl Tryd.underlying52 ty_size_49_1 rfl rfl (by omega) (by first | (simp; done) | omega)) ⟨Below.refl _ _, rfl⟩
                    refine DSteps.cons (fun Wd hd => ?_) ?_
                    ·
                      have k134 := k134.below hd
                      exact DV.dr (dx_load rfl ty_one_49 rfl (k134.cell (k := i) (cellU (by rw [show ((rounds32 (sched32 zs 48) (eight32 st) 64).list).length = 8 from rfl]; exact (by omega))))) ⟨Below.refl _ _, rfl⟩
                    refine DSteps.cons (fun Wd hd => ?_) ?_
                    ·
                      exact DV.dr (dx_add rfl rfl rfl (wrap_m _)) ⟨Below.refl _ _, rfl⟩
                    refine DSteps.cons (fun Wd hd => ?_) ?_
                    ·
                      exact DV.dr (dx_move rfl rfl) ⟨Below.refl _ _, rfl⟩
                    refine DSteps.cons (fun Wd hd => ?_) ?_
                    ·
                      exact DR.mono (dx_cv rfl Tryd.func40 rfl rfl rfl ((show CV _ _ [_, _] _ (fun v _ => v = .int .u64 (at0 (take32 st zs) i)) from CV.mono (cv_old (ref_cut32_v ((at0 ((take32 st zs).take i ++ st.drop i) i + at0 ((rounds32 (sched32 zs 48) (eight32 st) 64).list) i) % 18446744073709551616) Wd (mod_in _))) fun v _ _ h => h.trans (congrArg (Value.int .u64) (show (at0 ((take32 st zs).take i ++ st.drop i) i + at0 ((rounds32 (sched32 zs 48) (eight32 st) 64).list) i) % 18446744073709551616 % 4294967296 = at0 (take32 st zs) i from by rw [mix_at (take32_len _ _) hsl (by omega), take32_at _ _ _ (by omega)]; exact cut_add32 _ _))))) (fun v W' ⟨h, hb⟩ => ⟨hb, (by rw [h]; exact rfl)⟩)
                    exact trivial
                  ·
                    intro W165 b166
                    replace hT := hT.below b166
                    replace hA := hA.below b166
                    replace k10 := k10.below b166
                    replace k64 := k64.below b166
                    replace k91 := k91.below b166
                    replace k134 := k134.below b166
                    replace hB := below_then hB b166
                    replace hL := LL.below hL b166
                    refine WL.val (dx_idxA (o1 := i) rfl Tryd.underlying52 ty_size_49_1 rfl rfl (by omega) (by first | (simp; done) | omega)) rfl rfl ?_
                    refine WL.do (dx_store (cs' := encU (((take32 st zs).take i ++ st.drop i).set i (at0 (take32 st zs) i))) (vs := [.int .u64 (at0 (take32 st zs) i)]) rfl ty_size_49_1 rfl rfl rfl (oc_cons rfl oc_nil) k64 rfl (by rw [encU_len, show ((take32 st zs).take i ++ st.drop i).length = 8 from (mixl_len (take32_len _ _) hsl hi)]; exact (by omega)) (setU (by rw [show ((take32 st zs).take i ++ st.drop i).length = 8 from (mixl_len (take32_len _ _) hsl hi)]; exact (by omega)))) rfl ?_
                    rintro _ W167 ⟨k169, o168⟩
                    replace k10 := k10.other o168 n67
                    replace k91 := k91.other o168 n95.symm
                    replace k134 := k134.other o168 n129.symm
                    clear k64
                    replace hT := hT.only o168 (.tail _ (.tail _ (.head _)))
                    replace hA := hA.only o168 (.tail _ (.tail _ (.head _)))
                    replace hB := o168.below hB l68
                    replace hL := LL.only hL o168
                    refine WL.nil ?_
                    refine hK164 ?_
                    refine WC.region ?_
                    refine WL.val (dx_move rfl rfl) rfl rfl ?_
                    refine WL.val (dx_add (r := (i : Int) + 1) rfl rfl rfl (wrap64_id (by omega))) rfl rfl ?_
                    refine WL.val (dx_assign rfl rfl) rfl rfl ?_
                    refine WL.nil ?_
                    rw [mix_set (take32_len _ _) hsl (by omega)] at k169
                    exact hK159 (i + 1) ⟨(by omega), hB, hL, hT, hA, k10, k169, k91, k134⟩ (by omega) (by repeat first | exact trivial | exact And.intro rfl trivial | refine And.intro rfl ?_ | refine And.intro (congrArg (fun z : Int => some (Value.int .i64 z)) (by omega)) ?_)
                ·
                  replace c163 := of_decide_eq_false c163
                  refine WC.exit ?_
                  refine hK88 ?_
                  have hi8 : i = 8 := by omega
                  subst hi8
                  replace k64 : Blk W160 W49.heap.size (encU (absorb32 begin32 (full32 D) (q + 1))) := by have e : (take32 st zs).take 8 ++ st.drop 8 = (take32 st zs) := (by rw [List.take_of_length_le (by rw [take32_len]; exact Nat.le_refl _), List.drop_eq_nil_of_le (by omega), List.append_nil]); rw [e, hst, hzs] at k64; exact k64
                  refine WC.region ?_
                  refine WL.val (dx_move rfl rfl) rfl rfl ?_
                  refine WL.val (dx_move rfl rfl) rfl rfl ?_
                  refine WL.val (dx_mul (r := 64) rfl rfl rfl (by decide)) rfl rfl ?_
                  refine WL.val (dx_add (r := (((q + 1) * 64 : Nat) : Int)) rfl rfl rfl (by rw [wrap64_id (by omega)]; omega)) rfl rfl ?_
                  refine WL.val (dx_assign rfl rfl) rfl rfl ?_
                  refine WL.nil ?_
                  replace hL := hL.less (fun x hx => (.tail _ (.tail _ hx)))
                  replace hT := hT.less (fun x hx => (.tail _ (.tail _ hx)))
                  replace hA := hA.less (fun x hx => (.tail _ (.tail _ hx)))
                  exact hK83 (q + 1) ⟨(by omega), hB, hL, hT, hA, k10, k64⟩ (by omega) (by repeat first | exact trivial | exact And.intro rfl trivial | refine And.intro rfl ?_ | refine And.intro (congrArg (fun z : Int => some (Value.int .i64 z)) (by omega)) ?_)
        ·
          replace c87 := of_decide_eq_false c87
          refine WC.exit ?_
          refine hK81 ?_
          refine WC.seq fun K170 hK170 => ?_
          have hpm := (padN32_ge D.length).2.2
          have hc_ := c87
          rw [hFm, hFl] at hc_
          have hqe : q = padN32 D.length / 64 := by omega
          subst hqe
          obtain ⟨st, hst⟩ : ∃ z, z = (absorb32 begin32 (full32 D) (padN32 D.length / 64)) := ⟨_, rfl⟩
          rw [← hst] at k64
          have hsl : st.length = 8 := by rw [hst]; exact absorb32_len _ _
          have zhT := hT
          have zk10 := k10
          have zk64 := k64
          have zhB := hB
          have zhL := hL
          have hC : SinceB W84 (W49.heap.size :: w.heap.size :: L) W84 := Below.refl _ _
          have h5 : NewW 1 W84.heap.size (((tell32 st).take 0).map e8) (.slice none 0 0) W84 := .inl ⟨rfl, rfl, by decide⟩
          have htl : (tell32 st).length = 32 := tell32_len st
          refine WC.region ?_
          refine WL.val (dx_assign rfl rfl) rfl rfl ?_
          refine WL.nil ?_
          refine hK170 ?_
          refine WC.seq fun K171 hK171 => ?_
          refine WC.seq fun K172 hK172 => ?_
          refine WC.region ?_
          refine WL.val (dx_assign rfl rfl) rfl rfl ?_
          refine WL.nil ?_
          refine hK172 ?_
          refine WC.block ?_
          rw [show (0 : Nat) = 0 * 4 by omega] at h5
          refine WC.loop2 (fun (i : Nat) (ov3 : Value) => [(1, .int .i64 32), (10, .pointer (some ⟨W49.heap.size, 0, none⟩)), (22, ov3), (23, .int .i64 (i : Int))]) (fun (i : Nat) (ov3 : Value) W => i ≤ 8 ∧ Below w.heap.size w W ∧ LL (W49.heap.size :: w.heap.size :: L) W ∧ TabL (W49.heap.size :: w.heap.size :: L) W ∧ SinceB W84 (W49.heap.size :: w.heap.size :: L) W ∧ NewW 1 W84.heap.size (((tell32 st).take (i * 4)).map e8) ov3 W ∧ Blk W w.heap.size [.int .i64 2, .int .i64 13, .int .i64 22, .int .i64 6, .int .i64 11, .int .i64 25, .int .i64 7, .int .i64 18, .int .i64 3, .int .i64 17, .int .i64 19, .int .i64 10] ∧ Blk W W49.heap.size (encU st)) (fun (i : Nat) (ov3 : Value) => 8 - i) 0 (.slice none 0 0) (by repeat first | exact trivial | exact And.intro rfl trivial | refine And.intro rfl ?_ | refine And.intro (congrArg (fun z : Int => some (Value.int .i64 z)) (by omega)) ?_) ⟨Nat.zero_le _, hB, hL, hT, hC, h5, k10, k64⟩ ?_
          clear hT hC h5 k10 k64 hB hL
          rintro K173 i ov3 W174 ⟨hi, hB, hL, hT, hC, h5, k10, k64⟩ hK173
          refine WC.seq fun K175 hK175 => ?_
          refine WC.seq fun K176 hK176 => ?_
          refine WC.region ?_
          refine WL.val (dx_move rfl rfl) rfl rfl ?_
          refine WL.val (dx_lss rfl rfl rfl) rfl rfl ?_
          refine WL.nil ?_
          refine hK176 ?_
          refine WC.cond rfl (fun c177 => ?_) (fun c177 => ?_)
          ·
            replace c177 := of_decide_eq_true c177
            refine WC.skip ?_
            refine hK175 ?_
            refine WC.seq fun K178 hK178 => ?_
            refine WC.block ?_
            refine WC.seq fun K179 hK179 => ?_
            refine WC.region ?_
            refine WL.val (dx_move rfl rfl) rfl rfl ?_
            refine WL.val (dx_sub (r := 24) rfl rfl rfl (by decide)) rfl rfl ?_
            refine WL.val (dx_assign rfl rfl) rfl rfl ?_
            refine WL.nil ?_
            refine hK179 ?_
            refine WC.block ?_
            rw [← Nat.add_zero (i * 4)] at h5
            refine WC.loop2 (fun (j : Nat) (ov4 : Value) => [(1, .int .i64 32), (10, .pointer (some ⟨W49.heap.size, 0, none⟩)), (23, .int .i64 (i : Int)), (22, ov4), (24, .int .i64 (24 - 8 * (j : Int)))]) (fun (j : Nat) (ov4 : Value) W => j ≤ 4 ∧ Below w.heap.size w W ∧ LL (W49.heap.size :: w.heap.size :: L) W ∧ TabL (W49.heap.size :: w.heap.size :: L) W ∧ SinceB W84 (W49.heap.size :: w.heap.size :: L) W ∧ NewW 1 W84.heap.size (((tell32 st).take (i * 4 + j)).map e8) ov4 W ∧ Blk W w.heap.size [.int .i64 2, .int .i64 13, .int .i64 22, .int .i64 6, .int .i64 11, .int .i64 25, .int .i64 7, .int .i64 18, .int .i64 3, .int .i64 17, .int .i64 19, .int .i64 10] ∧ Blk W W49.heap.size (encU st)) (fun (j : Nat) (ov4 : Value) => 4 - j) 0 ov3 (by repeat first | exact trivial | exact And.intro rfl trivial | refine And.intro rfl ?_ | refine And.intro (congrArg (fun z : Int => some (Value.int .i64 z)) (by omega)) ?_) ⟨Nat.zero_le _, hB, hL, hT, hC, h5, k10, k64⟩ ?_
            clear hT hC h5 k10 k64 hB hL
            rintro K180 j ov4 W181 ⟨hj, hB, hL, hT, hC, h5, k10, k64⟩ hK180
            have hol3 : ((tell32 st).take (i * 4 + j)).length ≤ 32 := (by rw [List.length_take]; omega)
            refine WC.seq fun K182 hK182 => ?_
            refine WC.seq fun K183 hK183 => ?_
            refine WC.region ?_
            refine WL.val (dx_move rfl rfl) rfl rfl ?_
            refine WL.val (dx_geq rfl rfl rfl) rfl rfl ?_
            refine WL.nil ?_
            refine hK183 ?_
            refine WC.cond rfl (fun c184 => ?_) (fun c184 => ?_)
            ·
              replace c184 := of_decide_eq_true c184
              refine WC.skip ?_
              refine hK182 ?_
              refine WC.seq fun K185 hK185 => ?_
              refine WC.block ?_
              refine WC.region ?_
              refine WL.val (dx_move rfl rfl) rfl rfl ?_
              refine WL.val (dx_move rfl rfl) rfl rfl ?_
              refine WL.val (dx_idxA (o1 := i) rfl Tryd.underlying52 ty_size_49_1 rfl rfl (by omega) (by first | (simp; done) | omega)) rfl rfl ?_
              refine WL.val (dx_load rfl ty_one_49 rfl (k64.cell (k := i) (cellU (by rw [show st.length = 8 from hsl]; exact (by omega))))) rfl rfl ?_
              refine WL.val (dx_move rfl rfl) rfl rfl ?_
              refine WL.val (dx_conv (r := (24 - 8 * (j : Int))) rfl Tryd.underlying3 Tryd.underlying42 rfl (by rw [wrap_m]; omega)) rfl rfl ?_
              refine WL.val (dx_shr rfl rfl rfl (by omega) (by show _ ≤ (64 : Int); omega) rfl) rfl rfl ?_
              refine WL.val (dx_conv (r := at0 (tell32 st) (i * 4 + j)) rfl Tryd.underlying49 Tryd.underlying5 rfl ((wrap_8 _).trans (tell32_val st i j (by omega) (by omega)))) rfl rfl ?_
              refine WL.get (dx_lit1 (r := e8 (at0 (tell32 st) (i * 4 + j))) rfl ty_ap_25 (by decide) (by decide) rfl rfl rfl) rfl rfl ?_
              rintro x186 W187 ⟨k189, b188, z190⟩
              replace hT := hT.below b188
              replace hC := hC.below b188
              replace h5 := h5.below b188
              replace k10 := k10.below b188
              replace k64 := k64.below b188
              replace hB := below_then hB b188
              replace hL := LL.below hL b188
              have hx := k189.rd (L := []) (by simp)
              refine WL.get (dx_apW (base := W84.heap.size) rfl ty_ap_25 rfl rfl h5 hx (oc_e8 [at0 (tell32 st) (i * 4 + j)]) (by simp [maxLen]; omega) (by simp; omega) (Below.size hC)) rfl rfl ?_
              rintro x191 W192 ⟨h5, b193⟩
              replace h5 : NewW 1 W84.heap.size ((((tell32 st).take (i * 4 + j)) ++ [at0 (tell32 st) (i * 4 + j)]).map e8) x191 W192 := by rw [List.map_append]; exact h5
              replace hC : SinceB W84 (W49.heap.size :: w.heap.size :: L) W192 := Below.trans hC b193
              replace hT := zhT.below hC
              replace k10 := zk10.below hC
              replace k64 := zk64.below hC
              replace hB := below_then zhB hC
              replace hL := LL.below zhL hC
              refine WL.val (dx_assign rfl rfl) rfl rfl ?_
              refine WL.nil ?_
              refine hK185 ?_
              refine WC.region ?_
              refine WL.val (dx_move rfl rfl) rfl rfl ?_
              refine WL.val (dx_sub (r := (24 - 8 * ((j + 1 : Nat) : Int))) rfl rfl rfl (by rw [wrap64_id (by omega)]; omega)) rfl rfl ?_
              refine WL.val (dx_assign rfl rfl) rfl rfl ?_
              refine WL.nil ?_
              rw [show (((tell32 st).take (i * 4 + j)) ++ [at0 (tell32 st) (i * 4 + j)]) = ((tell32 st).take (i * 4 + (j + 1))) from by rw [← Nat.add_assoc, take_snoc _ _ (by rw [htl]; omega)]] at h5
              exact hK180 (j + 1) x191 ⟨(by omega), hB, hL, hT, hC, h5, k10, k64⟩ (by omega) (by repeat first | exact trivial | exact And.intro rfl trivial | refine And.intro rfl ?_ | refine And.intro (congrArg (fun z : Int => some (Value.int .i64 z)) (by omega)) ?_)
            ·
              replace c184 := of_decide_eq_false c184
              refine WC.exit ?_
              refine hK178 ?_
              refine WC.region ?_
              refine WL.val (dx_move rfl rfl) rfl rfl ?_
              refine WL.val (dx_add (r := (i : Int) + 1) rfl rfl rfl (wrap64_id (by omega))) rfl rfl ?_
              refine WL.val (dx_assign rfl rfl) rfl rfl ?_
              refine WL.nil ?_
              rw [show i * 4 + j = (i + 1) * 4 by omega] at h5
              exact hK173 (i + 1) ov4 ⟨(by omega), hB, hL, hT, hC, h5, k10, k64⟩ (by omega) (by repeat first | exact trivial | exact And.intro rfl trivial | refine And.intro rfl ?_ | refine And.intro (congrArg (fun z : Int => some (Value.int .i64 z)) (by omega)) ?_)
          ·
            replace c177 := of_decide_eq_false c177
            refine WC.exit ?_
            refine hK171 ?_
            refine WC.seq fun K194 hK194 => ?_
            refine WC.region ?_
            refine WL.val (dx_move rfl rfl) rfl rfl ?_
            refine WL.val (dx_assign rfl rfl) rfl rfl ?_
            refine WL.nil ?_
            refine hK194 ?_
            refine WC.ret fun a_ ha_ => ?_
            exact hQ (cv_ret1 rfl (.tmp rfl) (by have e8' : i = 8 := (by omega); subst e8'; have eS : sum32 D = (tell32 st).take (8 * 4) := (by rw [sum32_full, ← hst, List.take_of_length_le (by rw [htl]; decide)]); rw [eS]; exact h5.rd (fun y hy => zhL y (.tail _ (.tail _ hy)))) hB ha_)

end Go.Proofs.YtohnicmacmkapaaDoor
namespace Go.Proofs.YtohnicmacmkapaaDoor
open Go.RowKit
set_option linter.unusedVariables false
set_option linter.unusedSimpArgs false
set_option maxRecDepth 8000

set_option maxHeartbeats 4000000 in
theorem refSum64_v (D : List Int) (sv : Value) (w : World) (L : List Nat) (hL : LL L w) (h1 : RdF 1 L w sv (D.map e8)) (hT : TabL L w)  (hDm : D.length ≤ 10000) (hDb : Bytes D) : CV Tryd.prog 26 [sv, .int .i64 64] w fun v W => RdF 1 L W v ((sum64 D).map e8) := by
  refine cv_enter (N := 280) (f := [(0, sv), (1, .int .i64 64)]) Tryd.func26 rfl rfl rfl rfl fun Q hQ hE => ?_
  have hB := Below.refl w.heap.size w
  have hL0 := hL
  have h1m : D.length ≤ maxLen := by have := h1.len; rwa [List.length_map] at this
  unfold maxLen at h1m
  refine WC.seq fun K1 hK1 => ?_
  refine WC.region ?_
  refine WL.val (dx_assign rfl rfl) rfl rfl ?_
  refine WL.nil ?_
  refine hK1 ?_
  refine WC.seq fun K2 hK2 => ?_
  refine WC.region ?_
  refine WL.val (dx_build rfl rfl (bld_3 _ _ _)) rfl rfl ?_
  refine WL.val (dx_build rfl rfl (bld_3 _ _ _)) rfl rfl ?_
  refine WL.val (dx_build rfl rfl (bld_3 _ _ _)) rfl rfl ?_
  refine WL.val (dx_build rfl rfl (bld_3 _ _ _)) rfl rfl ?_
  refine WL.val (dx_build rfl rfl (bld_43 _ _ _ _ _ _ _ _ _ _ _ _)) rfl rfl ?_
  refine WL.get (dx_alloc rfl ty_zero_60 rfl) rfl rfl ?_
  rintro _ W3 ⟨rfl, k4, b5, z6⟩
  have l7 := hB.size
  replace h1 := h1.more b5 (Nat.le_refl _)
  replace hT := hT.more b5 (Nat.le_refl _)
  replace hB := below_then hB b5
  replace hL := LL.more hL z6
  refine WL.do (dx_store (cs' := [.int .i64 2, .int .i64 13, .int .i64 22, .int .i64 6, .int .i64 11, .int .i64 25, .int .i64 7, .int .i64 18, .int .i64 3, .int .i64 17, .int .i64 19, .int .i64 10]) (vs := [.int .i64 2, .int .i64 13, .int .i64 22, .int .i64 6, .int .i64 11, .int .i64 25, .int .i64 7, .int .i64 18, .int .i64 3, .int .i64 17, .int .i64 19, .int .i64 10]) rfl ty_size_60_12 rfl rfl rfl (oc_cons rfl (oc_cons rfl (oc_cons rfl (oc_cons rfl (oc_cons rfl (oc_cons rfl (oc_cons rfl (oc_cons rfl (oc_cons rfl (oc_cons rfl (oc_cons rfl (oc_cons rfl oc_nil)))))))))))) k4 rfl (Nat.le_of_ble_eq_true rfl) rfl) rfl ?_
  rintro _ W8 ⟨k10, o9⟩
  clear k4
  replace h1 := h1.only o9 (.head _)
  replace hT := hT.only o9 (.head _)
  replace hB := o9.below hB l7
  replace hL := LL.only hL o9
  refine WL.nil ?_
  refine hK2 ?_
  refine WC.seq fun K11 hK11 => ?_
  refine WC.region ?_
  refine WL.val (dx_assign rfl rfl) rfl rfl ?_
  refine WL.nil ?_
  refine hK11 ?_
  refine WC.seq fun K12 hK12 => ?_
  refine WC.seq fun K13 hK13 => ?_
  refine WC.region ?_
  refine WL.val (dx_move rfl rfl) rfl rfl ?_
  refine WL.val (dx_eql rfl rfl rfl) rfl rfl ?_
  refine WL.nil ?_
  refine hK13 ?_
  refine WC.condT rfl ?_
  refine WC.seq fun K14 hK14 => ?_
  refine WC.region ?_
  refine WL.val (dx_build rfl rfl (bld_3 _ _ _)) rfl rfl ?_
  refine WL.val (dx_build rfl rfl (bld_3 _ _ _)) rfl rfl ?_
  refine WL.val (dx_build rfl rfl (bld_3 _ _ _)) rfl rfl ?_
  refine WL.val (dx_build rfl rfl (bld_3 _ _ _)) rfl rfl ?_
  refine WL.val (dx_build rfl rfl (bld_43 _ _ _ _ _ _ _ _ _ _ _ _)) rfl rfl ?_
  refine WL.do (dx_store (cs' := [.int .i64 28, .int .i64 34, .int .i64 39, .int .i64 14, .int .i64 18, .int .i64 41, .int .i64 1, .int .i64 8, .int .i64 7, .int .i64 19, .int .i64 61, .int .i64 6]) (vs := [.int .i64 28, .int .i64 34, .int .i64 39, .int .i64 14, .int .i64 18, .int .i64 41, .int .i64 1, .int .i64 8, .int .i64 7, .int .i64 19, .int .i64 61, .int .i64 6]) rfl ty_size_60_12 rfl rfl rfl (oc_cons rfl (oc_cons rfl (oc_cons rfl (oc_cons rfl (oc_cons rfl (oc_cons rfl (oc_cons rfl (oc_cons rfl (oc_cons rfl (oc_cons rfl (oc_cons rfl (oc_cons rfl oc_nil)))))))))))) k10 rfl (Nat.le_of_ble_eq_true rfl) rfl) rfl ?_
  rintro _ W15 ⟨k17, o16⟩
  clear k10
  replace h1 := h1.only o16 (.head _)
  replace hT := hT.only o16 (.head _)
  replace hB := o16.below hB l7
  replace hL := LL.only hL o16
  refine WL.nil ?_
  refine hK14 ?_
  refine WC.region ?_
  refine WL.val (dx_assign rfl rfl) rfl rfl ?_
  refine WL.nil ?_
  refine hK12 ?_
  refine WC.seq fun K18 hK18 => ?_
  have hDl : D.length ≤ 10000 := hDm
  have zh1 := h1
  have zhT := hT
  have zk17 := k17
  have zhB := hB
  have zhL := hL
  have hC : SinceB W15 (w.heap.size :: L) W15 := Below.refl _ _
  refine WC.region ?_
  refine WL.get (dx_lit0E rfl ty_ap_25 (by decide)) rfl rfl ?_
  rintro u19 W20 ⟨b21, hE⟩
  replace h1 := h1.below b21
  replace hT := hT.below b21
  replace hC := hC.below b21
  replace k17 := k17.below b21
  replace hB := below_then hB b21
  replace hL := LL.below hL b21
  refine WL.val (dx_move rfl rfl) rfl rfl ?_
  refine WL.get (dx_apN (base := W15.heap.size) rfl ty_ap_25 rfl rfl hE h1 (oc_e8 D) (by rw [List.length_map]; unfold maxLen; omega) (by rw [List.length_map]; omega) (Below.size hC)) rfl rfl ?_
  rintro u22 W23 ⟨b24, hN⟩
  replace h1 := h1.below b24
  replace hT := hT.below b24
  replace hC := hC.below b24
  replace k17 := k17.below b24
  replace hB := below_then hB b24
  replace hL := LL.below hL b24
  have h5 : NewW 1 W15.heap.size (D.map e8) u22 W23 := hN.toV
  refine WL.get (dx_lit1 (r := e8 128) rfl ty_ap_25 (by decide) (by decide) rfl rfl rfl) rfl rfl ?_
  rintro x25 W26 ⟨k28, b27, z29⟩
  replace h1 := h1.below b27
  replace hT := hT.below b27
  replace hC := hC.below b27
  replace h5 := h5.below b27
  replace k17 := k17.below b27
  replace hB := below_then hB b27
  replace hL := LL.below hL b27
  have hx := k28.rd (L := []) (by simp)
  refine WL.get (dx_apW (base := W15.heap.size) rfl ty_ap_25 rfl rfl h5 hx (oc_e8 [128]) (by simp [maxLen]; omega) (by simp; omega) (Below.size hC)) rfl rfl ?_
  rintro x30 W31 ⟨h5, b32⟩
  replace h5 : NewW 1 W15.heap.size ((D ++ [128]).map e8) x30 W31 := by rw [List.map_append]; exact h5
  replace hC : SinceB W15 (w.heap.size :: L) W31 := Below.trans hC b32
  replace h1 := zh1.below hC
  replace hT := zhT.below hC
  replace k17 := zk17.below hC
  replace hB := below_then zhB hC
  replace hL := LL.below zhL hC
  refine WL.val (dx_assign rfl rfl) rfl rfl ?_
  refine WL.nil ?_
  refine hK18 ?_
  refine WC.seq fun K33 hK33 => ?_
  refine WC.block ?_
  have hpg := padN64_ge D.length
  refine WC.loop2 (fun (j : Nat) (ov : Value) => [(0, sv), (1, .int .i64 64), (5, .pointer (some ⟨w.heap.size, 0, none⟩)), (6, .int .i64 80), (7, ov)]) (fun (j : Nat) (ov : Value) W => j ≤ padN64 D.length - D.length - 9 ∧ Below w.heap.size w W ∧ LL (w.heap.size :: L) W ∧ RdF 1 (w.heap.size :: L) W sv (D.map e8) ∧ TabL (w.heap.size :: L) W ∧ SinceB W15 (w.heap.size :: L) W ∧ NewW 1 W15.heap.size ((D ++ 128 :: List.replicate j 0).map e8) ov W ∧ Blk W w.heap.size [.int .i64 28, .int .i64 34, .int .i64 39, .int .i64 14, .int .i64 18, .int .i64 41, .int .i64 1, .int .i64 8, .int .i64 7, .int .i64 19, .int .i64 61, .int .i64 6]) (fun (j : Nat) (ov : Value) => padN64 D.length - j) 0 x30 (by repeat first | exact trivial | exact And.intro rfl trivial | refine And.intro rfl ?_ | refine And.intro (congrArg (fun z : Int => some (Value.int .i64 z)) (by omega)) ?_) ⟨Nat.zero_le _, hB, hL, h1, hT, hC, h5, k17⟩ ?_
  clear h1 hT hC h5 k17 hB hL
  rintro K34 j ov W35 ⟨hj, hB, hL, h1, hT, hC, h5, k17⟩ hK34
  have hol : (D ++ 128 :: List.replicate j 0).length = D.length + 1 + j := by simp; omega
  refine WC.seq fun K36 hK36 => ?_
  refine WC.seq fun K37 hK37 => ?_
  refine WC.region ?_
  refine WL.val (dx_move rfl rfl) rfl rfl ?_
  refine WL.val (dx_lenF rfl ty_slice_25 rfl (h5.rd (L := []) (by simp))) rfl rfl ?_
  have hln : ((D ++ 128 :: List.replicate j 0).map e8).length = (D ++ 128 :: List.replicate j 0).length := List.length_map _
  refine WL.val (dx_move rfl rfl) rfl rfl ?_
  refine WL.val (dx_lenF rfl ty_slice_25 rfl h1) rfl rfl ?_
  refine WL.val (dx_move rfl rfl) rfl rfl ?_
  refine WL.get (dx_cv rfl Tryd.func15 rfl rfl rfl ((show CV _ _ [.int .i64 ((D.map e8).length : Int), .int .i64 64] _ (fun v _ => v = .int .i64 ((padN64 D.length : Nat) : Int)) from by rw [List.length_map]; have := cv_old (ref_padded_v (D.length : Int) 64 W35 (by omega) (by decide)); rw [padded_eq64 _ (by omega)] at this; exact this))) rfl rfl ?_
  rintro _ W39 ⟨rfl, b38⟩
  replace h1 := h1.below b38
  replace hT := hT.below b38
  replace hC := hC.below b38
  replace h5 := h5.below b38
  replace k17 := k17.below b38
  replace hB := below_then hB b38
  replace hL := LL.below hL b38
  refine WL.val (dx_sub (r := ((padN64 D.length : Nat) : Int) - 8) rfl rfl rfl (wrap64_id (by omega))) rfl rfl ?_
  refine WL.val (dx_lss rfl rfl rfl) rfl rfl ?_
  refine WL.nil ?_
  refine hK37 ?_
  refine WC.cond rfl (fun c40 => ?_) (fun c40 => ?_)
  ·
    replace c40 := of_decide_eq_true c40
    refine WC.skip ?_
    refine hK36 ?_
    refine WC.block ?_
    refine WC.region ?_
    refine WL.val (dx_move rfl rfl) rfl rfl ?_
    refine WL.get (dx_lit1 (r := e8 0) rfl ty_ap_25 (by decide) (by decide) rfl rfl rfl) rfl rfl ?_
    rintro x41 W42 ⟨k44, b43, z45⟩
    replace h1 := h1.below b43
    replace hT := hT.below b43
    replace hC := hC.below b43
    replace h5 := h5.below b43
    replace k17 := k17.below b43
    replace hB := below_then hB b43
    replace hL := LL.below hL b43
    have hx := k44.rd (L := []) (by simp)
    refine WL.get (dx_apW (base := W15.heap.size) rfl ty_ap_25 rfl rfl h5 hx (oc_e8 [0]) (by simp [maxLen]; omega) (by simp; omega) (Below.size hC)) rfl rfl ?_
    rintro x46 W47 ⟨h5, b48⟩
    replace h5 : NewW 1 W15.heap.size (((D ++ 128 :: List.replicate j 0) ++ [0]).map e8) x46 W47 := by rw [List.map_append]; exact h5
    replace hC : SinceB W15 (w.heap.size :: L) W47 := Below.trans hC b48
    replace h1 := zh1.below hC
    replace hT := zhT.below hC
    replace k17 := zk17.below hC
    replace hB := below_then zhB hC
    replace hL := LL.below zhL hC
    refine WL.val (dx_assign rfl rfl) rfl rfl ?_
    refine WL.nil ?_
    rw [show ((D ++ 128 :: List.replicate j 0) ++ [0]) = D ++ 128 :: List.replicate (j + 1) 0 from by rw [List.replicate_succ']; simp] at h5
    exact hK34 (j + 1) x46 ⟨(by simp only [List.length_map] at *; omega), hB, hL, h1, hT, hC, h5, k17⟩ (by simp only [List.length_map] at *; omega) (by repeat first | exact trivial | exact And.intro rfl trivial | refine And.intro rfl ?_ | refine And.intro (congrArg (fun z : Int => some (Value.int .i64 z)) (by omega)) ?_)
  ·
    replace c40 := of_decide_eq_false c40
    refine WC.exit ?_
    refine hK33 ?_
    refine WC.seq fun K49 hK49 => ?_
    have hje : j = padN64 D.length - D.length - 9 := (by simp only [List.length_map] at *; omega)
    refine WC.region ?_
    refine WL.val (dx_move rfl rfl) rfl rfl ?_
    refine WL.val (dx_lenF rfl ty_slice_25 rfl h1) rfl rfl ?_
    refine WL.val (dx_conv (r := (D.length : Int)) rfl Tryd.underlying3 Tryd.underlying49 rfl (by rw [wrap_m, List.length_map]; omega)) rfl rfl ?_
    refine WL.val (dx_mul (r := (D.length : Int) * 8) rfl rfl rfl (by rw [wrap_m]; omega)) rfl rfl ?_
    refine WL.val (dx_assign rfl rfl) rfl rfl ?_
    refine WL.nil ?_
    refine hK49 ?_
    refine WC.seq fun K50 hK50 => ?_
    refine WC.seq fun K51 hK51 => ?_
    refine WC.region ?_
    refine WL.val (dx_assign rfl rfl) rfl rfl ?_
    refine WL.nil ?_
    refine hK51 ?_
    refine WC.block ?_
    replace h5 : NewW 1 W15.heap.size (((D ++ 128 :: List.replicate j 0) ++ (lensL D.length).take 0).map e8) ov W39 := by rw [List.take_zero, List.append_nil]; exact h5
    refine WC.loop2 (fun (k : Nat) (ov2 : Value) => [(1, .int .i64 64), (5, .pointer (some ⟨w.heap.size, 0, none⟩)), (6, .int .i64 80), (8, .int .u64 ((D.length : Int) * 8)), (7, ov2), (9, .int .i64 (56 - 8 * (k : Int)))]) (fun (k : Nat) (ov2 : Value) W => k ≤ 8 ∧ Below w.heap.size w W ∧ LL (w.heap.size :: L) W ∧ RdF 1 (w.heap.size :: L) W sv (D.map e8) ∧ TabL (w.heap.size :: L) W ∧ SinceB W15 (w.heap.size :: L) W ∧ NewW 1 W15.heap.size (((D ++ 128 :: List.replicate j 0) ++ (lensL D.length).take k).map e8) ov2 W ∧ Blk W w.heap.size [.int .i64 28, .int .i64 34, .int .i64 39, .int .i64 14, .int .i64 18, .int .i64 41, .int .i64 1, .int .i64 8, .int .i64 7, .int .i64 19, .int .i64 61, .int .i64 6]) (fun (k : Nat) (ov2 : Value) => 8 - k) 0 ov (by repeat first | exact trivial | exact And.intro rfl trivial | refine And.intro rfl ?_ | refine And.intro (congrArg (fun z : Int => some (Value.int .i64 z)) (by omega)) ?_) ⟨(by decide), hB, hL, h1, hT, hC, h5, k17⟩ ?_
    clear h1 hT hC h5 k17 hB hL
    rintro K52 k ov2 W53 ⟨hk, hB, hL, h1, hT, hC, h5, k17⟩ hK52
    have hol2 : ((D ++ 128 :: List.replicate j 0) ++ (lensL D.length).take k).length = D.length + 1 + j + k := by simp [lensL_len]; omega
    refine WC.seq fun K54 hK54 => ?_
    refine WC.seq fun K55 hK55 => ?_
    refine WC.region ?_
    refine WL.val (dx_move rfl rfl) rfl rfl ?_
    refine WL.val (dx_geq rfl rfl rfl) rfl rfl ?_
    refine WL.nil ?_
    refine hK55 ?_
    refine WC.cond rfl (fun c56 => ?_) (fun c56 => ?_)
    ·
      replace c56 := of_decide_eq_true c56
      refine WC.skip ?_
      refine hK54 ?_
      refine WC.seq fun K57 hK57 => ?_
      refine WC.block ?_
      refine WC.region ?_
      refine WL.val (dx_move rfl rfl) rfl rfl ?_
      refine WL.val (dx_move rfl rfl) rfl rfl ?_
      refine WL.val (dx_move rfl rfl) rfl rfl ?_
      refine WL.val (dx_conv (r := (56 - 8 * (k : Int))) rfl Tryd.underlying3 Tryd.underlying42 rfl (by rw [wrap_m]; omega)) rfl rfl ?_
      refine WL.val (dx_shr rfl rfl rfl (by omega) (by show _ ≤ (64 : Int); omega) rfl) rfl rfl ?_
      refine WL.val (dx_conv (r := at0 (lensL D.length) k) rfl Tryd.underlying49 Tryd.underlying5 rfl ((wrap_8 _).trans (lens_val64 _ _ (by omega)))) rfl rfl ?_
      refine WL.get (dx_lit1 (r := e8 (at0 (lensL D.length) k)) rfl ty_ap_25 (by decide) (by decide) rfl rfl rfl) rfl rfl ?_
      rintro x58 W59 ⟨k61, b60, z62⟩
      replace h1 := h1.below b60
      replace hT := hT.below b60
      replace hC := hC.below b60
      replace h5 := h5.below b60
      replace k17 := k17.below b60
      replace hB := below_then hB b60
      replace hL := LL.below hL b60
      have hx := k61.rd (L := []) (by simp)
      refine WL.get (dx_apW (base := W15.heap.size) rfl ty_ap_25 rfl rfl h5 hx (oc_e8 [at0 (lensL D.length) k]) (by simp [maxLen]; omega) (by simp; omega) (Below.size hC)) rfl rfl ?_
      rintro x63 W64 ⟨h5, b65⟩
      replace h5 : NewW 1 W15.heap.size ((((D ++ 128 :: List.replicate j 0) ++ (lensL D.length).take k) ++ [at0 (lensL D.length) k]).map e8) x63 W64 := by rw [List.map_append]; exact h5
      replace hC : SinceB W15 (w.heap.size :: L) W64 := Below.trans hC b65
      replace h1 := zh1.below hC
      replace hT := zhT.below hC
      replace k17 := zk17.below hC
      replace hB := below_then zhB hC
      replace hL := LL.below zhL hC
      refine WL.val (dx_assign rfl rfl) rfl rfl ?_
      refine WL.nil ?_
      refine hK57 ?_
      refine WC.region ?_
      refine WL.val (dx_move rfl rfl) rfl rfl ?_
      refine WL.val (dx_sub (r := (56 - 8 * ((k + 1 : Nat) : Int))) rfl rfl rfl (by rw [wrap64_id (by omega)]; omega)) rfl rfl ?_
      refine WL.val (dx_assign rfl rfl) rfl rfl ?_
      refine WL.nil ?_
      rw [show (((D ++ 128 :: List.replicate j 0) ++ (lensL D.length).take k) ++ [at0 (lensL D.length) k]) = (D ++ 128 :: List.replicate j 0) ++ (lensL D.length).take (k + 1) from by rw [take_snoc _ _ (by rw [lensL_len]; omega), List.append_assoc]] at h5
      exact hK52 (k + 1) x63 ⟨(by omega), hB, hL, h1, hT, hC, h5, k17⟩ (by omega) (by repeat first | exact trivial | exact And.intro rfl trivial | refine And.intro rfl ?_ | refine And.intro (congrArg (fun z : Int => some (Value.int .i64 z)) (by omega)) ?_)
    ·
      replace c56 := of_decide_eq_false c56
      refine WC.exit ?_
      refine hK50 ?_
      refine WC.seq fun K66 hK66 => ?_
      have hfe : ((D ++ 128 :: List.replicate j 0) ++ (lensL D.length).take k) = (full64 D) := by rw [full64_split, hje, List.take_of_length_le (by rw [lensL_len]; omega)]
      rw [hfe] at h5
      have hA : RdF 1 (w.heap.size :: L) W53 ov2 ((full64 D).map e8) := h5.rd zhL
      have hFl : (full64 D).length = padN64 D.length := full64_len D
      have hFb : Bytes (full64 D) := full64_bytes hDb
      have hFm : ((full64 D).map e8).length = (full64 D).length := List.length_map _
      refine WC.region ?_
      refine WL.get (dx_alloc (cs := encU (List.replicate 8 0)) rfl ty_zero_52 cells_z8) rfl rfl ?_
      rintro _ W67 ⟨rfl, k68, b69, z70⟩
      have n71 : w.heap.size ≠ W53.heap.size := Nat.ne_of_lt k17.lt
      have l72 := hB.size
      replace hT := hT.more b69 (Nat.le_refl _)
      replace hA := hA.more b69 (Nat.le_refl _)
      replace k17 := k17.below b69
      replace hB := below_then hB b69
      replace hL := LL.more hL z70
      refine WL.nil ?_
      refine hK66 ?_
      refine WC.seq fun K73 hK73 => ?_
      refine WC.seq fun K74 hK74 => ?_
      refine WC.region ?_
      refine WL.val (dx_assign rfl rfl) rfl rfl ?_
      refine WL.nil ?_
      refine hK74 ?_
      refine WC.block ?_
      replace k68 : Blk W67 W53.heap.size (encU (begin64.take 0 ++ (List.replicate 8 (0 : Int)).drop 0)) := k68
      refine WC.loop (fun (i : Nat) => [(1, .int .i64 64), (5, .pointer (some ⟨w.heap.size, 0, none⟩)), (6, .int .i64 80), (7, ov2), (10, .pointer (some ⟨W53.heap.size, 0, none⟩)), (11, .int .i64 (i : Int))]) (fun (i : Nat) W => i ≤ 8 ∧ Below w.heap.size w W ∧ LL (W53.heap.size :: w.heap.size :: L) W ∧ TabL (W53.heap.size :: w.heap.size :: L) W ∧ RdF 1 (W53.heap.size :: w.heap.size :: L) W ov2 ((full64 D).map e8) ∧ Blk W w.heap.size [.int .i64 28, .int .i64 34, .int .i64 39, .int .i64 14, .int .i64 18, .int .i64 41, .int .i64 1, .int .i64 8, .int .i64 7, .int .i64 19, .int .i64 61, .int .i64 6] ∧ Blk W W53.heap.size (encU (begin64.take i ++ (List.replicate 8 (0 : Int)).drop i))) (fun (i : Nat) => 8 - i) 0 (by repeat first | exact trivial | exact And.intro rfl trivial | refine And.intro rfl ?_ | refine And.intro (congrArg (fun z : Int => some (Value.int .i64 z)) (by omega)) ?_) ⟨(by decide), hB, hL, hT, hA, k17, k68⟩ ?_
      clear hT hA k17 k68 hB hL
      rintro K75 i W76 ⟨hi, hB, hL, hT, hA, k17, k68⟩ hK75
      refine WC.seq fun K77 hK77 => ?_
      refine WC.seq fun K78 hK78 => ?_
      refine WC.region ?_
      refine WL.val (dx_move rfl rfl) rfl rfl ?_
      refine WL.val (dx_lss rfl rfl rfl) rfl rfl ?_
      refine WL.nil ?_
      refine hK78 ?_
      refine WC.cond rfl (fun c79 => ?_) (fun c79 => ?_)
      ·
        replace c79 := of_decide_eq_true c79
        refine WC.skip ?_
        refine hK77 ?_
        refine WC.seq fun K80 hK80 => ?_
        refine WC.block ?_
        refine WC.region ?_
        refine WL.val (dx_move rfl rfl) rfl rfl ?_
        refine WL.val (dx_move rfl rfl) rfl rfl ?_
        refine WL.val (dx_idxA (o1 := i) rfl Tryd.underlying52 ty_size_49_1 rfl rfl (by omega) (by first | (simp; done) | omega)) rfl rfl ?_
        refine WL.val (dx_load rfl ty_one_49 rfl (hT.1.be i (by omega))) rfl rfl ?_
        refine WL.val (dx_move rfl rfl) rfl rfl ?_
        refine WL.val (dx_sub (r := 0) rfl rfl rfl (by decide)) rfl rfl ?_
        refine WL.val (dx_conv (r := 0) rfl Tryd.underlying3 Tryd.underlying42 rfl (by decide)) rfl rfl ?_
        refine WL.val (dx_shr rfl rfl rfl (by decide) (by decide) ((Int.ediv_one _).trans (begin64_at i (by omega)).symm)) rfl rfl ?_
        refine WL.val (dx_idxA (o1 := i) rfl Tryd.underlying52 ty_size_49_1 rfl rfl (by omega) (by first | (simp; done) | omega)) rfl rfl ?_
        refine WL.do (dx_store (cs' := encU ((begin64.take i ++ (List.replicate 8 (0 : Int)).drop i).set i (at0 begin64 i))) (vs := [.int .u64 (at0 begin64 i)]) rfl ty_size_49_1 rfl rfl rfl (oc_cons rfl oc_nil) k68 rfl (by rw [encU_len, show (begin64.take i ++ (List.replicate 8 (0 : Int)).drop i).length = 8 from (mixl_len begin64_len rep_len hi)]; exact (by omega)) (setU (by rw [show (begin64.take i ++ (List.replicate 8 (0 : Int)).drop i).length = 8 from (mixl_len begin64_len rep_len hi)]; exact (by omega)))) rfl ?_
        rintro _ W81 ⟨k83, o82⟩
        replace k17 := k17.other o82 n71
        clear k68
        replace hT := hT.only o82 (.head _)
        replace hA := hA.only o82 (.head _)
        replace hB := o82.below hB l72
        replace hL := LL.only hL o82
        refine WL.nil ?_
        refine hK80 ?_
        refine WC.region ?_
        refine WL.val (dx_move rfl rfl) rfl rfl ?_
        refine WL.val (dx_add (r := (i : Int) + 1) rfl rfl rfl (wrap64_id (by omega))) rfl rfl ?_
        refine WL.val (dx_assign rfl rfl) rfl rfl ?_
        refine WL.nil ?_
        rw [mix_set begin64_len rep_len (by omega)] at k83
        exact hK75 (i + 1) ⟨(by omega), hB, hL, hT, hA, k17, k83⟩ (by omega) (by repeat first | exact trivial | exact And.intro rfl trivial | refine And.intro rfl ?_ | refine And.intro (congrArg (fun z : Int => some (Value.int .i64 z)) (by omega)) ?_)
      ·
        replace c79 := of_decide_eq_false c79
        refine WC.exit ?_
        refine hK73 ?_
        refine WC.seq fun K84 hK84 => ?_
        have hi8 : i = 8 := by omega
        subst hi8
        replace k68 : Blk W76 W53.heap.size (encU (absorb64 begin64 (full64 D) 0)) := by have e : begin64.take 8 ++ (List.replicate 8 (0 : Int)).drop 8 = begin64 := (by rw [List.take_of_length_le (by rw [begin64_len]; exact Nat.le_refl _)]; simp); rw [e] at k68; exact k68
        refine WC.region ?_
        refine WL.val (dx_move rfl rfl) rfl rfl ?_
        refine WL.val (dx_quo (r := 8) rfl rfl rfl (by omega) (by decide)) rfl rfl ?_
        refine WL.val (dx_assign rfl rfl) rfl rfl ?_
        refine WL.nil ?_
        refine hK84 ?_
        refine WC.seq fun K85 hK85 => ?_
        refine WC.seq fun K86 hK86 => ?_
        refine WC.region ?_
        refine WL.val (dx_assign rfl rfl) rfl rfl ?_
        refine WL.nil ?_
        refine hK86 ?_
        refine WC.block ?_
        refine WC.loop (fun (q : Nat) => [(1, .int .i64 64), (5, .pointer (some ⟨w.heap.size, 0, none⟩)), (6, .int .i64 80), (7, ov2), (10, .pointer (some ⟨W53.heap.size, 0, none⟩)), (12, .int .i64 8), (13, .int .i64 ((q * 128 : Nat) : Int))]) (fun (q : Nat) W => q * 128 ≤ padN64 D.length ∧ Below w.heap.size w W ∧ LL (W53.heap.size :: w.heap.size :: L) W ∧ TabL (W53.heap.size :: w.heap.size :: L) W ∧ RdF 1 (W53.heap.size :: w.heap.size :: L) W ov2 ((full64 D).map e8) ∧ Blk W w.heap.size [.int .i64 28, .int .i64 34, .int .i64 39, .int .i64 14, .int .i64 18, .int .i64 41, .int .i64 1, .int .i64 8, .int .i64 7, .int .i64 19, .int .i64 61, .int .i64 6] ∧ Blk W W53.heap.size (encU (absorb64 begin64 (full64 D) q))) (fun (q : Nat) => padN64 D.length - q * 128) 0 (by repeat first | exact trivial | exact And.intro rfl trivial | refine And.intro rfl ?_ | refine And.intro (congrArg (fun z : Int => some (Value.int .i64 z)) (by omega)) ?_) ⟨(by omega), hB, hL, hT, hA, k17, k68⟩ ?_
        clear hT hA k17 k68 hB hL
        rintro K87 q W88 ⟨hq, hB, hL, hT, hA, k17, k68⟩ hK87
        refine WC.seq fun K89 hK89 => ?_
        refine WC.seq fun K90 hK90 => ?_
        refine WC.region ?_
        refine WL.val (dx_move rfl rfl) rfl rfl ?_
        refine WL.val (dx_move rfl rfl) rfl rfl ?_
        refine WL.val (dx_lenF rfl ty_slice_25 rfl hA) rfl rfl ?_
        refine WL.val (dx_lss rfl rfl rfl) rfl rfl ?_
        refine WL.nil ?_
        refine hK90 ?_
        refine WC.cond rfl (fun c91 => ?_) (fun c91 => ?_)
        ·
          replace c91 := of_decide_eq_true c91
          refine WC.skip ?_
          refine hK89 ?_
          refine WC.seq fun K92 hK92 => ?_
          refine WC.block ?_
          refine WC.seq fun K93 hK93 => ?_
          have hpm := (padN64_ge D.length).2.2
          have hc_ := c91
          rw [hFm, hFl] at hc_
          have hqq : q * 128 + 128 ≤ padN64 D.length := by omega
          obtain ⟨zs, hzs⟩ : ∃ z, z = ((full64 D).drop (q * 128)).take 128 := ⟨_, rfl⟩
          have hzl : zs.length = 128 := by rw [hzs, List.length_take, List.length_drop, hFl]; omega
          have hzb : Bytes zs := fun x hx => hFb x (by rw [hzs] at hx; exact List.mem_of_mem_drop (List.mem_of_mem_take hx))
          obtain ⟨st, hst⟩ : ∃ z, z = absorb64 begin64 (full64 D) q := ⟨_, rfl⟩
          rw [← hst] at k68
          have hsl : st.length = 8 := by rw [hst]; exact absorb64_len _ _
          have hsi : ∀ x ∈ st, In64 x := by rw [hst]; exact absorb64_in _ _
          refine WC.region ?_
          refine WL.get (dx_alloc (cs := encU (List.replicate 80 0)) rfl ty_zero_61 cells_z80) rfl rfl ?_
          rintro _ W94 ⟨rfl, k95, b96, z97⟩
          have n98 : w.heap.size ≠ W88.heap.size := Nat.ne_of_lt k17.lt
          have n99 : W53.heap.size ≠ W88.heap.size := Nat.ne_of_lt k68.lt
          have l100 := hB.size
          replace hT := hT.more b96 (Nat.le_refl _)
          replace hA := hA.more b96 (Nat.le_refl _)
          replace k17 := k17.below b96
          replace k68 := k68.below b96
          replace hB := below_then hB b96
          replace hL := LL.more hL z97
          refine WL.nil ?_
          refine hK93 ?_
          refine WC.seq fun K101 hK101 => ?_
          refine WC.seq fun K102 hK102 => ?_
          refine WC.region ?_
          refine WL.val (dx_assign rfl rfl) rfl rfl ?_
          refine WL.nil ?_
          refine hK102 ?_
          refine WC.block ?_
          rw [← part64_zero zs] at k95
          refine WC.loop (fun (i : Nat) => [(1, .int .i64 64), (5, .pointer (some ⟨w.heap.size, 0, none⟩)), (6, .int .i64 80), (7, ov2), (10, .pointer (some ⟨W53.heap.size, 0, none⟩)), (12, .int .i64 8), (13, .int .i64 ((q * 128 : Nat) : Int)), (14, .pointer (some ⟨W88.heap.size, 0, none⟩)), (15, .int .i64 (i : Int))]) (fun (i : Nat) W => i ≤ 128 ∧ Below w.heap.size w W ∧ LL (W88.heap.size :: W53.heap.size :: w.heap.size :: L) W ∧ TabL (W88.heap.size :: W53.heap.size :: w.heap.size :: L) W ∧ RdF 1 (W88.heap.size :: W53.heap.size :: w.heap.size :: L) W ov2 ((full64 D).map e8) ∧ Blk W w.heap.size [.int .i64 28, .int .i64 34, .int .i64 39, .int .i64 14, .int .i64 18, .int .i64 41, .int .i64 1, .int .i64 8, .int .i64 7, .int .i64 19, .int .i64 61, .int .i64 6] ∧ Blk W W53.heap.size (encU st) ∧ Blk W W88.heap.size (encU (part64 zs i))) (fun (i : Nat) => 128 - i) 0 (by repeat first | exact trivial | exact And.intro rfl trivial | refine And.intro rfl ?_ | refine And.intro (congrArg (fun z : Int => some (Value.int .i64 z)) (by omega)) ?_) ⟨Nat.zero_le _, hB, hL, hT, hA, k17, k68, k95⟩ ?_
          clear hT hA k17 k68 k95 hB hL
          rintro K103 i W104 ⟨hi, hB, hL, hT, hA, k17, k68, k95⟩ hK103
          refine WC.seq fun K105 hK105 => ?_
          refine WC.seq fun K106 hK106 => ?_
          refine WC.region ?_
          refine WL.val (dx_move rfl rfl) rfl rfl ?_
          refine WL.val (dx_move rfl rfl) rfl rfl ?_
          refine WL.val (dx_mul (r := 128) rfl rfl rfl (by decide)) rfl rfl ?_
          refine WL.val (dx_lss rfl rfl rfl) rfl rfl ?_
          refine WL.nil ?_
          refine hK106 ?_
          refine WC.cond rfl (fun c107 => ?_) (fun c107 => ?_)
          ·
            replace c107 := of_decide_eq_true c107
            refine WC.skip ?_
            refine hK105 ?_
            refine WC.seq fun K108 hK108 => ?_
            refine WC.block ?_
            have ez : (full64 D)[q * 128 + i]? = some (at0 zs i) := by have e1 : at0 zs i = at0 (full64 D) (q * 128 + i) := (by rw [hzs]; unfold at0; rw [List.getElem?_take, if_pos (by omega), List.getElem?_drop]); rw [e1]; exact at0_some (by omega)
            have hzi := at0_all (p := fun x => 0 ≤ x ∧ x ≤ 255) (by decide) hzb i
            have hpl := part64_lt hzb hzl i (by omega)
            refine WC.drawM 17 [(some 98, .is (.int .i64 (i : Int))), (some 99, .is (.int .i64 8)), (some 100, .is (.int .i64 ((i : Int) / 8))), (some 101, .is (.int .i64 (i : Int))), (some 102, .is (.int .i64 8)), (some 103, .is (.int .i64 ((i : Int) / 8))), (some 104, .is (.pointer (some ⟨W88.heap.size, (i / 8), none⟩))), (some 105, .is (.int .u64 (at0 (part64 zs i) (i / 8)))), (some 106, .is (.int .u64 (at0 (part64 zs i) (i / 8) * 256))), (some 107, .is (ov2)), (some 108, .is (.int .i64 ((q * 128 : Nat) : Int))), (some 109, .is (.int .i64 (i : Int))), (some 110, .is (.int .i64 (((q * 128 : Nat) : Int) + (i : Int)))), (some 111, .by fun u W => PtR (W88.heap.size :: W53.heap.size :: w.heap.size :: L) W u [.int .u8 (at0 zs i)]), (some 112, .is (.int .u8 (at0 zs i))), (some 113, .is (.int .u64 (at0 zs i))), (some 114, .is (.int .u64 (at0 (part64 zs i) (i / 8) * 256 + (at0 zs i))))] [[], [], [0, 1], [], [], [3, 4], [5], [6], [7], [], [], [], [10, 11], [9, 12], [13], [14], [8, 15]] (by kernel_rfl) (by kernel_rfl) (by kernel_rfl) (by kernel_rfl) (by kernel_rfl) (by kernel_rfl) (by kernel_rfl) ⟨fun _ _ _ hb h => h.below hb, trivial⟩ ?_ ?_
            ·
              refine DSteps.cons (fun Wd hd => ?_) ?_
              ·
                exact DV.dr (dx_move rfl rfl) ⟨Below.refl _ _, rfl⟩
              refine DSteps.cons (fun Wd hd => ?_) ?_
              ·
                exact DV.dr (dx_move rfl rfl) ⟨Below.refl _ _, rfl⟩
              refine DSteps.cons (fun Wd hd => ?_) ?_
              ·
                exact DV.dr (dx_quo (r := (i : Int) / 8) rfl rfl rfl (by decide) (by rw [Int.tdiv_eq_ediv_of_nonneg (by omega)]; exact wrap64_id (by omega))) ⟨Below.refl _ _, rfl⟩
              refine DSteps.cons (fun Wd hd => ?_) ?_
              ·
                exact DV.dr (dx_move rfl rfl) ⟨Below.refl _ _, rfl⟩
              refine DSteps.cons (fun Wd hd => ?_) ?_
              ·
                exact DV.dr (dx_move rfl rfl) ⟨Below.refl _ _, rfl⟩
              refine DSteps.cons (fun Wd hd => ?_) ?_
              ·
                exact DV.dr (dx_quo (r := (i : Int) / 8) rfl rfl rfl (by decide) (by rw [Int.tdiv_eq_ediv_of_nonneg (by omega)]; exact wrap64_id (by omega))) ⟨Below.refl _ _, rfl⟩
              refine DSteps.cons (fun Wd hd => ?_) ?_
              ·
                exact DV.dr (dx_idxA (o1 := (i / 8)) rfl Tryd.underlying61 ty_size_49_1 rfl rfl (by omega) (by first | (simp; done) | omega)) ⟨Below.refl _ _, rfl⟩
              refine DSteps.cons (fun Wd hd => ?_) ?_
              ·
                have k95 := k95.below hd
                exact DV.dr (dx_load rfl ty_one_49 rfl (k95.cell (k := (i / 8)) (cellU (by rw [show (part64 zs i).length = 80 from (part64_len _ _)]; exact (by omega))))) ⟨Below.refl _ _, rfl⟩
              refine DSteps.cons (fun Wd hd => ?_) ?_
              ·
                exact DV.dr (dx_shl (r := at0 (part64 zs i) (i / 8) * 256) rfl rfl rfl (by decide) (by decide) (by rw [wrap_m, show (2 : Int) ^ (8 : Int).toNat = 256 from by decide]; omega)) ⟨Below.refl _ _, rfl⟩
              refine DSteps.cons (fun Wd hd => ?_) ?_
              ·
                exact DV.dr (dx_move rfl rfl) ⟨Below.refl _ _, rfl⟩
              refine DSteps.cons (fun Wd hd => ?_) ?_
              ·
                exact DV.dr (dx_move rfl rfl) ⟨Below.refl _ _, rfl⟩
              refine DSteps.cons (fun Wd hd => ?_) ?_
              ·
                exact DV.dr (dx_move rfl rfl) ⟨Below.refl _ _, rfl⟩
              refine DSteps.cons (fun Wd hd => ?_) ?_
              ·
                exact DV.dr (dx_add (r := ((q * 128 : Nat) : Int) + (i : Int)) rfl rfl rfl (wrap64_id (by omega))) ⟨Below.refl _ _, rfl⟩
              refine DSteps.cons (fun Wd hd => ?_) ?_
              ·
                have hA := hA.below hd
                exact (dx_idxF (q * 128 + i) rfl ty_slice_25 rfl rfl hA (by omega) (at_mapX ez)).mono (fun v W' h => ⟨by rw [← h.1]; exact Below.refl _ _, by rw [← h.1]; exact h.2⟩)
              refine DSteps.cons (fun Wd hd => ?_) ?_
              ·
                intro u27_13 p27_13
                exact DV.dr (dx_loadP rfl ty_one_5 rfl p27_13) ⟨Below.refl _ _, rfl⟩
              refine DSteps.cons (fun Wd hd => ?_) ?_
              ·
                exact DV.dr (dx_conv (r := (at0 zs i)) rfl Tryd.underlying5 Tryd.underlying49 rfl (wrapu64_id (by omega))) ⟨Below.refl _ _, rfl⟩
              refine DSteps.cons (fun Wd hd => ?_) ?_
              ·
                exact DV.dr (dx_or_i (r := at0 (part64 zs i) (i / 8) * 256 + (at0 zs i)) rfl rfl rfl (or_be64 _ _ (by omega) (by omega))) ⟨Below.refl _ _, rfl⟩
              exact trivial
            ·
              intro W109 b110
              intro u27_13 p27_13
              replace hT := hT.below b110
              replace hA := hA.below b110
              replace k17 := k17.below b110
              replace k68 := k68.below b110
              replace k95 := k95.below b110
              replace hB := below_then hB b110
              replace hL := LL.below hL b110
              refine WL.val (dx_idxA (o1 := (i / 8)) rfl Tryd.underlying61 ty_size_49_1 rfl rfl (by omega) (by first | (simp; done) | omega)) rfl rfl ?_
              refine WL.do (dx_store (cs' := encU ((part64 zs i).set (i / 8) (at0 (part64 zs i) (i / 8) * 256 + (at0 zs i)))) (vs := [.int .u64 (at0 (part64 zs i) (i / 8) * 256 + (at0 zs i))]) rfl ty_size_49_1 rfl rfl rfl (oc_cons rfl oc_nil) k95 rfl (by rw [encU_len, show (part64 zs i).length = 80 from (part64_len _ _)]; exact (by omega)) (setU (by rw [show (part64 zs i).length = 80 from (part64_len _ _)]; exact (by omega)))) rfl ?_
              rintro _ W111 ⟨k113, o112⟩
              replace k17 := k17.other o112 n98
              replace k68 := k68.other o112 n99
              clear k95
              replace hT := hT.only o112 (.head _)
              replace hA := hA.only o112 (.head _)
              replace p27_13 := p27_13.only o112 (.head _)
              replace hB := o112.below hB l100
              replace hL := LL.only hL o112
              refine WL.nil ?_
              refine hK108 ?_
              refine WC.region ?_
              refine WL.val (dx_move rfl rfl) rfl rfl ?_
              refine WL.val (dx_add (r := (i : Int) + 1) rfl rfl rfl (wrap64_id (by omega))) rfl rfl ?_
              refine WL.val (dx_assign rfl rfl) rfl rfl ?_
              refine WL.nil ?_
              rw [part64_step zs hzl i (by omega)] at k113
              exact hK103 (i + 1) ⟨(by omega), hB, hL, hT, hA, k17, k68, k113⟩ (by omega) (by repeat first | exact trivial | exact And.intro rfl trivial | refine And.intro rfl ?_ | refine And.intro (congrArg (fun z : Int => some (Value.int .i64 z)) (by omega)) ?_)
          ·
            replace c107 := of_decide_eq_false c107
            refine WC.exit ?_
            refine hK101 ?_
            refine WC.seq fun K114 hK114 => ?_
            refine WC.seq fun K115 hK115 => ?_
            refine WC.region ?_
            refine WL.val (dx_assign rfl rfl) rfl rfl ?_
            refine WL.nil ?_
            refine hK115 ?_
            refine WC.block ?_
            have hi6 : i = 128 := by omega
            subst hi6
            rw [part64_all zs hzl] at k95
            refine WC.loop (fun (k : Nat) => [(1, .int .i64 64), (5, .pointer (some ⟨w.heap.size, 0, none⟩)), (6, .int .i64 80), (7, ov2), (10, .pointer (some ⟨W53.heap.size, 0, none⟩)), (12, .int .i64 8), (13, .int .i64 ((q * 128 : Nat) : Int)), (14, .pointer (some ⟨W88.heap.size, 0, none⟩)), (16, .int .i64 ((k + 16 : Nat) : Int))]) (fun (k : Nat) W => k ≤ 64 ∧ Below w.heap.size w W ∧ LL (W88.heap.size :: W53.heap.size :: w.heap.size :: L) W ∧ TabL (W88.heap.size :: W53.heap.size :: w.heap.size :: L) W ∧ RdF 1 (W88.heap.size :: W53.heap.size :: w.heap.size :: L) W ov2 ((full64 D).map e8) ∧ Blk W w.heap.size [.int .i64 28, .int .i64 34, .int .i64 39, .int .i64 14, .int .i64 18, .int .i64 41, .int .i64 1, .int .i64 8, .int .i64 7, .int .i64 19, .int .i64 61, .int .i64 6] ∧ Blk W W53.heap.size (encU st) ∧ Blk W W88.heap.size (encU (sched64 zs k))) (fun (k : Nat) => 64 - k) 0 (by repeat first | exact trivial | exact And.intro rfl trivial | refine And.intro rfl ?_ | refine And.intro (congrArg (fun z : Int => some (Value.int .i64 z)) (by omega)) ?_) ⟨Nat.zero_le _, hB, hL, hT, hA, k17, k68, k95⟩ ?_
            clear hT hA k17 k68 k95 hB hL
            rintro K116 k W117 ⟨hk, hB, hL, hT, hA, k17, k68, k95⟩ hK116
            refine WC.seq fun K118 hK118 => ?_
            refine WC.seq fun K119 hK119 => ?_
            refine WC.region ?_
            refine WL.val (dx_move rfl rfl) rfl rfl ?_
            refine WL.val (dx_move rfl rfl) rfl rfl ?_
            refine WL.val (dx_lss rfl rfl rfl) rfl rfl ?_
            refine WL.nil ?_
            refine hK119 ?_
            refine WC.cond rfl (fun c120 => ?_) (fun c120 => ?_)
            ·
              replace c120 := of_decide_eq_true c120
              refine WC.skip ?_
              refine hK118 ?_
              refine WC.seq fun K121 hK121 => ?_
              refine WC.block ?_
              have hsi2 := at0_all (p := In64) zero_in64' (sched64_in hzb hzl k)
              refine WC.drawM 30 [(some 121, .is (.int .i64 ((k + 16 : Nat) : Int))), (some 122, .is (.int .i64 ((k + 16 : Nat) : Int))), (some 123, .is (.int .i64 (((k + 16 : Nat) : Int) - 16))), (some 124, .is (.pointer (some ⟨W88.heap.size, (k + 16 - 16), none⟩))), (some 125, .is (.int .u64 (at0 (sched64 zs k) (k + 16 - 16)))), (some 126, .is (.int .i64 ((k + 16 : Nat) : Int))), (some 127, .is (.int .i64 (((k + 16 : Nat) : Int) - 15))), (some 128, .is (.pointer (some ⟨W88.heap.size, (k + 16 - 15), none⟩))), (some 129, .is (.int .u64 (at0 (sched64 zs k) (k + 16 - 15)))), (some 130, .is (.pointer (some ⟨w.heap.size, 6, none⟩))), (some 131, .is (.agg #[.int .i64 1, .int .i64 8, .int .i64 7])), (some 132, .is (.int .i64 64)), (some 133, .is (.int .u64 (lowA64 (at0 (sched64 zs k) (k + 16 - 15))))), (some 134, .is (.int .u64 ((at0 (sched64 zs k) (k + 16 - 16) + lowA64 (at0 (sched64 zs k) (k + 16 - 15))) % 18446744073709551616))), (some 135, .is (.int .i64 ((k + 16 : Nat) : Int))), (some 136, .is (.int .i64 (((k + 16 : Nat) : Int) - 7))), (some 137, .is (.pointer (some ⟨W88.heap.size, (k + 16 - 7), none⟩))), (some 138, .is (.int .u64 (at0 (sched64 zs k) (k + 16 - 7)))), (some 139, .is (.int .u64 (((at0 (sched64 zs k) (k + 16 - 16) + lowA64 (at0 (sched64 zs k) (k + 16 - 15))) % 18446744073709551616 + at0 (sched64 zs k) (k + 16 - 7)) % 18446744073709551616))), (some 140, .is (.int .i64 ((k + 16 : Nat) : Int))), (some 141, .is (.int .i64 (((k + 16 : Nat) : Int) - 2))), (some 142, .is (.pointer (some ⟨W88.heap.size, (k + 16 - 2), none⟩))), (some 143, .is (.int .u64 (at0 (sched64 zs k) (k + 16 - 2)))), (some 144, .is (.pointer (some ⟨w.heap.size, 9, none⟩))), (some 145, .is (.agg #[.int .i64 19, .int .i64 61, .int .i64 6])), (some 146, .is (.int .i64 64)), (some 147, .is (.int .u64 (lowB64 (at0 (sched64 zs k) (k + 16 - 2))))), (some 148, .is (.int .u64 ((((at0 (sched64 zs k) (k + 16 - 16) + lowA64 (at0 (sched64 zs k) (k + 16 - 15))) % 18446744073709551616 + at0 (sched64 zs k) (k + 16 - 7)) % 18446744073709551616 + lowB64 (at0 (sched64 zs k) (k + 16 - 2))) % 18446744073709551616))), (some 149, .is (.int .i64 64)), (some 150, .is (.int .u64 (next64 (sched64 zs k) (16 + k))))] [[], [], [1], [2], [3], [], [5], [6], [7], [], [9], [], [8, 10, 11], [4, 12], [], [14], [15], [16], [13, 17], [], [19], [20], [21], [], [23], [], [22, 24, 25, 12], [18, 26], [], [27, 28, 26]] (by kernel_rfl) (by kernel_rfl) (by kernel_rfl) (by kernel_rfl) (by kernel_rfl) (by kernel_rfl) (by kernel_rfl) (by exact trivial) ?_ ?_
              ·
                refine DSteps.cons (fun Wd hd => ?_) ?_
                ·
                  exact DV.dr (dx_move rfl rfl) ⟨Below.refl _ _, rfl⟩
                refine DSteps.cons (fun Wd hd => ?_) ?_
                ·
                  exact DV.dr (dx_move rfl rfl) ⟨Below.refl _ _, rfl⟩
                refine DSteps.cons (fun Wd hd => ?_) ?_
                ·
                  exact DV.dr (dx_sub (r := ((k + 16 : Nat) : Int) - 16) rfl rfl rfl (wrap64_id (by omega))) ⟨Below.refl _ _, rfl⟩
                refine DSteps.cons (fun Wd hd => ?_) ?_
                ·
                  exact DV.dr (dx_idxA (o1 := (k + 16 - 16)) rfl Tryd.underlying61 ty_size_49_1 rfl rfl (by omega) (by first | (simp; done) | omega)) ⟨Below.refl _ _, rfl⟩
                refine DSteps.cons (fun Wd hd => ?_) ?_
                ·
                  have k95 := k95.below hd
                  exact DV.dr (dx_load rfl ty_one_49 rfl (k95.cell (k := (k + 16 - 16)) (cellU (by rw [show (sched64 zs k).length = 80 from (sched64_len _ _)]; exact (by omega))))) ⟨Below.refl _ _, rfl⟩
                refine DSteps.cons (fun Wd hd => ?_) ?_
                ·
                  exact DV.dr (dx_move rfl rfl) ⟨Below.refl _ _, rfl⟩
                refine DSteps.cons (fun Wd hd => ?_) ?_
                ·
                  exact DV.dr (dx_sub (r := ((k + 16 : Nat) : Int) - 15) rfl rfl rfl (wrap64_id (by omega))) ⟨Below.refl _ _, rfl⟩
                refine DSteps.cons (fun Wd hd => ?_) ?_
                ·
                  exact DV.dr (dx_idxA (o1 := (k + 16 - 15)) rfl Tryd.underlying61 ty_size_49_1 rfl rfl (by omega) (by first | (simp; done) | omega)) ⟨Below.refl _ _, rfl⟩
                refine DSteps.cons (fun Wd hd => ?_) ?_
                ·
                  have k95 := k95.below hd
                  exact DV.dr (dx_load rfl ty_one_49 rfl (k95.cell (k := (k + 16 - 15)) (cellU (by rw [show (sched64 zs k).length = 80 from (sched64_len _ _)]; exact (by omega))))) ⟨Below.refl _ _, rfl⟩
                refine DSteps.cons (fun Wd hd => ?_) ?_
                ·
                  exact DV.dr (dx_idxA (o1 := 6) rfl Tryd.underlying60 ty_size_59_3 rfl rfl (by decide) rfl) ⟨Below.refl _ _, rfl⟩
                refine DSteps.cons (fun Wd hd => ?_) ?_
                ·
                  have k17 := k17.below hd
                  exact DV.dr (dx_loadN (cs := [.int .i64 1, .int .i64 8, .int .i64 7]) rfl ty_agg_59_3 rfl (k17.part 6 3) rfl) ⟨Below.refl _ _, rfl⟩
                refine DSteps.cons (fun Wd hd => ?_) ?_
                ·
                  exact DV.dr (dx_move rfl rfl) ⟨Below.refl _ _, rfl⟩
                refine DSteps.cons (fun Wd hd => ?_) ?_
                ·
                  exact DR.mono (dx_cv rfl Tryd.func41 rfl rfl rfl ((show CV _ _ [_, _, _, _] _ (fun v _ => v = .int .u64 (lowA64 (at0 (sched64 zs k) (k + 16 - 15)))) from cv_oldB (ref_mixtrue64_v (at0 (sched64 zs k) (k + 16 - 15)) 1 8 7 Wd (hsi2 _) (by decide) (by decide) (by decide))))) (fun v W' ⟨h, hb⟩ => ⟨hb, (by rw [h]; exact rfl)⟩)
                refine DSteps.cons (fun Wd hd => ?_) ?_
                ·
                  exact DV.dr (dx_add rfl rfl rfl (wrap_m _)) ⟨Below.refl _ _, rfl⟩
                refine DSteps.cons (fun Wd hd => ?_) ?_
                ·
                  exact DV.dr (dx_move rfl rfl) ⟨Below.refl _ _, rfl⟩
                refine DSteps.cons (fun Wd hd => ?_) ?_
                ·
                  exact DV.dr (dx_sub (r := ((k + 16 : Nat) : Int) - 7) rfl rfl rfl (wrap64_id (by omega))) ⟨Below.refl _ _, rfl⟩
                refine DSteps.cons (fun Wd hd => ?_) ?_
                ·
                  exact DV.dr (dx_idxA (o1 := (k + 16 - 7)) rfl Tryd.underlying61 ty_size_49_1 rfl rfl (by omega) (by first | (simp; done) | omega)) ⟨Below.refl _ _, rfl⟩
                refine DSteps.cons (fun Wd hd => ?_) ?_
                ·
                  have k95 := k95.below hd
                  exact DV.dr (dx_load rfl ty_one_49 rfl (k95.cell (k := (k + 16 - 7)) (cellU (by rw [show (sched64 zs k).length = 80 from (sched64_len _ _)]; exact (by omega))))) ⟨Below.refl _ _, rfl⟩
                refine DSteps.cons (fun Wd hd => ?_) ?_
                ·
                  exact DV.dr (dx_add rfl rfl rfl (wrap_m _)) ⟨Below.refl _ _, rfl⟩
                refine DSteps.cons (fun Wd hd => ?_) ?_
                ·
                  exact DV.dr (dx_move rfl rfl) ⟨Below.refl _ _, rfl⟩
                refine DSteps.cons (fun Wd hd => ?_) ?_
                ·
                  exact DV.dr (dx_sub (r := ((k + 16 : Nat) : Int) - 2) rfl rfl rfl (wrap64_id (by omega))) ⟨Below.refl _ _, rfl⟩
                refine DSteps.cons (fun Wd hd => ?_) ?_
                ·
                  exact DV.dr (dx_idxA (o1 := (k + 16 - 2)) rfl Tryd.underlying61 ty_size_49_1 rfl rfl (by omega) (by first | (simp; done) | omega)) ⟨Below.refl _ _, rfl⟩
                refine DSteps.cons (fun Wd hd => ?_) ?_
                ·
                  have k95 := k95.below hd
                  exact DV.dr (dx_load rfl ty_one_49 rfl (k95.cell (k := (k + 16 - 2)) (cellU (by rw [show (sched64 zs k).length = 80 from (sched64_len _ _)]; exact (by omega))))) ⟨Below.refl _ _, rfl⟩
                refine DSteps.cons (fun Wd hd => ?_) ?_
                ·
                  exact DV.dr (dx_idxA (o1 := 9) rfl Tryd.underlying60 ty_size_59_3 rfl rfl (by decide) rfl) ⟨Below.refl _ _, rfl⟩
                refine DSteps.cons (fun Wd hd => ?_) ?_
                ·
                  have k17 := k17.below hd
                  exact DV.dr (dx_loadN (cs := [.int .i64 19, .int .i64 61, .int .i64 6]) rfl ty_agg_59_3 rfl (k17.part 9 3) rfl) ⟨Below.refl _ _, rfl⟩
                refine DSteps.cons (fun Wd hd => ?_) ?_
                ·
                  exact DV.dr (dx_move rfl rfl) ⟨Below.refl _ _, rfl⟩
                refine DSteps.cons (fun Wd hd => ?_) ?_
                ·
                  exact DR.mono (dx_cv rfl Tryd.func41 rfl rfl rfl ((show CV _ _ [_, _, _, _] _ (fun v _ => v = .int .u64 (lowB64 (at0 (sched64 zs k) (k + 16 - 2)))) from cv_oldB (ref_mixtrue64_v (at0 (sched64 zs k) (k + 16 - 2)) 19 61 6 Wd (hsi2 _) (by decide) (by decide) (by decide))))) (fun v W' ⟨h, hb⟩ => ⟨hb, (by rw [h]; exact rfl)⟩)
                refine DSteps.cons (fun Wd hd => ?_) ?_
                ·
                  exact DV.dr (dx_add rfl rfl rfl (wrap_m _)) ⟨Below.refl _ _, rfl⟩
                refine DSteps.cons (fun Wd hd => ?_) ?_
                ·
                  exact DV.dr (dx_move rfl rfl) ⟨Below.refl _ _, rfl⟩
                refine DSteps.cons (fun Wd hd => ?_) ?_
                ·
                  exact DR.mono (dx_cv rfl Tryd.func40 rfl rfl rfl ((show CV _ _ [_, _] _ (fun v _ => v = .int .u64 (next64 (sched64 zs k) (16 + k))) from CV.mono (cv_old (ref_cut64_v ((((at0 (sched64 zs k) (k + 16 - 16) + lowA64 (at0 (sched64 zs k) (k + 16 - 15))) % 18446744073709551616 + at0 (sched64 zs k) (k + 16 - 7)) % 18446744073709551616 + lowB64 (at0 (sched64 zs k) (k + 16 - 2))) % 18446744073709551616) Wd (mod_in _))) fun v _ _ h => h.trans (congrArg (Value.int .u64) (show (((at0 (sched64 zs k) (k + 16 - 16) + lowA64 (at0 (sched64 zs k) (k + 16 - 15))) % 18446744073709551616 + at0 (sched64 zs k) (k + 16 - 7)) % 18446744073709551616 + lowB64 (at0 (sched64 zs k) (k + 16 - 2))) % 18446744073709551616 = next64 (sched64 zs k) (16 + k) from by rw [show 16 + k = k + 16 from Nat.add_comm _ _]; exact next64_eq (sched64 zs k) (k + 16) _ _ _ _ rfl rfl rfl rfl))))) (fun v W' ⟨h, hb⟩ => ⟨hb, (by rw [h]; exact rfl)⟩)
                exact trivial
              ·
                intro W122 b123
                replace hT := hT.below b123
                replace hA := hA.below b123
                replace k17 := k17.below b123
                replace k68 := k68.below b123
                replace k95 := k95.below b123
                replace hB := below_then hB b123
                replace hL := LL.below hL b123
                refine WL.val (dx_idxA (o1 := (k + 16)) rfl Tryd.underlying61 ty_size_49_1 rfl rfl (by omega) (by first | (simp; done) | omega)) rfl rfl ?_
                refine WL.do (dx_store (cs' := encU ((sched64 zs k).set (k + 16) (next64 (sched64 zs k) (16 + k)))) (vs := [.int .u64 (next64 (sched64 zs k) (16 + k))]) rfl ty_size_49_1 rfl rfl rfl (oc_cons rfl oc_nil) k95 rfl (by rw [encU_len, show (sched64 zs k).length = 80 from (sched64_len _ _)]; exact (by omega)) (setU (by rw [show (sched64 zs k).length = 80 from (sched64_len _ _)]; exact (by omega)))) rfl ?_
                rintro _ W124 ⟨k126, o125⟩
                replace k17 := k17.other o125 n98
                replace k68 := k68.other o125 n99
                clear k95
                replace hT := hT.only o125 (.head _)
                replace hA := hA.only o125 (.head _)
                replace hB := o125.below hB l100
                replace hL := LL.only hL o125
                refine WL.nil ?_
                refine hK121 ?_
                refine WC.region ?_
                refine WL.val (dx_move rfl rfl) rfl rfl ?_
                refine WL.val (dx_add (r := ((k + 1 + 16 : Nat) : Int)) rfl rfl rfl (by rw [wrap64_id (by omega)]; omega)) rfl rfl ?_
                refine WL.val (dx_assign rfl rfl) rfl rfl ?_
                refine WL.nil ?_
                replace k126 : Blk W124 W88.heap.size (encU (sched64 zs (k + 1))) := by rw [show k + 16 = 16 + k from Nat.add_comm _ _] at k126; exact k126
                exact hK116 (k + 1) ⟨(by omega), hB, hL, hT, hA, k17, k68, k126⟩ (by omega) (by repeat first | exact trivial | exact And.intro rfl trivial | refine And.intro rfl ?_ | refine And.intro (congrArg (fun z : Int => some (Value.int .i64 z)) (by omega)) ?_)
            ·
              replace c120 := of_decide_eq_false c120
              refine WC.exit ?_
              refine hK114 ?_
              refine WC.seq fun K127 hK127 => ?_
              refine WC.region ?_
              refine WL.val (dx_loadN rfl ty_agg_52_8 rfl k68.range (by rw [encU_len]; exact hsl)) rfl rfl ?_
              refine WL.get (dx_alloc (cs := encU (List.replicate 8 0)) rfl ty_zero_52 cells_z8) rfl rfl ?_
              rintro _ W128 ⟨rfl, k129, b130, z131⟩
              have n132 : w.heap.size ≠ W117.heap.size := Nat.ne_of_lt k17.lt
              have n133 : W53.heap.size ≠ W117.heap.size := Nat.ne_of_lt k68.lt
              have n134 : W88.heap.size ≠ W117.heap.size := Nat.ne_of_lt k95.lt
              have l135 := hB.size
              replace hT := hT.more b130 (Nat.le_refl _)
              replace hA := hA.more b130 (Nat.le_refl _)
              replace k17 := k17.below b130
              replace k68 := k68.below b130
              replace k95 := k95.below b130
              replace hB := below_then hB b130
              replace hL := LL.more hL z131
              refine WL.do (dx_storeW (vs := (encU st)) rfl ty_size_52_8 rfl rfl rfl (oc_U st) k129 (by rw [encU_len]; exact hsl) (by rw [encU_len, List.length_replicate])) rfl ?_
              rintro _ W136 ⟨k138, o137⟩
              replace k17 := k17.other o137 n132
              replace k68 := k68.other o137 n133
              replace k95 := k95.other o137 n134
              clear k129
              replace hT := hT.only o137 (.head _)
              replace hA := hA.only o137 (.head _)
              replace hB := o137.below hB l135
              replace hL := LL.only hL o137
              refine WL.nil ?_
              refine hK127 ?_
              refine WC.seq fun K139 hK139 => ?_
              refine WC.seq fun K140 hK140 => ?_
              refine WC.region ?_
              refine WL.val (dx_assign rfl rfl) rfl rfl ?_
              refine WL.nil ?_
              refine hK140 ?_
              refine WC.block ?_
              have hks : k = 64 := by omega
              subst hks
              replace k138 : Blk W136 W117.heap.size [.int .u64 (rounds64 (sched64 zs 64) (eight64 st) 0).a, .int .u64 (rounds64 (sched64 zs 64) (eight64 st) 0).b, .int .u64 (rounds64 (sched64 zs 64) (eight64 st) 0).c, .int .u64 (rounds64 (sched64 zs 64) (eight64 st) 0).d, .int .u64 (rounds64 (sched64 zs 64) (eight64 st) 0).e, .int .u64 (rounds64 (sched64 zs 64) (eight64 st) 0).f, .int .u64 (rounds64 (sched64 zs 64) (eight64 st) 0).g, .int .u64 (rounds64 (sched64 zs 64) (eight64 st) 0).h] := by rw [enc8U hsl] at k138; exact k138
              have hok := rounds64_ok (m := sched64 zs 64) (eight64_ok hsi)
              refine WC.loop (fun (i : Nat) => [(1, .int .i64 64), (5, .pointer (some ⟨w.heap.size, 0, none⟩)), (6, .int .i64 80), (7, ov2), (10, .pointer (some ⟨W53.heap.size, 0, none⟩)), (12, .int .i64 8), (13, .int .i64 ((q * 128 : Nat) : Int)), (14, .pointer (some ⟨W88.heap.size, 0, none⟩)), (17, .pointer (some ⟨W117.heap.size, 0, none⟩)), (18, .int .i64 (i : Int))]) (fun (i : Nat) W => i ≤ 80 ∧ Below w.heap.size w W ∧ LL (W117.heap.size :: W88.heap.size :: W53.heap.size :: w.heap.size :: L) W ∧ TabL (W117.heap.size :: W88.heap.size :: W53.heap.size :: w.heap.size :: L) W ∧ RdF 1 (W117.heap.size :: W88.heap.size :: W53.heap.size :: w.heap.size :: L) W ov2 ((full64 D).map e8) ∧ Blk W w.heap.size [.int .i64 28, .int .i64 34, .int .i64 39, .int .i64 14, .int .i64 18, .int .i64 41, .int .i64 1, .int .i64 8, .int .i64 7, .int .i64 19, .int .i64 61, .int .i64 6] ∧ Blk W W53.heap.size (encU st) ∧ Blk W W88.heap.size (encU (sched64 zs 64)) ∧ Blk W W117.heap.size [.int .u64 ((rounds64 (sched64 zs 64) (eight64 st) i).a), .int .u64 ((rounds64 (sched64 zs 64) (eight64 st) i).b), .int .u64 ((rounds64 (sched64 zs 64) (eight64 st) i).c), .int .u64 ((rounds64 (sched64 zs 64) (eight64 st) i).d), .int .u64 ((rounds64 (sched64 zs 64) (eight64 st) i).e), .int .u64 ((rounds64 (sched64 zs 64) (eight64 st) i).f), .int .u64 ((rounds64 (sched64 zs 64) (eight64 st) i).g), .int .u64 ((rounds64 (sched64 zs 64) (eight64 st) i).h)]) (fun (i : Nat) => 80 - i) 0 (by repeat first | exact trivial | exact And.intro rfl trivial | refine And.intro rfl ?_ | refine And.intro (congrArg (fun z : Int => some (Value.int .i64 z)) (by omega)) ?_) ⟨Nat.zero_le _, hB, hL, hT, hA, k17, k68, k95, k138⟩ ?_
              clear hT hA k17 k68 k95 k138 hB hL
              rintro K141 i W142 ⟨hi, hB, hL, hT, hA, k17, k68, k95, k138⟩ hK141
              obtain ⟨ev, hev⟩ : ∃ e, e = (rounds64 (sched64 zs 64) (eight64 st) i) := ⟨_, rfl⟩
              rw [← hev] at k138
              have hokv := hok i
              rw [← hev] at hokv
              refine WC.seq fun K143 hK143 => ?_
              refine WC.seq fun K144 hK144 => ?_
              refine WC.region ?_
              refine WL.val (dx_move rfl rfl) rfl rfl ?_
              refine WL.val (dx_move rfl rfl) rfl rfl ?_
              refine WL.val (dx_lss rfl rfl rfl) rfl rfl ?_
              refine WL.nil ?_
              refine hK144 ?_
              refine WC.cond rfl (fun c145 => ?_) (fun c145 => ?_)
              ·
                replace c145 := of_decide_eq_true c145
                refine WC.skip ?_
                refine hK143 ?_
                refine WC.seq fun K146 hK146 => ?_
                refine WC.block ?_
                refine WC.seq fun K147 hK147 => ?_
                refine WC.drawM 35 ((some 158, .is (.pointer (some ⟨W117.heap.size, 7, none⟩))) :: (some 159, .is (.int .u64 ev.h)) :: (some 160, .is (.pointer (some ⟨W117.heap.size, 4, none⟩))) :: (some 161, .is (.int .u64 ev.e)) :: (some 162, .is (.pointer (some ⟨w.heap.size, 3, none⟩))) :: (some 163, .is (.agg #[.int .i64 14, .int .i64 18, .int .i64 41])) :: (some 164, .is (.int .i64 64)) :: (some 165, .is (.int .u64 (bigB64 ev.e))) :: (some 166, .is (.int .u64 ((ev.h + bigB64 ev.e) % 18446744073709551616))) :: (some 167, .is (.pointer (some ⟨W117.heap.size, 4, none⟩))) :: (some 168, .is (.int .u64 ev.e)) :: (some 169, .is (.pointer (some ⟨W117.heap.size, 5, none⟩))) :: (some 170, .is (.int .u64 ev.f)) :: (some 171, .is (.int .u64 (bits BinOp.and .u64 ev.e ev.f))) :: (some 172, .is (.pointer (some ⟨W117.heap.size, 4, none⟩))) :: (some 173, .is (.int .u64 ev.e)) :: (some 174, .is (.int .u64 (not64 ev.e))) :: (some 175, .is (.pointer (some ⟨W117.heap.size, 6, none⟩))) :: (some 176, .is (.int .u64 ev.g)) :: (some 177, .is (.int .u64 (bits BinOp.and .u64 (not64 ev.e) ev.g))) :: (some 178, .is (.int .u64 (bits BinOp.xor .u64 (bits BinOp.and .u64 ev.e ev.f) (bits BinOp.and .u64 (not64 ev.e) ev.g)))) :: (some 179, .is (.int .u64 (((ev.h + bigB64 ev.e) % 18446744073709551616 + bits BinOp.xor .u64 (bits BinOp.and .u64 ev.e ev.f) (bits BinOp.and .u64 (not64 ev.e) ev.g)) % 18446744073709551616))) :: (some 180, .is (.int .i64 (i : Int))) :: (some 181, .is (.pointer (some ⟨2, i, none⟩))) :: (some 182, .is (.int .u64 (at0 cubesL i))) :: (some 183, .is (.int .i64 64)) :: (some 184, .is (.int .i64 0)) :: (some 185, .is (.int .u64 0)) :: (some 186, .is (.int .u64 (at0 cubesL i))) :: (some 187, .is (.int .u64 ((((ev.h + bigB64 ev.e) % 18446744073709551616 + bits BinOp.xor .u64 (bits BinOp.and .u64 ev.e ev.f) (bits BinOp.and .u64 (not64 ev.e) ev.g)) % 18446744073709551616 + at0 cubesL i) % 18446744073709551616))) :: (some 188, .is (.int .i64 (i : Int))) :: (some 189, .is (.pointer (some ⟨W88.heap.size, i, none⟩))) :: (some 190, .is (.int .u64 (at0 (sched64 zs 64) i))) :: (some 191, .is (.int .u64 (((((ev.h + bigB64 ev.e) % 18446744073709551616 + bits BinOp.xor .u64 (bits BinOp.and .u64 ev.e ev.f) (bits BinOp.and .u64 (not64 ev.e) ev.g)) % 18446744073709551616 + at0 cubesL i) % 18446744073709551616 + at0 (sched64 zs 64) i) % 18446744073709551616))) :: (some 192, .is (.int .i64 64)) :: []) [[], [0], [], [2], [], [4], [], [3, 5, 6], [1, 7], [], [9], [], [11], [10, 12], [], [14], [15], [], [17], [16, 18], [13, 19], [8, 20], [], [22], [23], [], [25], [26], [24, 27], [21, 28], [], [30], [31], [29, 32], []] (by kernel_rfl) (by kernel_rfl) (by kernel_rfl) (by kernel_rfl) (by kernel_rfl) (by kernel_rfl) (by kernel_rfl) (by exact trivial) ?_ ?_
                ·
                  refine DSteps.cons (fun Wd hd => ?_) ?_
                  ·
                    exact DV.dr (dx_idxA (o1 := 7) rfl Tryd.underlying52 ty_size_49_1 rfl rfl (by decide) rfl) ⟨Below.refl _ _, rfl⟩
                  refine DSteps.cons (fun Wd hd => ?_) ?_
                  ·
                    have k138 := k138.below hd
                    exact DV.dr (dx_load rfl ty_one_49 rfl (k138.cell (k := 7) rfl)) ⟨Below.refl _ _, rfl⟩
                  refine DSteps.cons (fun Wd hd => ?_) ?_
                  ·
                    exact DV.dr (dx_idxA (o1 := 4) rfl Tryd.underlying52 ty_size_49_1 rfl rfl (by decide) rfl) ⟨Below.refl _ _, rfl⟩
                  refine DSteps.cons (fun Wd hd => ?_) ?_
                  ·
                    have k138 := k138.below hd
                    exact DV.dr (dx_load rfl ty_one_49 rfl (k138.cell (k := 4) rfl)) ⟨Below.refl _ _, rfl⟩
                  refine DSteps.cons (fun Wd hd => ?_) ?_
                  ·
                    exact DV.dr (dx_idxA (o1 := 3) rfl Tryd.underlying60 ty_size_59_3 rfl rfl (by decide) rfl) ⟨Below.refl _ _, rfl⟩
                  refine DSteps.cons (fun Wd hd => ?_) ?_
                  ·
                    have k17 := k17.below hd
                    exact DV.dr (dx_loadN (cs := [.int .i64 14, .int .i64 18, .int .i64 41]) rfl ty_agg_59_3 rfl (k17.part 3 3) rfl) ⟨Below.refl _ _, rfl⟩
                  refine DSteps.cons (fun Wd hd => ?_) ?_
                  ·
                    exact DV.dr (dx_move rfl rfl) ⟨Below.refl _ _, rfl⟩
                  refine DSteps.cons (fun Wd hd => ?_) ?_
                  ·
                    exact DR.mono (dx_cv rfl Tryd.func41 rfl rfl rfl ((show CV _ _ [_, _, _, _] _ (fun v _ => v = .int .u64 (bigB64 ev.e)) from cv_oldB (ref_mixfalse64_v ev.e 14 18 41 Wd hokv.2.2.2.2.1 (by decide) (by decide) (by decide))))) (fun v W' ⟨h, hb⟩ => ⟨hb, (by rw [h]; exact rfl)⟩)
                  refine DSteps.cons (fun Wd hd => ?_) ?_
                  ·
                    exact DV.dr (dx_add rfl rfl rfl (wrap_m _)) ⟨Below.refl _ _, rfl⟩
                  refine DSteps.cons (fun Wd hd => ?_) ?_
                  ·
                    exact DV.dr (dx_idxA (o1 := 4) rfl Tryd.underlying52 ty_size_49_1 rfl rfl (by decide) rfl) ⟨Below.refl _ _, rfl⟩
                  refine DSteps.cons (fun Wd hd => ?_) ?_
                  ·
                    have k138 := k138.below hd
                    exact DV.dr (dx_load rfl ty_one_49 rfl (k138.cell (k := 4) rfl)) ⟨Below.refl _ _, rfl⟩
                  refine DSteps.cons (fun Wd hd => ?_) ?_
                  ·
                    exact DV.dr (dx_idxA (o1 := 5) rfl Tryd.underlying52 ty_size_49_1 rfl rfl (by decide) rfl) ⟨Below.refl _ _, rfl⟩
                  refine DSteps.cons (fun Wd hd => ?_) ?_
                  ·
                    have k138 := k138.below hd
                    exact DV.dr (dx_load rfl ty_one_49 rfl (k138.cell (k := 5) rfl)) ⟨Below.refl _ _, rfl⟩
                  refine DSteps.cons (fun Wd hd => ?_) ?_
                  ·
                    exact DV.dr (dx_and_i (r := bits BinOp.and .u64 ev.e ev.f) rfl rfl rfl rfl) ⟨Below.refl _ _, rfl⟩
                  refine DSteps.cons (fun Wd hd => ?_) ?_
                  ·
                    exact DV.dr (dx_idxA (o1 := 4) rfl Tryd.underlying52 ty_size_49_1 rfl rfl (by decide) rfl) ⟨Below.refl _ _, rfl⟩
                  refine DSteps.cons (fun Wd hd => ?_) ?_
                  ·
                    have k138 := k138.below hd
                    exact DV.dr (dx_load rfl ty_one_49 rfl (k138.cell (k := 4) rfl)) ⟨Below.refl _ _, rfl⟩
                  refine DSteps.cons (fun Wd hd => ?_) ?_
                  ·
                    exact DV.dr (dx_unX rfl rfl) ⟨Below.refl _ _, rfl⟩
                  refine DSteps.cons (fun Wd hd => ?_) ?_
                  ·
                    exact DV.dr (dx_idxA (o1 := 6) rfl Tryd.underlying52 ty_size_49_1 rfl rfl (by decide) rfl) ⟨Below.refl _ _, rfl⟩
                  refine DSteps.cons (fun Wd hd => ?_) ?_
                  ·
                    have k138 := k138.below hd
                    exact DV.dr (dx_load rfl ty_one_49 rfl (k138.cell (k := 6) rfl)) ⟨Below.refl _ _, rfl⟩
                  refine DSteps.cons (fun Wd hd => ?_) ?_
                  ·
                    exact DV.dr (dx_and_i (r := bits BinOp.and .u64 (not64 ev.e) ev.g) rfl rfl rfl rfl) ⟨Below.refl _ _, rfl⟩
                  refine DSteps.cons (fun Wd hd => ?_) ?_
                  ·
                    exact DV.dr (dx_xor_i (r := bits BinOp.xor .u64 (bits BinOp.and .u64 ev.e ev.f) (bits BinOp.and .u64 (not64 ev.e) ev.g)) rfl rfl rfl rfl) ⟨Below.refl _ _, rfl⟩
                  refine DSteps.cons (fun Wd hd => ?_) ?_
                  ·
                    exact DV.dr (dx_add rfl rfl rfl (wrap_m _)) ⟨Below.refl _ _, rfl⟩
                  refine DSteps.cons (fun Wd hd => ?_) ?_
                  ·
                    exact DV.dr (dx_move rfl rfl) ⟨Below.refl _ _, rfl⟩
                  refine DSteps.cons (fun Wd hd => ?_) ?_
                  ·
                    exact DV.dr (dx_idxA (o1 := i) rfl Tryd.underlying61 ty_size_49_1 rfl rfl (by omega) (by first | (simp; done) | omega)) ⟨Below.refl _ _, rfl⟩
                  refine DSteps.cons (fun Wd hd => ?_) ?_
                  ·
                    have hT := hT.below hd
                    exact DV.dr (dx_load rfl ty_one_49 rfl (hT.1.ro i (by omega))) ⟨Below.refl _ _, rfl⟩
                  refine DSteps.cons (fun Wd hd => ?_) ?_
                  ·
                    exact DV.dr (dx_move rfl rfl) ⟨Below.refl _ _, rfl⟩
                  refine DSteps.cons (fun Wd hd => ?_) ?_
                  ·
                    exact DV.dr (dx_sub (r := 0) rfl rfl rfl (by decide)) ⟨Below.refl _ _, rfl⟩
                  refine DSteps.cons (fun Wd hd => ?_) ?_
                  ·
                    exact DV.dr (dx_conv (r := 0) rfl Tryd.underlying3 Tryd.underlying42 rfl (by decide)) ⟨Below.refl _ _, rfl⟩
                  refine DSteps.cons (fun Wd hd => ?_) ?_
                  ·
                    exact DV.dr (dx_shr (r := at0 cubesL i) rfl rfl rfl (by decide) (by decide) (Int.ediv_one _)) ⟨Below.refl _ _, rfl⟩
                  refine DSteps.cons (fun Wd hd => ?_) ?_
                  ·
                    exact DV.dr (dx_add rfl rfl rfl (wrap_m _)) ⟨Below.refl _ _, rfl⟩
                  refine DSteps.cons (fun Wd hd => ?_) ?_
                  ·
                    exact DV.dr (dx_move rfl rfl) ⟨Below.refl _ _, rfl⟩
                  refine DSteps.cons (fun Wd hd => ?_) ?_
                  ·
                    exact DV.dr (dx_idxA (o1 := i) rfl Tryd.underlying61 ty_size_49_1 rfl rfl (by omega) (by first | (simp; done) | omega)) ⟨Below.refl _ _, rfl⟩
                  refine DSteps.cons (fun Wd hd => ?_) ?_
                  ·
                    have k95 := k95.below hd
                    exact DV.dr (dx_load rfl ty_one_49 rfl (k95.cell (k := i) (cellU (by rw [show (sched64 zs 64).length = 80 from (sched64_len _ _)]; exact (by omega))))) ⟨Below.refl _ _, rfl⟩
                  refine DSteps.cons (fun Wd hd => ?_) ?_
                  ·
                    exact DV.dr (dx_add rfl rfl rfl (wrap_m _)) ⟨Below.refl _ _, rfl⟩
                  refine DSteps.cons (fun Wd hd => ?_) ?_
                  ·
                    exact DV.dr (dx_move rfl rfl) ⟨Below.refl _ _, rfl⟩
                  exact trivial
                ·
                  intro W148 b149
                  replace hT := hT.below b149
                  replace hA := hA.below b149
                  replace k17 := k17.below b149
                  replace k68 := k68.below b149
                  replace k95 := k95.below b149
                  replace k138 := k138.below b149
                  replace hB := below_then hB b149
                  replace hL := LL.below hL b149
                  refine WL.get (dx_cv rfl Tryd.func40 rfl rfl rfl ((show CV _ _ [_, _] _ (fun v _ => v = .int .u64 (tt64 (sched64 zs 64) i ev)) from CV.mono (cv_old (ref_cut64_v (((((ev.h + bigB64 ev.e) % 18446744073709551616 + bits BinOp.xor .u64 (bits BinOp.and .u64 ev.e ev.f) (bits BinOp.and .u64 (not64 ev.e) ev.g)) % 18446744073709551616 + at0 cubesL i) % 18446744073709551616 + at0 (sched64 zs 64) i) % 18446744073709551616) W148 (mod_in _))) fun v _ _ h => h.trans (congrArg (Value.int .u64) (show ((((ev.h + bigB64 ev.e) % 18446744073709551616 + bits BinOp.xor .u64 (bits BinOp.and .u64 ev.e ev.f) (bits BinOp.and .u64 (not64 ev.e) ev.g)) % 18446744073709551616 + at0 cubesL i) % 18446744073709551616 + at0 (sched64 zs 64) i) % 18446744073709551616 = tt64 (sched64 zs 64) i ev from t64_eq (sched64 zs 64) i ev hokv))))) rfl rfl ?_
                  rintro _ W151 ⟨rfl, b150⟩
                  replace hT := hT.below b150
                  replace hA := hA.below b150
                  replace k17 := k17.below b150
                  replace k68 := k68.below b150
                  replace k95 := k95.below b150
                  replace k138 := k138.below b150
                  replace hB := below_then hB b150
                  replace hL := LL.below hL b150
                  refine WL.val (dx_assign rfl rfl) rfl rfl ?_
                  refine WL.nil ?_
                  refine hK147 ?_
                  refine WC.seq fun K152 hK152 => ?_
                  refine WC.drawM 25 [(some 194, .is (.pointer (some ⟨W117.heap.size, 0, none⟩))), (some 195, .is (.int .u64 ev.a)), (some 196, .is (.pointer (some ⟨w.heap.size, 0, none⟩))), (some 197, .is (.agg #[.int .i64 28, .int .i64 34, .int .i64 39])), (some 198, .is (.int .i64 64)), (some 199, .is (.int .u64 (bigA64 ev.a))), (some 200, .is (.pointer (some ⟨W117.heap.size, 0, none⟩))), (some 201, .is (.int .u64 ev.a)), (some 202, .is (.pointer (some ⟨W117.heap.size, 1, none⟩))), (some 203, .is (.int .u64 ev.b)), (some 204, .is (.int .u64 (bits BinOp.and .u64 ev.a ev.b))), (some 205, .is (.pointer (some ⟨W117.heap.size, 0, none⟩))), (some 206, .is (.int .u64 ev.a)), (some 207, .is (.pointer (some ⟨W117.heap.size, 2, none⟩))), (some 208, .is (.int .u64 ev.c)), (some 209, .is (.int .u64 (bits BinOp.and .u64 ev.a ev.c))), (some 210, .is (.int .u64 (bits BinOp.xor .u64 (bits BinOp.and .u64 ev.a ev.b) (bits BinOp.and .u64 ev.a ev.c)))), (some 211, .is (.pointer (some ⟨W117.heap.size, 1, none⟩))), (some 212, .is (.int .u64 ev.b)), (some 213, .is (.pointer (some ⟨W117.heap.size, 2, none⟩))), (some 214, .is (.int .u64 ev.c)), (some 215, .is (.int .u64 (bits BinOp.and .u64 ev.b ev.c))), (some 216, .is (.int .u64 (bits BinOp.xor .u64 (bits BinOp.xor .u64 (bits BinOp.and .u64 ev.a ev.b) (bits BinOp.and .u64 ev.a ev.c)) (bits BinOp.and .u64 ev.b ev.c)))), (some 217, .is (.int .u64 ((bigA64 ev.a + bits BinOp.xor .u64 (bits BinOp.xor .u64 (bits BinOp.and .u64 ev.a ev.b) (bits BinOp.and .u64 ev.a ev.c)) (bits BinOp.and .u64 ev.b ev.c)) % 18446744073709551616))), (some 218, .is (.int .i64 64))] [[], [0], [], [2], [], [1, 3, 4], [], [6], [], [8], [7, 9], [], [11], [], [13], [12, 14], [10, 15], [], [17], [], [19], [18, 20], [16, 21], [5, 22], []] (by kernel_rfl) (by kernel_rfl) (by kernel_rfl) (by kernel_rfl) (by kernel_rfl) (by kernel_rfl) (by kernel_rfl) (by exact trivial) ?_ ?_
                  ·
                    refine DSteps.cons (fun Wd hd => ?_) ?_
                    ·
                      exact DV.dr (dx_idxA (o1 := 0) rfl Tryd.underlying52 ty_size_49_1 rfl rfl (by decide) rfl) ⟨Below.refl _ _, rfl⟩
                    refine DSteps.cons (fun Wd hd => ?_) ?_
                    ·
                      have k138 := k138.below hd
                      exact DV.dr (dx_load rfl ty_one_49 rfl (k138.cell (k := 0) rfl)) ⟨Below.refl _ _, rfl⟩
                    refine DSteps.cons (fun Wd hd => ?_) ?_
                    ·
                      exact DV.dr (dx_idxA (o1 := 0) rfl Tryd.underlying60 ty_size_59_3 rfl rfl (by decide) rfl) ⟨Below.refl _ _, rfl⟩
                    refine DSteps.cons (fun Wd hd => ?_) ?_
                    ·
                      have k17 := k17.below hd
                      exact DV.dr (dx_loadN (cs := [.int .i64 28, .int .i64 34, .int .i64 39]) rfl ty_agg_59_3 rfl (k17.part 0 3) rfl) ⟨Below.refl _ _, rfl⟩
                    refine DSteps.cons (fun Wd hd => ?_) ?_
                    ·
                      exact DV.dr (dx_move rfl rfl) ⟨Below.refl _ _, rfl⟩
                    refine DSteps.cons (fun Wd hd => ?_) ?_
                    ·
                      exact DR.mono (dx_cv rfl Tryd.func41 rfl rfl rfl ((show CV _ _ [_, _, _, _] _ (fun v _ => v = .int .u64 (bigA64 ev.a)) from cv_oldB (ref_mixfalse64_v ev.a 28 34 39 Wd hokv.1 (by decide) (by decide) (by decide))))) (fun v W' ⟨h, hb⟩ => ⟨hb, (by rw [h]; exact rfl)⟩)
                    refine DSteps.cons (fun Wd hd => ?_) ?_
                    ·
                      exact DV.dr (dx_idxA (o1 := 0) rfl Tryd.underlying52 ty_size_49_1 rfl rfl (by decide) rfl) ⟨Below.refl _ _, rfl⟩
                    refine DSteps.cons (fun Wd hd => ?_) ?_
                    ·
                      have k138 := k138.below hd
                      exact DV.dr (dx_load rfl ty_one_49 rfl (k138.cell (k := 0) rfl)) ⟨Below.refl _ _, rfl⟩
                    refine DSteps.cons (fun Wd hd => ?_) ?_
                    ·
                      exact DV.dr (dx_idxA (o1 := 1) rfl Tryd.underlying52 ty_size_49_1 rfl rfl (by decide) rfl) ⟨Below.refl _ _, rfl⟩
                    refine DSteps.cons (fun Wd hd => ?_) ?_
                    ·
                      have k138 := k138.below hd
                      exact DV.dr (dx_load rfl ty_one_49 rfl (k138.cell (k := 1) rfl)) ⟨Below.refl _ _, rfl⟩
                    refine DSteps.cons (fun Wd hd => ?_) ?_
                    ·
                      exact DV.dr (dx_and_i (r := bits BinOp.and .u64 ev.a ev.b) rfl rfl rfl rfl) ⟨Below.refl _ _, rfl⟩
                    refine DSteps.cons (fun Wd hd => ?_) ?_
                    ·
                      exact DV.dr (dx_idxA (o1 := 0) rfl Tryd.underlying52 ty_size_49_1 rfl rfl (by decide) rfl) ⟨Below.refl _ _, rfl⟩
                    refine DSteps.cons (fun Wd hd => ?_) ?_
                    ·
                      have k138 := k138.below hd
                      exact DV.dr (dx_load rfl ty_one_49 rfl (k138.cell (k := 0) rfl)) ⟨Below.refl _ _, rfl⟩
                    refine DSteps.cons (fun Wd hd => ?_) ?_
                    ·
                      exact DV.dr (dx_idxA (o1 := 2) rfl Tryd.underlying52 ty_size_49_1 rfl rfl (by decide) rfl) ⟨Below.refl _ _, rfl⟩
                    refine DSteps.cons (fun Wd hd => ?_) ?_
                    ·
                      have k138 := k138.below hd
                      exact DV.dr (dx_load rfl ty_one_49 rfl (k138.cell (k := 2) rfl)) ⟨Below.refl _ _, rfl⟩
                    refine DSteps.cons (fun Wd hd => ?_) ?_
                    ·
                      exact DV.dr (dx_and_i (r := bits BinOp.and .u64 ev.a ev.c) rfl rfl rfl rfl) ⟨Below.refl _ _, rfl⟩
                    refine DSteps.cons (fun Wd hd => ?_) ?_
                    ·
                      exact DV.dr (dx_xor_i (r := bits BinOp.xor .u64 (bits BinOp.and .u64 ev.a ev.b) (bits BinOp.and .u64 ev.a ev.c)) rfl rfl rfl rfl) ⟨Below.refl _ _, rfl⟩
                    refine DSteps.cons (fun Wd hd => ?_) ?_
                    ·
                      exact DV.dr (dx_idxA (o1 := 1) rfl Tryd.underlying52 ty_size_49_1 rfl rfl (by decide) rfl) ⟨Below.refl _ _, rfl⟩
                    refine DSteps.cons (fun Wd hd => ?_) ?_
                    ·
                      have k138 := k138.below hd
                      exact DV.dr (dx_load rfl ty_one_49 rfl (k138.cell (k := 1) rfl)) ⟨Below.refl _ _, rfl⟩
                    refine DSteps.cons (fun Wd hd => ?_) ?_
                    ·
                      exact DV.dr (dx_idxA (o1 := 2) rfl Tryd.underlying52 ty_size_49_1 rfl rfl (by decide) rfl) ⟨Below.refl _ _, rfl⟩
                    refine DSteps.cons (fun Wd hd => ?_) ?_
                    ·
                      have k138 := k138.below hd
                      exact DV.dr (dx_load rfl ty_one_49 rfl (k138.cell (k := 2) rfl)) ⟨Below.refl _ _, rfl⟩
                    refine DSteps.cons (fun Wd hd => ?_) ?_
                    ·
                      exact DV.dr (dx_and_i (r := bits BinOp.and .u64 ev.b ev.c) rfl rfl rfl rfl) ⟨Below.refl _ _, rfl⟩
                    refine DSteps.cons (fun Wd hd => ?_) ?_
                    ·
                      exact DV.dr (dx_xor_i (r := bits BinOp.xor .u64 (bits BinOp.xor .u64 (bits BinOp.and .u64 ev.a ev.b) (bits BinOp.and .u64 ev.a ev.c)) (bits BinOp.and .u64 ev.b ev.c)) rfl rfl rfl rfl) ⟨Below.refl _ _, rfl⟩
                    refine DSteps.cons (fun Wd hd => ?_) ?_
                    ·
                      exact DV.dr (dx_add rfl rfl rfl (wrap_m _)) ⟨Below.refl _ _, rfl⟩
                    refine DSteps.cons (fun Wd hd => ?_) ?_
                    ·
                      exact DV.dr (dx_move rfl rfl) ⟨Below.refl _ _, rfl⟩
                    exact trivial
                  ·
                    intro W153 b154
                    replace hT := hT.below b154
                    replace hA := hA.below b154
                    replace k17 := k17.below b154
                    replace k68 := k68.below b154
                    replace k95 := k95.below b154
                    replace k138 := k138.below b154
                    replace hB := below_then hB b154
                    replace hL := LL.below hL b154
                    refine WL.get (dx_cv rfl Tryd.func40 rfl rfl rfl ((show CV _ _ [_, _] _ (fun v _ => v = .int .u64 (uu64 ev)) from CV.mono (cv_old (ref_cut64_v ((bigA64 ev.a + bits BinOp.xor .u64 (bits BinOp.xor .u64 (bits BinOp.and .u64 ev.a ev.b) (bits BinOp.and .u64 ev.a ev.c)) (bits BinOp.and .u64 ev.b ev.c)) % 18446744073709551616) W153 (mod_in _))) fun v _ _ h => h.trans (congrArg (Value.int .u64) (show (bigA64 ev.a + bits BinOp.xor .u64 (bits BinOp.xor .u64 (bits BinOp.and .u64 ev.a ev.b) (bits BinOp.and .u64 ev.a ev.c)) (bits BinOp.and .u64 ev.b ev.c)) % 18446744073709551616 = uu64 ev from u64_eq ev hokv))))) rfl rfl ?_
                    rintro _ W156 ⟨rfl, b155⟩
                    replace hT := hT.below b155
                    replace hA := hA.below b155
                    replace k17 := k17.below b155
                    replace k68 := k68.below b155
                    replace k95 := k95.below b155
                    replace k138 := k138.below b155
                    replace hB := below_then hB b155
                    replace hL := LL.below hL b155
                    refine WL.val (dx_assign rfl rfl) rfl rfl ?_
                    refine WL.nil ?_
                    refine hK152 ?_
                    refine WC.drawM 23 [(some 220, .is (.int .u64 (tt64 (sched64 zs 64) i ev))), (some 221, .is (.int .u64 (uu64 ev))), (some 222, .is (.int .u64 ((tt64 (sched64 zs 64) i ev + uu64 ev) % 18446744073709551616))), (some 223, .is (.int .i64 64)), (some 224, .is (.int .u64 ((tt64 (sched64 zs 64) i ev + uu64 ev) % 18446744073709551616))), (some 225, .is (.pointer (some ⟨W117.heap.size, 0, none⟩))), (some 226, .is (.int .u64 ev.a)), (some 227, .is (.pointer (some ⟨W117.heap.size, 1, none⟩))), (some 228, .is (.int .u64 ev.b)), (some 229, .is (.pointer (some ⟨W117.heap.size, 2, none⟩))), (some 230, .is (.int .u64 ev.c)), (some 231, .is (.pointer (some ⟨W117.heap.size, 3, none⟩))), (some 232, .is (.int .u64 ev.d)), (some 233, .is (.int .u64 (tt64 (sched64 zs 64) i ev))), (some 234, .is (.int .u64 ((ev.d + tt64 (sched64 zs 64) i ev) % 18446744073709551616))), (some 235, .is (.int .i64 64)), (some 236, .is (.int .u64 ((ev.d + tt64 (sched64 zs 64) i ev) % 18446744073709551616))), (some 237, .is (.pointer (some ⟨W117.heap.size, 4, none⟩))), (some 238, .is (.int .u64 ev.e)), (some 239, .is (.pointer (some ⟨W117.heap.size, 5, none⟩))), (some 240, .is (.int .u64 ev.f)), (some 241, .is (.pointer (some ⟨W117.heap.size, 6, none⟩))), (some 242, .is (.int .u64 ev.g))] [[], [], [0, 1], [], [2, 3], [], [5], [], [7], [], [9], [], [11], [], [12, 13], [], [14, 15, 4], [], [17], [], [19], [], [21]] (by kernel_rfl) (by kernel_rfl) (by kernel_rfl) (by kernel_rfl) (by kernel_rfl) (by kernel_rfl) (by kernel_rfl) (by exact trivial) ?_ ?_
                    ·
                      refine DSteps.cons (fun Wd hd => ?_) ?_
                      ·
                        exact DV.dr (dx_move rfl rfl) ⟨Below.refl _ _, rfl⟩
                      refine DSteps.cons (fun Wd hd => ?_) ?_
                      ·
                        exact DV.dr (dx_move rfl rfl) ⟨Below.refl _ _, rfl⟩
                      refine DSteps.cons (fun Wd hd => ?_) ?_
                      ·
                        exact DV.dr (dx_add rfl rfl rfl (wrap_m _)) ⟨Below.refl _ _, rfl⟩
                      refine DSteps.cons (fun Wd hd => ?_) ?_
                      ·
                        exact DV.dr (dx_move rfl rfl) ⟨Below.refl _ _, rfl⟩
                      refine DSteps.cons (fun Wd hd => ?_) ?_
                      ·
                        exact DR.mono (dx_cv rfl Tryd.func40 rfl rfl rfl ((show CV _ _ [_, _] _ (fun v _ => v = .int .u64 ((tt64 (sched64 zs 64) i ev + uu64 ev) % 18446744073709551616)) from CV.mono (cv_old (ref_cut64_v ((tt64 (sched64 zs 64) i ev + uu64 ev) % 18446744073709551616) Wd (mod_in _))) fun v _ _ h => h.trans (congrArg (Value.int .u64) (show (tt64 (sched64 zs 64) i ev + uu64 ev) % 18446744073709551616 = (tt64 (sched64 zs 64) i ev + uu64 ev) % 18446744073709551616 from cut_add64 _ _))))) (fun v W' ⟨h, hb⟩ => ⟨hb, (by rw [h]; exact rfl)⟩)
                      refine DSteps.cons (fun Wd hd => ?_) ?_
                      ·
                        exact DV.dr (dx_idxA (o1 := 0) rfl Tryd.underlying52 ty_size_49_1 rfl rfl (by decide) rfl) ⟨Below.refl _ _, rfl⟩
                      refine DSteps.cons (fun Wd hd => ?_) ?_
                      ·
                        have k138 := k138.below hd
                        exact DV.dr (dx_load rfl ty_one_49 rfl (k138.cell (k := 0) rfl)) ⟨Below.refl _ _, rfl⟩
                      refine DSteps.cons (fun Wd hd => ?_) ?_
                      ·
                        exact DV.dr (dx_idxA (o1 := 1) rfl Tryd.underlying52 ty_size_49_1 rfl rfl (by decide) rfl) ⟨Below.refl _ _, rfl⟩
                      refine DSteps.cons (fun Wd hd => ?_) ?_
                      ·
                        have k138 := k138.below hd
                        exact DV.dr (dx_load rfl ty_one_49 rfl (k138.cell (k := 1) rfl)) ⟨Below.refl _ _, rfl⟩
                      refine DSteps.cons (fun Wd hd => ?_) ?_
                      ·
                        exact DV.dr (dx_idxA (o1 := 2) rfl Tryd.underlying52 ty_size_49_1 rfl rfl (by decide) rfl) ⟨Below.refl _ _, rfl⟩
                      refine DSteps.cons (fun Wd hd => ?_) ?_
                      ·
                        have k138 := k138.below hd
                        exact DV.dr (dx_load rfl ty_one_49 rfl (k138.cell (k := 2) rfl)) ⟨Below.refl _ _, rfl⟩
                      refine DSteps.cons (fun Wd hd => ?_) ?_
                      ·
                        exact DV.dr (dx_idxA (o1 := 3) rfl Tryd.underlying52 ty_size_49_1 rfl rfl (by decide) rfl) ⟨Below.refl _ _, rfl⟩
                      refine DSteps.cons (fun Wd hd => ?_) ?_
                      ·
                        have k138 := k138.below hd
                        exact DV.dr (dx_load rfl ty_one_49 rfl (k138.cell (k := 3) rfl)) ⟨Below.refl _ _, rfl⟩
                      refine DSteps.cons (fun Wd hd => ?_) ?_
                      ·
                        exact DV.dr (dx_move rfl rfl) ⟨Below.refl _ _, rfl⟩
                      refine DSteps.cons (fun Wd hd => ?_) ?_
                      ·
                        exact DV.dr (dx_add rfl rfl rfl (wrap_m _)) ⟨Below.refl _ _, rfl⟩
                      refine DSteps.cons (fun Wd hd => ?_) ?_
                      ·
                        exact DV.dr (dx_move rfl rfl) ⟨Below.refl _ _, rfl⟩
                      refine DSteps.cons (fun Wd hd => ?_) ?_
                      ·
                        exact DR.mono (dx_cv rfl Tryd.func40 rfl rfl rfl ((show CV _ _ [_, _] _ (fun v _ => v = .int .u64 ((ev.d + tt64 (sched64 zs 64) i ev) % 18446744073709551616)) from CV.mono (cv_old (ref_cut64_v ((ev.d + tt64 (sched64 zs 64) i ev) % 18446744073709551616) Wd (mod_in _))) fun v _ _ h => h.trans (congrArg (Value.int .u64) (show (ev.d + tt64 (sched64 zs 64) i ev) % 18446744073709551616 = (ev.d + tt64 (sched64 zs 64) i ev) % 18446744073709551616 from cut_add64 _ _))))) (fun v W' ⟨h, hb⟩ => ⟨hb, (by rw [h]; exact rfl)⟩)
                      refine DSteps.cons (fun Wd hd => ?_) ?_
                      ·
                        exact DV.dr (dx_idxA (o1 := 4) rfl Tryd.underlying52 ty_size_49_1 rfl rfl (by decide) rfl) ⟨Below.refl _ _, rfl⟩
                      refine DSteps.cons (fun Wd hd => ?_) ?_
                      ·
                        have k138 := k138.below hd
                        exact DV.dr (dx_load rfl ty_one_49 rfl (k138.cell (k := 4) rfl)) ⟨Below.refl _ _, rfl⟩
                      refine DSteps.cons (fun Wd hd => ?_) ?_
                      ·
                        exact DV.dr (dx_idxA (o1 := 5) rfl Tryd.underlying52 ty_size_49_1 rfl rfl (by decide) rfl) ⟨Below.refl _ _, rfl⟩
                      refine DSteps.cons (fun Wd hd => ?_) ?_
                      ·
                        have k138 := k138.below hd
                        exact DV.dr (dx_load rfl ty_one_49 rfl (k138.cell (k := 5) rfl)) ⟨Below.refl _ _, rfl⟩
                      refine DSteps.cons (fun Wd hd => ?_) ?_
                      ·
                        exact DV.dr (dx_idxA (o1 := 6) rfl Tryd.underlying52 ty_size_49_1 rfl rfl (by decide) rfl) ⟨Below.refl _ _, rfl⟩
                      refine DSteps.cons (fun Wd hd => ?_) ?_
                      ·
                        have k138 := k138.below hd
                        exact DV.dr (dx_load rfl ty_one_49 rfl (k138.cell (k := 6) rfl)) ⟨Below.refl _ _, rfl⟩
                      exact trivial
                    ·
                      intro W157 b158
                      replace hT := hT.below b158
                      replace hA := hA.below b158
                      replace k17 := k17.below b158
                      replace k68 := k68.below b158
                      replace k95 := k95.below b158
                      replace k138 := k138.below b158
                      replace hB := below_then hB b158
                      replace hL := LL.below hL b158
                      refine WL.val (dx_build rfl rfl (bld_8 _ _ _ _ _ _ _ _)) rfl rfl ?_
                      refine WL.do (dx_store (cs' := [.int .u64 ((tt64 (sched64 zs 64) i ev + uu64 ev) % 18446744073709551616), .int .u64 ev.a, .int .u64 ev.b, .int .u64 ev.c, .int .u64 ((ev.d + tt64 (sched64 zs 64) i ev) % 18446744073709551616), .int .u64 ev.e, .int .u64 ev.f, .int .u64 ev.g]) (vs := [.int .u64 ((tt64 (sched64 zs 64) i ev + uu64 ev) % 18446744073709551616), .int .u64 ev.a, .int .u64 ev.b, .int .u64 ev.c, .int .u64 ((ev.d + tt64 (sched64 zs 64) i ev) % 18446744073709551616), .int .u64 ev.e, .int .u64 ev.f, .int .u64 ev.g]) rfl ty_size_52_8 rfl rfl rfl (oc_cons rfl (oc_cons rfl (oc_cons rfl (oc_cons rfl (oc_cons rfl (oc_cons rfl (oc_cons rfl (oc_cons rfl oc_nil)))))))) k138 rfl (Nat.le_of_ble_eq_true rfl) rfl) rfl ?_
                      rintro _ W159 ⟨k161, o160⟩
                      replace k17 := k17.other o160 n132
                      replace k68 := k68.other o160 n133
                      replace k95 := k95.other o160 n134
                      clear k138
                      replace hT := hT.only o160 (.head _)
                      replace hA := hA.only o160 (.head _)
                      replace hB := o160.below hB l135
                      replace hL := LL.only hL o160
                      refine WL.nil ?_
                      refine hK146 ?_
                      refine WC.region ?_
                      refine WL.val (dx_move rfl rfl) rfl rfl ?_
                      refine WL.val (dx_add (r := (i : Int) + 1) rfl rfl rfl (wrap64_id (by omega))) rfl rfl ?_
                      refine WL.val (dx_assign rfl rfl) rfl rfl ?_
                      refine WL.nil ?_
                      replace k161 : Blk W159 W117.heap.size [.int .u64 (rounds64 (sched64 zs 64) (eight64 st) (i + 1)).a, .int .u64 (rounds64 (sched64 zs 64) (eight64 st) (i + 1)).b, .int .u64 (rounds64 (sched64 zs 64) (eight64 st) (i + 1)).c, .int .u64 (rounds64 (sched64 zs 64) (eight64 st) (i + 1)).d, .int .u64 (rounds64 (sched64 zs 64) (eight64 st) (i + 1)).e, .int .u64 (rounds64 (sched64 zs 64) (eight64 st) (i + 1)).f, .int .u64 (rounds64 (sched64 zs 64) (eight64 st) (i + 1)).g, .int .u64 (rounds64 (sched64 zs 64) (eight64 st) (i + 1)).h] := by show Blk _ _ [.int .u64 (round64 (sched64 zs 64) i (rounds64 (sched64 zs 64) (eight64 st) i)).a, .int .u64 (round64 (sched64 zs 64) i (rounds64 (sched64 zs 64) (eight64 st) i)).b, .int .u64 (round64 (sched64 zs 64) i (rounds64 (sched64 zs 64) (eight64 st) i)).c, .int .u64 (round64 (sched64 zs 64) i (rounds64 (sched64 zs 64) (eight64 st) i)).d, .int .u64 (round64 (sched64 zs 64) i (rounds64 (sched64 zs 64) (eight64 st) i)).e, .int .u64 (round64 (sched64 zs 64) i (rounds64 (sched64 zs 64) (eight64 st) i)).f, .int .u64 (round64 (sched64 zs 64) i (rounds64 (sched64 zs 64) (eight64 st) i)).g, .int .u64 (round64 (sched64 zs 64) i (rounds64 (sched64 zs 64) (eight64 st) i)).h]; rw [← hev]; exact k161
                      exact hK141 (i + 1) ⟨(by omega), hB, hL, hT, hA, k17, k68, k95, k161⟩ (by omega) (by repeat first | exact trivial | exact And.intro rfl trivial | refine And.intro rfl ?_ | refine And.intro (congrArg (fun z : Int => some (Value.int .i64 z)) (by omega)) ?_)
              ·
                replace c145 := of_decide_eq_false c145
                refine WC.exit ?_
                refine hK139 ?_
                refine WC.seq fun K162 hK162 => ?_
                refine WC.region ?_
                refine WL.val (dx_assign rfl rfl) rfl rfl ?_
                refine WL.nil ?_
                refine hK162 ?_
                refine WC.block ?_
                have hi7 : i = 80 := by omega
                subst hi7
                replace k138 : Blk W142 W117.heap.size (encU ev.list) := k138
                rw [hev] at k138
                replace k68 : Blk W142 W53.heap.size (encU ((take64 st zs).take 0 ++ st.drop 0)) := by rw [List.take_zero, List.drop_zero, List.nil_append]; exact k68
                refine WC.loop (fun (i : Nat) => [(1, .int .i64 64), (5, .pointer (some ⟨w.heap.size, 0, none⟩)), (6, .int .i64 80), (7, ov2), (10, .pointer (some ⟨W53.heap.size, 0, none⟩)), (12, .int .i64 8), (13, .int .i64 ((q * 128 : Nat) : Int)), (17, .pointer (some ⟨W117.heap.size, 0, none⟩)), (21, .int .i64 (i : Int))]) (fun (i : Nat) W => i ≤ 8 ∧ Below w.heap.size w W ∧ LL (W117.heap.size :: W88.heap.size :: W53.heap.size :: w.heap.size :: L) W ∧ TabL (W117.heap.size :: W88.heap.size :: W53.heap.size :: w.heap.size :: L) W ∧ RdF 1 (W117.heap.size :: W88.heap.size :: W53.heap.size :: w.heap.size :: L) W ov2 ((full64 D).map e8) ∧ Blk W w.heap.size [.int .i64 28, .int .i64 34, .int .i64 39, .int .i64 14, .int .i64 18, .int .i64 41, .int .i64 1, .int .i64 8, .int .i64 7, .int .i64 19, .int .i64 61, .int .i64 6] ∧ Blk W W53.heap.size (encU ((take64 st zs).take i ++ st.drop i)) ∧ Blk W W88.heap.size (encU (sched64 zs 64)) ∧ Blk W W117.heap.size (encU ((rounds64 (sched64 zs 64) (eight64 st) 80).list))) (fun (i : Nat) => 8 - i) 0 (by repeat first | exact trivial | exact And.intro rfl trivial | refine And.intro rfl ?_ | refine And.intro (congrArg (fun z : Int => some (Value.int .i64 z)) (by omega)) ?_) ⟨Nat.zero_le _, hB, hL, hT, hA, k17, k68, k95, k138⟩ ?_
                clear hT hA k17 k68 k95 k138 hB hL
                rintro K163 i W164 ⟨hi, hB, hL, hT, hA, k17, k68, k95, k138⟩ hK163
                refine WC.seq fun K165 hK165 => ?_
                refine WC.seq fun K166 hK166 => ?_
                refine WC.region ?_
                refine WL.val (dx_move rfl rfl) rfl rfl ?_
                refine WL.val (dx_lss rfl rfl rfl) rfl rfl ?_
                refine WL.nil ?_
                refine hK166 ?_
                refine WC.cond rfl (fun c167 => ?_) (fun c167 => ?_)
                ·
                  replace c167 := of_decide_eq_true c167
                  refine WC.skip ?_
                  refine hK165 ?_
                  refine WC.seq fun K168 hK168 => ?_
                  refine WC.block ?_
                  refine WC.drawM 10 [(some 248, .is (.int .i64 (i : Int))), (some 249, .is (.int .i64 (i : Int))), (some 250, .is (.pointer (some ⟨W53.heap.size, i, none⟩))), (some 251, .is (.int .u64 (at0 ((take64 st zs).take i ++ st.drop i) i))), (some 252, .is (.int .i64 (i : Int))), (some 253, .is (.pointer (some ⟨W117.heap.size, i, none⟩))), (some 254, .is (.int .u64 (at0 ((rounds64 (sched64 zs 64) (eight64 st) 80).list) i))), (some 255, .is (.int .u64 ((at0 ((take64 st zs).take i ++ st.drop i) i + at0 ((rounds64 (sched64 zs 64) (eight64 st) 80).list) i) % 18446744073709551616))), (some 256, .is (.int .i64 64)), (some 257, .is (.int .u64 (at0 (take64 st zs) i)))] [[], [], [1], [2], [], [4], [5], [3, 6], [], [7, 8]] (by kernel_rfl) (by kernel_rfl) (by kernel_rfl) (by kernel_rfl) (by kernel_rfl) (by kernel_rfl) (by kernel_rfl) (by exact trivial) ?_ ?_
                  ·
                    refine DSteps.cons (fun Wd hd => ?_) ?_
                    ·
                      exact DV.dr (dx_move rfl rfl) ⟨Below.refl _ _, rfl⟩
                    refine DSteps.cons (fun Wd hd => ?_) ?_
                    ·
                      exact DV.dr (dx_move rfl rfl) ⟨Below.refl _ _, rfl⟩
                    refine DSteps.cons (fun Wd hd => ?_) ?_
                    ·
                      exact DV.dr (dx_idxA (o1 := i) rfl Tryd.underlying52 ty_size_49_1 rfl rfl (by omega) (by first | (simp; done) | omega)) ⟨Below.refl _ _, rfl⟩
                    refine DSteps.cons (fun Wd hd => ?_) ?_
                    ·
                      have k68 := k68.below hd
                      exact DV.dr (dx_load rfl ty_one_49 rfl (k68.cell (k := i) (cellU (by rw [show ((take64 st zs).take i ++ st.drop i).length = 8 from (mixl_len (take64_len _ _) hsl hi)]; exact (by omega))))) ⟨Below.refl _ _, rfl⟩
                    refine DSteps.cons (fun Wd hd => ?_) ?_
                    ·
                      exact DV.dr (dx_move rfl rfl) ⟨Below.refl _ _, rfl⟩
                    refine DSteps.cons (fun Wd hd => ?_) ?_
                    ·
                      exact DV.dr (dx_idxA (o1 := i) rfl Tryd.underlying52 ty_size_49_1 rfl rfl (by omega) (by first | (simp; done) | omega)) ⟨Below.refl _ _, rfl⟩
                    refine DSteps.cons (fun Wd hd => ?_) ?_
                    ·
                      have k138 := k138.below hd
                      exact DV.dr (dx_load rfl ty_one_49 rfl (k138.cell (k := i) (cellU (by rw [show ((rounds64 (sched64 zs 64) (eight64 st) 80).list).length = 8 from rfl]; exact (by omega))))) ⟨Below.refl _ _, rfl⟩
                    refine DSteps.cons (fun Wd hd => ?_) ?_
                    ·
                      exact DV.dr (dx_add rfl rfl rfl (wrap_m _)) ⟨Below.refl _ _, rfl⟩
                    refine DSteps.cons (fun Wd hd => ?_) ?_
                    ·
                      exact DV.dr (dx_move rfl rfl) ⟨Below.refl _ _, rfl⟩
                    refine DSteps.cons (fun Wd hd => ?_) ?_
                    ·
                      exact DR.mono (dx_cv rfl Tryd.func40 rfl rfl rfl ((show CV _ _ [_, _] _ (fun v _ => v = .int .u64 (at0 (take64 st zs) i)) from CV.mono (cv_old (ref_cut64_v ((at0 ((take64 st zs).take i ++ st.drop i) i + at0 ((rounds64 (sched64 zs 64) (eight64 st) 80).list) i) % 18446744073709551616) Wd (mod_in _))) fun v _ _ h => h.trans (congrArg (Value.int .u64) (show (at0 ((take64 st zs).take i ++ st.drop i) i + at0 ((rounds64 (sched64 zs 64) (eight64 st) 80).list) i) % 18446744073709551616 = at0 (take64 st zs) i from by rw [mix_at (take64_len _ _) hsl (by omega), take64_at _ _ _ (by omega)]))))) (fun v W' ⟨h, hb⟩ => ⟨hb, (by rw [h]; exact rfl)⟩)
                    exact trivial
                  ·
                    intro W169 b170
                    replace hT := hT.below b170
                    replace hA := hA.below b170
                    replace k17 := k17.below b170
                    replace k68 := k68.below b170
                    replace k95 := k95.below b170
                    replace k138 := k138.below b170
                    replace hB := below_then hB b170
                    replace hL := LL.below hL b170
                    refine WL.val (dx_idxA (o1 := i) rfl Tryd.underlying52 ty_size_49_1 rfl rfl (by omega) (by first | (simp; done) | omega)) rfl rfl ?_
                    refine WL.do (dx_store (cs' := encU (((take64 st zs).take i ++ st.drop i).set i (at0 (take64 st zs) i))) (vs := [.int .u64 (at0 (take64 st zs) i)]) rfl ty_size_49_1 rfl rfl rfl (oc_cons rfl oc_nil) k68 rfl (by rw [encU_len, show ((take64 st zs).take i ++ st.drop i).length = 8 from (mixl_len (take64_len _ _) hsl hi)]; exact (by omega)) (setU (by rw [show ((take64 st zs).take i ++ st.drop i).length = 8 from (mixl_len (take64_len _ _) hsl hi)]; exact (by omega)))) rfl ?_
                    rintro _ W171 ⟨k173, o172⟩
                    replace k17 := k17.other o172 n71
                    replace k95 := k95.other o172 n99.symm
                    replace k138 := k138.other o172 n133.symm
                    clear k68
                    replace hT := hT.only o172 (.tail _ (.tail _ (.head _)))
                    replace hA := hA.only o172 (.tail _ (.tail _ (.head _)))
                    replace hB := o172.below hB l72
                    replace hL := LL.only hL o172
                    refine WL.nil ?_
                    refine hK168 ?_
                    refine WC.region ?_
                    refine WL.val (dx_move rfl rfl) rfl rfl ?_
                    refine WL.val (dx_add (r := (i : Int) + 1) rfl rfl rfl (wrap64_id (by omega))) rfl rfl ?_
                    refine WL.val (dx_assign rfl rfl) rfl rfl ?_
                    refine WL.nil ?_
                    rw [mix_set (take64_len _ _) hsl (by omega)] at k173
                    exact hK163 (i + 1) ⟨(by omega), hB, hL, hT, hA, k17, k173, k95, k138⟩ (by omega) (by repeat first | exact trivial | exact And.intro rfl trivial | refine And.intro rfl ?_ | refine And.intro (congrArg (fun z : Int => some (Value.int .i64 z)) (by omega)) ?_)
                ·
                  replace c167 := of_decide_eq_false c167
                  refine WC.exit ?_
                  refine hK92 ?_
                  have hi8 : i = 8 := by omega
                  subst hi8
                  replace k68 : Blk W164 W53.heap.size (encU (absorb64 begin64 (full64 D) (q + 1))) := by have e : (take64 st zs).take 8 ++ st.drop 8 = (take64 st zs) := (by rw [List.take_of_length_le (by rw [take64_len]; exact Nat.le_refl _), List.drop_eq_nil_of_le (by omega), List.append_nil]); rw [e, hst, hzs] at k68; exact k68
                  refine WC.region ?_
                  refine WL.val (dx_move rfl rfl) rfl rfl ?_
                  refine WL.val (dx_move rfl rfl) rfl rfl ?_
                  refine WL.val (dx_mul (r := 128) rfl rfl rfl (by decide)) rfl rfl ?_
                  refine WL.val (dx_add (r := (((q + 1) * 128 : Nat) : Int)) rfl rfl rfl (by rw [wrap64_id (by omega)]; omega)) rfl rfl ?_
                  refine WL.val (dx_assign rfl rfl) rfl rfl ?_
                  refine WL.nil ?_
                  replace hL := hL.less (fun x hx => (.tail _ (.tail _ hx)))
                  replace hT := hT.less (fun x hx => (.tail _ (.tail _ hx)))
                  replace hA := hA.less (fun x hx => (.tail _ (.tail _ hx)))
                  exact hK87 (q + 1) ⟨(by omega), hB, hL, hT, hA, k17, k68⟩ (by omega) (by repeat first | exact trivial | exact And.intro rfl trivial | refine And.intro rfl ?_ | refine And.intro (congrArg (fun z : Int => some (Value.int .i64 z)) (by omega)) ?_)
        ·
          replace c91 := of_decide_eq_false c91
          refine WC.exit ?_
          refine hK85 ?_
          refine WC.seq fun K174 hK174 => ?_
          have hpm := (padN64_ge D.length).2.2
          have hc_ := c91
          rw [hFm, hFl] at hc_
          have hqe : q = padN64 D.length / 128 := by omega
          subst hqe
          obtain ⟨st, hst⟩ : ∃ z, z = (absorb64 begin64 (full64 D) (padN64 D.length / 128)) := ⟨_, rfl⟩
          rw [← hst] at k68
          have hsl : st.length = 8 := by rw [hst]; exact absorb64_len _ _
          have zhT := hT
          have zk17 := k17
          have zk68 := k68
          have zhB := hB
          have zhL := hL
          have hC : SinceB W88 (W53.heap.size :: w.heap.size :: L) W88 := Below.refl _ _
          have h5 : NewW 1 W88.heap.size (((tell64 st).take 0).map e8) (.slice none 0 0) W88 := .inl ⟨rfl, rfl, by decide⟩
          have htl : (tell64 st).length = 64 := tell64_len st
          refine WC.region ?_
          refine WL.val (dx_assign rfl rfl) rfl rfl ?_
          refine WL.nil ?_
          refine hK174 ?_
          refine WC.seq fun K175 hK175 => ?_
          refine WC.seq fun K176 hK176 => ?_
          refine WC.region ?_
          refine WL.val (dx_assign rfl rfl) rfl rfl ?_
          refine WL.nil ?_
          refine hK176 ?_
          refine WC.block ?_
          rw [show (0 : Nat) = 0 * 8 by omega] at h5
          refine WC.loop2 (fun (i : Nat) (ov3 : Value) => [(1, .int .i64 64), (10, .pointer (some ⟨W53.heap.size, 0, none⟩)), (22, ov3), (23, .int .i64 (i : Int))]) (fun (i : Nat) (ov3 : Value) W => i ≤ 8 ∧ Below w.heap.size w W ∧ LL (W53.heap.size :: w.heap.size :: L) W ∧ TabL (W53.heap.size :: w.heap.size :: L) W ∧ SinceB W88 (W53.heap.size :: w.heap.size :: L) W ∧ NewW 1 W88.heap.size (((tell64 st).take (i * 8)).map e8) ov3 W ∧ Blk W w.heap.size [.int .i64 28, .int .i64 34, .int .i64 39, .int .i64 14, .int .i64 18, .int .i64 41, .int .i64 1, .int .i64 8, .int .i64 7, .int .i64 19, .int .i64 61, .int .i64 6] ∧ Blk W W53.heap.size (encU st)) (fun (i : Nat) (ov3 : Value) => 8 - i) 0 (.slice none 0 0) (by repeat first | exact trivial | exact And.intro rfl trivial | refine And.intro rfl ?_ | refine And.intro (congrArg (fun z : Int => some (Value.int .i64 z)) (by omega)) ?_) ⟨Nat.zero_le _, hB, hL, hT, hC, h5, k17, k68⟩ ?_
          clear hT hC h5 k17 k68 hB hL
          rintro K177 i ov3 W178 ⟨hi, hB, hL, hT, hC, h5, k17, k68⟩ hK177
          refine WC.seq fun K179 hK179 => ?_
          refine WC.seq fun K180 hK180 => ?_
          refine WC.region ?_
          refine WL.val (dx_move rfl rfl) rfl rfl ?_
          refine WL.val (dx_lss rfl rfl rfl) rfl rfl ?_
          refine WL.nil ?_
          refine hK180 ?_
          refine WC.cond rfl (fun c181 => ?_) (fun c181 => ?_)
          ·
            replace c181 := of_decide_eq_true c181
            refine WC.skip ?_
            refine hK179 ?_
            refine WC.seq fun K182 hK182 => ?_
            refine WC.block ?_
            refine WC.seq fun K183 hK183 => ?_
            refine WC.region ?_
            refine WL.val (dx_move rfl rfl) rfl rfl ?_
            refine WL.val (dx_sub (r := 56) rfl rfl rfl (by decide)) rfl rfl ?_
            refine WL.val (dx_assign rfl rfl) rfl rfl ?_
            refine WL.nil ?_
            refine hK183 ?_
            refine WC.block ?_
            rw [← Nat.add_zero (i * 8)] at h5
            refine WC.loop2 (fun (j : Nat) (ov4 : Value) => [(1, .int .i64 64), (10, .pointer (some ⟨W53.heap.size, 0, none⟩)), (23, .int .i64 (i : Int)), (22, ov4), (24, .int .i64 (56 - 8 * (j : Int)))]) (fun (j : Nat) (ov4 : Value) W => j ≤ 8 ∧ Below w.heap.size w W ∧ LL (W53.heap.size :: w.heap.size :: L) W ∧ TabL (W53.heap.size :: w.heap.size :: L) W ∧ SinceB W88 (W53.heap.size :: w.heap.size :: L) W ∧ NewW 1 W88.heap.size (((tell64 st).take (i * 8 + j)).map e8) ov4 W ∧ Blk W w.heap.size [.int .i64 28, .int .i64 34, .int .i64 39, .int .i64 14, .int .i64 18, .int .i64 41, .int .i64 1, .int .i64 8, .int .i64 7, .int .i64 19, .int .i64 61, .int .i64 6] ∧ Blk W W53.heap.size (encU st)) (fun (j : Nat) (ov4 : Value) => 8 - j) 0 ov3 (by repeat first | exact trivial | exact And.intro rfl trivial | refine And.intro rfl ?_ | refine And.intro (congrArg (fun z : Int => some (Value.int .i64 z)) (by omega)) ?_) ⟨Nat.zero_le _, hB, hL, hT, hC, h5, k17, k68⟩ ?_
            clear hT hC h5 k17 k68 hB hL
            rintro K184 j ov4 W185 ⟨hj, hB, hL, hT, hC, h5, k17, k68⟩ hK184
            have hol3 : ((tell64 st).take (i * 8 + j)).length ≤ 64 := (by rw [List.length_take]; omega)
            refine WC.seq fun K186 hK186 => ?_
            refine WC.seq fun K187 hK187 => ?_
            refine WC.region ?_
            refine WL.val (dx_move rfl rfl) rfl rfl ?_
            refine WL.val (dx_geq rfl rfl rfl) rfl rfl ?_
            refine WL.nil ?_
            refine hK187 ?_
            refine WC.cond rfl (fun c188 => ?_) (fun c188 => ?_)
            ·
              replace c188 := of_decide_eq_true c188
              refine WC.skip ?_
              refine hK186 ?_
              refine WC.seq fun K189 hK189 => ?_
              refine WC.block ?_
              refine WC.region ?_
              refine WL.val (dx_move rfl rfl) rfl rfl ?_
              refine WL.val (dx_move rfl rfl) rfl rfl ?_
              refine WL.val (dx_idxA (o1 := i) rfl Tryd.underlying52 ty_size_49_1 rfl rfl (by omega) (by first | (simp; done) | omega)) rfl rfl ?_
              refine WL.val (dx_load rfl ty_one_49 rfl (k68.cell (k := i) (cellU (by rw [show st.length = 8 from hsl]; exact (by omega))))) rfl rfl ?_
              refine WL.val (dx_move rfl rfl) rfl rfl ?_
              refine WL.val (dx_conv (r := (56 - 8 * (j : Int))) rfl Tryd.underlying3 Tryd.underlying42 rfl (by rw [wrap_m]; omega)) rfl rfl ?_
              refine WL.val (dx_shr rfl rfl rfl (by omega) (by show _ ≤ (64 : Int); omega) rfl) rfl rfl ?_
              refine WL.val (dx_conv (r := at0 (tell64 st) (i * 8 + j)) rfl Tryd.underlying49 Tryd.underlying5 rfl ((wrap_8 _).trans (tell64_val st i j (by omega) (by omega)))) rfl rfl ?_
              refine WL.get (dx_lit1 (r := e8 (at0 (tell64 st) (i * 8 + j))) rfl ty_ap_25 (by decide) (by decide) rfl rfl rfl) rfl rfl ?_
              rintro x190 W191 ⟨k193, b192, z194⟩
              replace hT := hT.below b192
              replace hC := hC.below b192
              replace h5 := h5.below b192
              replace k17 := k17.below b192
              replace k68 := k68.below b192
              replace hB := below_then hB b192
              replace hL := LL.below hL b192
              have hx := k193.rd (L := []) (by simp)
              refine WL.get (dx_apW (base := W88.heap.size) rfl ty_ap_25 rfl rfl h5 hx (oc_e8 [at0 (tell64 st) (i * 8 + j)]) (by simp [maxLen]; omega) (by simp; omega) (Below.size hC)) rfl rfl ?_
              rintro x195 W196 ⟨h5, b197⟩
              replace h5 : NewW 1 W88.heap.size ((((tell64 st).take (i * 8 + j)) ++ [at0 (tell64 st) (i * 8 + j)]).map e8) x195 W196 := by rw [List.map_append]; exact h5
              replace hC : SinceB W88 (W53.heap.size :: w.heap.size :: L) W196 := Below.trans hC b197
              replace hT := zhT.below hC
              replace k17 := zk17.below hC
              replace k68 := zk68.below hC
              replace hB := below_then zhB hC
              replace hL := LL.below zhL hC
              refine WL.val (dx_assign rfl rfl) rfl rfl ?_
              refine WL.nil ?_
              refine hK189 ?_
              refine WC.region ?_
              refine WL.val (dx_move rfl rfl) rfl rfl ?_
              refine WL.val (dx_sub (r := (56 - 8 * ((j + 1 : Nat) : Int))) rfl rfl rfl (by rw [wrap64_id (by omega)]; omega)) rfl rfl ?_
              refine WL.val (dx_assign rfl rfl) rfl rfl ?_
              refine WL.nil ?_
              rw [show (((tell64 st).take (i * 8 + j)) ++ [at0 (tell64 st) (i * 8 + j)]) = ((tell64 st).take (i * 8 + (j + 1))) from by rw [← Nat.add_assoc, take_snoc _ _ (by rw [htl]; omega)]] at h5
              exact hK184 (j + 1) x195 ⟨(by omega), hB, hL, hT, hC, h5, k17, k68⟩ (by omega) (by repeat first | exact trivial | exact And.intro rfl trivial | refine And.intro rfl ?_ | refine And.intro (congrArg (fun z : Int => some (Value.int .i64 z)) (by omega)) ?_)
            ·
              replace c188 := of_decide_eq_false c188
              refine WC.exit ?_
              refine hK182 ?_
              refine WC.region ?_
              refine WL.val (dx_move rfl rfl) rfl rfl ?_
              refine WL.val (dx_add (r := (i : Int) + 1) rfl rfl rfl (wrap64_id (by omega))) rfl rfl ?_
              refine WL.val (dx_assign rfl rfl) rfl rfl ?_
              refine WL.nil ?_
              rw [show i * 8 + j = (i + 1) * 8 by omega] at h5
              exact hK177 (i + 1) ov4 ⟨(by omega), hB, hL, hT, hC, h5, k17, k68⟩ (by omega) (by repeat first | exact trivial | exact And.intro rfl trivial | refine And.intro rfl ?_ | refine And.intro (congrArg (fun z : Int => some (Value.int .i64 z)) (by omega)) ?_)
          ·
            replace c181 := of_decide_eq_false c181
            refine WC.exit ?_
            refine hK175 ?_
            refine WC.seq fun K198 hK198 => ?_
            refine WC.region ?_
            refine WL.val (dx_move rfl rfl) rfl rfl ?_
            refine WL.val (dx_assign rfl rfl) rfl rfl ?_
            refine WL.nil ?_
            refine hK198 ?_
            refine WC.ret fun a_ ha_ => ?_
            exact hQ (cv_ret1 rfl (.tmp rfl) (by have e8' : i = 8 := (by omega); subst e8'; have eS : sum64 D = (tell64 st).take (8 * 8) := (by rw [sum64_full, ← hst, List.take_of_length_le (by rw [htl]; decide)]); rw [eS]; exact h5.rd (fun y hy => zhL y (.tail _ (.tail _ hy)))) hB ha_)

end Go.Proofs.YtohnicmacmkapaaDoor
namespace Go.Proofs.YtohnicmacmkapaaDoor
open Go.RowKit
set_option linter.unusedVariables false
set_option maxRecDepth 8000

theorem arr_rd {w : World} {B o n cap : Nat} {zs : List Int} (h : Arr .u8 w B zs) (hn : o + n ≤ zs.length) (hc : n ≤ cap) (hm : cap ≤ maxLen) : RdI .u8 w (.slice (some ⟨B, o, none⟩) n cap) ((zs.drop o).take n) := by
  have hl : ((zs.drop o).take n).length = n := by simp; omega
  refine ⟨_, cap, by rw [hl], by omega, hm, fun k hk => ⟨_, _, rfl, ?_⟩, by simp⟩
  rw [hl] at hk
  rw [h.cell (k := o + k) (by omega)]
  simp [at0, hk]
theorem abc_b : Bytes [97, 98, 99] := by intro x hx; simp only [List.mem_cons, List.not_mem_nil, or_false] at hx; rcases hx with rfl | rfl | rfl <;> decide
def abcA : List Int := [186, 120, 22, 191, 143, 1, 207, 234, 65, 65, 64, 222, 93, 174, 34, 35, 176, 3, 97, 163, 150, 23, 122, 156, 180, 16, 255, 97, 242, 0, 21, 173]
def abcB : List Int := [221, 175, 53, 161, 147, 97, 122, 186, 204, 65, 115, 73, 174, 32, 65, 49, 18, 230, 250, 78, 137, 169, 126, 162, 10, 158, 238, 230, 75, 85, 211, 154, 33, 146, 153, 42, 39, 79, 193, 168, 54, 186, 60, 35, 163, 254, 235, 189, 69, 77, 68, 35, 100, 60, 232, 14, 42, 154, 201, 79, 165, 76, 164, 159]
theorem sum_abcA : sum32 [97, 98, 99] = abcA := by decide +kernel
theorem sum_abcB : sum64 [97, 98, 99] = abcB := by decide +kernel
theorem hex_abcA : strOfNums (hexL ((abcA.drop 0).take 8)) = ⟨#[98, 97, 55, 56, 49, 54, 98, 102, 56, 102, 48, 49, 99, 102, 101, 97]⟩ := by decide +kernel
theorem hex_abcB : strOfNums (hexL ((abcB.drop 56).take 8)) = ⟨#[50, 97, 57, 97, 99, 57, 52, 102, 97, 53, 52, 99, 97, 52, 57, 102]⟩ := by decide +kernel
theorem abcA_b : Bytes abcA := by unfold Bytes; decide +kernel
theorem abcB_b : Bytes abcB := by unfold Bytes; decide +kernel
theorem abc_rd (w : World) (t1 t2 : TypeId) (fr : Nat × Nat) : RdP ((w.alloc (.cells #[.int .u8 97, .int .u8 98, .int .u8 99] t1 fr)).alloc (.cells #[.slice (some ⟨w.heap.size, 0, none⟩) 3 3] t2)) (.slice (some ⟨w.heap.size + 1, 0, none⟩) 1 1) [(.slice (some ⟨w.heap.size, 0, none⟩) 3 3, [97, 98, 99])] := by
  have h1 := heap_alloc_new (w.alloc (.cells #[.int .u8 97, .int .u8 98, .int .u8 99] t1 fr)) (.cells #[.slice (some ⟨w.heap.size, 0, none⟩) 3 3] t2)
  rw [World.size_alloc] at h1
  have h0 : ((w.alloc (.cells #[.int .u8 97, .int .u8 98, .int .u8 99] t1 fr)).alloc (.cells #[.slice (some ⟨w.heap.size, 0, none⟩) 3 3] t2)).heap[w.heap.size]? = some (.cells #[.int .u8 97, .int .u8 98, .int .u8 99] t1 fr) := by
    have hb := (Below.refl (w.alloc (.cells #[.int .u8 97, .int .u8 98, .int .u8 99] t1 fr)).heap.size (w.alloc (.cells #[.int .u8 97, .int .u8 98, .int .u8 99] t1 fr))).alloc (Nat.le_refl _) (.cells #[.slice (some ⟨w.heap.size, 0, none⟩) 3 3] t2)
    rw [hb.block w.heap.size (by rw [World.size_alloc]; omega)]
    exact heap_alloc_new w _
  generalize (w.alloc (.cells #[.int .u8 97, .int .u8 98, .int .u8 99] t1 fr)).alloc (.cells #[.slice (some ⟨w.heap.size, 0, none⟩) 3 3] t2) = W at *
  refine ⟨_, 1, rfl, ⟨Nat.le_refl _, by unfold maxLen; omega⟩, fun k hk => ?_, fun p hp => ?_⟩
  · obtain rfl : k = 0 := by simpa using hk
    refine ⟨_, _, rfl, ?_⟩
    simp only [World.cell?, h1]
    rfl
  · obtain rfl : p = _ := List.mem_singleton.1 hp
    refine ⟨⟨_, 3, rfl, Nat.le_refl _, by unfold maxLen; omega, fun k hk => ⟨_, _, rfl, ?_⟩, fun e => by cases e⟩, abc_b⟩
    simp only [World.cell?, h0, Nat.zero_add]
    rcases (by simp at hk; omega : k = 0 ∨ k = 1 ∨ k = 2) with rfl | rfl | rfl <;> rfl
theorem sumA_v (w : World) (hT : TabS w) (fr : Nat × Nat) : Calls Tryd.prog 10 #[.slice (some ⟨w.heap.size + 1, 0, none⟩) 1 1] ((w.alloc (.cells #[.int .u8 97, .int .u8 98, .int .u8 99] 5 fr)).alloc (.cells #[.slice (some ⟨w.heap.size, 0, none⟩) 3 3] 25)) fun e w' => e = .returned (aggI .u8 abcA) ∧ Below w.heap.size w w' := by
  have hb := ((Below.refl w.heap.size w).alloc (Nat.le_refl _) (.cells #[.int .u8 97, .int .u8 98, .int .u8 99] 5 fr)).alloc (by rw [World.size_alloc]; omega) (.cells #[.slice (some ⟨w.heap.size, 0, none⟩) 3 3] 25)
  refine (sum32_v _ (hT.below hb) _ _ (abc_rd w _ _ _) (by show 3 < 1099511627776; omega)).mono fun e w' h => ⟨?_, below_then hb h.2⟩
  rw [h.1, ← sum_abcA]
  rfl
theorem sumB_v (w : World) (hT : TabS w) (fr : Nat × Nat) : Calls Tryd.prog 12 #[.slice (some ⟨w.heap.size + 1, 0, none⟩) 1 1] ((w.alloc (.cells #[.int .u8 97, .int .u8 98, .int .u8 99] 5 fr)).alloc (.cells #[.slice (some ⟨w.heap.size, 0, none⟩) 3 3] 25)) fun e w' => e = .returned (aggI .u8 abcB) ∧ Below w.heap.size w w' := by
  have hb := ((Below.refl w.heap.size w).alloc (Nat.le_refl _) (.cells #[.int .u8 97, .int .u8 98, .int .u8 99] 5 fr)).alloc (by rw [World.size_alloc]; omega) (.cells #[.slice (some ⟨w.heap.size, 0, none⟩) 3 3] 25)
  refine (sum64_v _ (hT.below hb) _ _ (abc_rd w _ _ _) (by show 3 < 1099511627776; omega)).mono fun e w' h => ⟨?_, below_then hb h.2⟩
  rw [h.1, ← sum_abcB]
  rfl
theorem hexA_v {w : World} {B : Nat} (h : Arr .u8 w B abcA) : Calls Tryd.prog 16 #[.slice (some ⟨B, 0, none⟩) 8 32] w fun e w' => e = .returned (.string ⟨#[98, 97, 55, 56, 49, 54, 98, 102, 56, 102, 48, 49, 99, 102, 101, 97]⟩) ∧ Below w.heap.size w w' := by
  have h2 := hex_v _ _ w (arr_rd h (o := 0) (n := 8) (cap := 32) (by decide) (by decide) (by unfold maxLen; omega)) (fun x hx => abcA_b x (List.mem_of_mem_drop (List.mem_of_mem_take hx))) (by simp; omega)
  rw [hex_abcA] at h2
  exact h2
theorem hexB_v {w : World} {B : Nat} (h : Arr .u8 w B abcB) : Calls Tryd.prog 16 #[.slice (some ⟨B, 56, none⟩) 8 8] w fun e w' => e = .returned (.string ⟨#[50, 97, 57, 97, 99, 57, 52, 102, 97, 53, 52, 99, 97, 52, 57, 102]⟩) ∧ Below w.heap.size w w' := by
  have h2 := hex_v _ _ w (arr_rd h (o := 56) (n := 8) (cap := 8) (by decide) (by decide) (by unfold maxLen; omega)) (fun x hx => abcB_b x (List.mem_of_mem_drop (List.mem_of_mem_take hx))) (by simp; omega)
  rw [hex_abcB] at h2
  exact h2
set_option maxHeartbeats 1000000 in
theorem alive_v (w : World) (hT : TabS w) : Calls Tryd.prog 7 #[] w fun e w' => e = .returned (.bool true) ∧ Below w.heap.size w w' := by
  have hcv := fun W => Lib.run_convert_bytes_const (P := Tryd.prog) W 25 5 #[.int .u8 97, .int .u8 98, .int .u8 99] 3 3 Tryd.underlying25 Tryd.underlying5
  have la : abcA.length = 32 := rfl
  have lb : abcB.length = 64 := rfl
  go_enter Tryd.func7, Tryd.ntmps7
  go_wp2_with (first
    | (go_at_call 10; (with_reducible refine (sumA_v w hT _).mono ?_); rintro e w2 ⟨rfl, b2⟩; have hT2 := hT.below b2)
    | (go_at_call 12; (with_reducible refine (sumB_v w2 hT2 _).mono ?_); rintro e w3 ⟨rfl, b3⟩; have BB := below_then b2 b3)
    | (with_reducible refine at_n 1 ?_; refine wpList_allocI rfl 27 rfl .u8 32 zero_b32 ?_; intro w4 A4 s4 b4; replace BB := below_then BB b4)
    | (with_reducible refine at_n 2 ?_; refine wpList_allocI rfl 30 rfl .u8 64 zero_b64 ?_; intro w5 A5 s5 b5; replace A4 := A4.below b5; replace BB := below_then BB b5; have z3 := b2.size; have z4 := b3.size)
    | (with_reducible refine at_op (o := ⟨_, .store 27 _ _, _, _, _, _⟩) ?_; refine wpList_storeI rfl 27 _ _ rfl 32 info_b32 w3.heap.size rfl .u8 _ _ rfl A4 (by simp) la ?_; intro A6; refine wp_named fun w6 hw6 => ?_; rw [← hw6] at A6; have A7 : Arr .u8 w6 w4.heap.size (List.replicate 64 0) := (by rw [hw6]; exact A5.rowOther (by omega) _); have B7 : Below w.heap.size w w6 := (by rw [hw6]; exact below_row BB (by omega) _); clear hw6 A4 A5 BB)
    | (with_reducible refine at_op (o := ⟨_, .store 30 _ _, _, _, _, _⟩) ?_; refine wpList_storeI rfl 30 _ _ rfl 64 info_b64 w4.heap.size rfl .u8 _ _ rfl A7 (by simp) lb ?_; intro A8; refine wp_named fun w8 hw8 => ?_; rw [← hw8] at A8; have A9 : Arr .u8 w8 w3.heap.size abcA := (by rw [hw8]; exact A6.rowOther (by omega) _); have B9 : Below w.heap.size w w8 := (by rw [hw8]; exact below_row B7 (by omega) _); clear hw8 A6 A7 B7)
    | (go_at_call 16; first
        | ((with_reducible refine (hexA_v A9).mono ?_); rintro e w9 ⟨rfl, b9⟩; replace A8 := A8.below b9; replace B9 := below_then B9 b9)
        | ((with_reducible refine (hexB_v A8).mono ?_); rintro e w9 ⟨rfl, b9⟩; replace B9 := below_then B9 b9)))
  go_ret
  exact ⟨rfl, B9⟩
end Go.Proofs.YtohnicmacmkapaaDoor
