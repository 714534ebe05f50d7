/- The machine of symbols: what one operation gives. No program stands here. The machine of symbols: operations that touch no memory do what is said. No  -/
import Derived.Deep.LoopGhost
import Derived.Test.YtbiboamaigedjaaDoorEKA
namespace Go.Proofs.YtbiboamaigedjaaDoor
open Go.RowKit
set_option linter.unusedVariables false
set_option linter.constructorNameAsVariable false
set_option linter.unusedSimpArgs false

/-- What is known of a type: its cells, whether it is a row, its fields' places, an array's length and element, a number's kind, what is nothing of it. -/
structure TI where
  s : Nat
  g : Bool
  o : List (Nat × Nat) := []
  n : Nat := 0
  e : Nat := 0
  q : Nat := 0
  k : Option IntKind := none
  y : Nat := 0
  z : Option (List SV) := none
  u : Bool := false
inductive Tr where
  | n
  | t (l : Tr) (x : Option TI) (r : Tr)
def Tr.get : Tr -> Nat -> Option TI
  | .n, _ => none
  | .t l x r, q => match Nat.beq q 0 with
    | true => x
    | false => match Nat.beq (Nat.mod q 2) 1 with
      | true => l.get (Nat.div q 2)
      | false => r.get (Nat.sub (Nat.div q 2) 1)
structure TT where
  M : Nat
  tr : Tr
  pq : FuncId -> List SV -> SV -> Prop := fun _ _ _ => False
  pl : Nat -> Nat -> SV -> Prop := fun _ _ _ => False
  pv : List (Nat × SV) := []
  pr : FuncId -> List SV -> List (Nat × List SV) -> SV -> Prop := fun _ _ _ _ => False
  rk : List (Nat × List Nat) := []
  px : FuncId -> List SV -> SV -> Prop := fun _ _ _ => False
  xk : List Nat := []
def TT.get (T : TT) (t : Nat) : Option TI := match Nat.blt t T.M with
  | true => T.tr.get t
  | false => none
def vq : Value -> Value -> Bool
  | .int K n, .int K' n' => decide (K = K') && decide (n = n')
  | .bool b, .bool b' => b == b'
  | .string s, .string s' => decide (s = s')
  | .slice none 0 0, .slice none 0 0 => true
  | .nilFunc, .nilFunc => true
  | .pointer none, .pointer none => true
  | .map none, .map none => true
  | _, _ => false
theorem Qht {a b : Value} (h : vq a b = true) : a = b := by
  unfold vq at h
  split at h <;> simp_all
def vqL : List Value -> List Value -> Bool
  | [], [] => true
  | a :: l, b :: l' => vq a b && vqL l l'
  | _, _ => false
theorem Qbv : ∀ {l l' : List Value}, vqL l l' = true -> l = l'
  | [], [], _ => rfl
  | [], _ :: _, h => by simp [vqL] at h
  | _ :: _, [], h => by simp [vqL] at h
  | a :: l, b :: l', h => by
    simp only [vqL, Bool.and_eq_true] at h
    rw [Qht h.1, Qbv h.2]
def Qu : Qy := ⟨fun _ => 0, fun _ => (0, 0)⟩
def okB : List SV -> Bool
  | [] => true
  | .a _ zs n :: l => Nat.beq zs.length n && okB l
  | _ :: l => okB l
theorem EE : ∀ {l : List SV}, okB l = true -> X3 l
  | [], _ => trivial
  | x :: l, h => by
    cases x
    case a K zs n => simp only [okB, Bool.and_eq_true] at h; exact ⟨Nat.eq_of_beq_eq_true h.1, EE h.2⟩
    all_goals exact ⟨trivial, EE (by simpa only [okB] using h)⟩
def DK (P : Program) (t : Nat) : List (Nat × Nat) -> Nat -> Bool
  | [], _ => true
  | o :: l, k => Qbb P t k o.1 && DK P t l (k + 1)
theorem Ff {P : Program} {t : Nat} : ∀ {l : List (Nat × Nat)} {k : Nat}, DK P t l k = true -> ∀ {j : Nat} {o : Nat × Nat}, l[j]? = some o -> Qbb P t (k + j) o.1 = true
  | [], _, _, j, o, h => by simp at h
  | a :: l, k, hb, j, o, h => by
    simp only [DK, Bool.and_eq_true] at hb
    cases j with
    | zero => simp at h; subst h; exact hb.1
    | succ j => rw [show k + (j + 1) = k + 1 + j by omega]; exact Ff hb.2 (by simpa using h)
def UZ (P : Program) (t : Nat) (i : TI) : Bool := match P.underlying t with
  | some (.struct fields) => match fields.toList.mapM (fun f => (P.info? f.type).map fun i => (f.offset, i.size)) with
    | some l => decide (l = i.o)
    | none => false
  | some (.array _ e) => match P.info? e with
    | some ie => Nat.beq ie.size i.q && i.o.isEmpty
    | none => false
  | _ => i.o.isEmpty && Nat.beq i.n 0
/-- What a type's entry says is so. -/
def tB (P : Program) (t : Nat) (i : TI) : Bool :=
  Zc P t i.s && (bif i.g then Qbk P t i.s else EC P t && Nat.beq i.s 1) && DK P t i.o 0 && UZ P t i
    && (match i.k with | none => true | some K => match P.underlying t with | some (.int K') => decide (K = K') | _ => false)
    && (bif Nat.beq i.n 0 then true else match P.underlying t with | some (.array n e) => Nat.beq n i.n && Nat.beq e i.e && (bif i.u then !(P.eqGuardType P.depth t) else true) | _ => false)
    && (bif Nat.beq i.y 1 then match P.underlying t with | some .string => true | _ => false else bif Nat.beq i.y 3 then match P.underlying t with | some .bool => true | _ => false else true)
    && (bif Nat.beq i.y 2 then match P.underlying t with | some (.slice e) => Nat.beq e i.e | _ => false else true)
    && (match i.z with | none => true | some l => okB l && ZL 0 l && (match (P.info? t).bind (·.zero) with | some Z => vqL Z.cells.toList (Qg Qu l) | none => false))
def TT.ok (P : Program) (T : TT) : Bool := (List.range T.M).all fun t => match T.get t with
  | none => true
  | some i => tB P t i
theorem TT.at {P : Program} {T : TT} (h : T.ok P = true) {t : Nat} {i : TI} (hi : T.get t = some i) : tB P t i = true := by
  have ht : t < T.M := by
    unfold TT.get at hi
    split at hi
    . rename_i hb; exact QA hb
    . cases hi
  have := List.all_eq_true.1 h t (List.mem_range.2 ht)
  rw [hi] at this
  exact this
section
variable {P : Program} {T : TT} (hT : T.ok P = true) {t : Nat} {i : TI} (hi : T.get t = some i)
include hT hi
theorem TT.size : Zc P t i.s = true := by
  have := TT.at hT hi
  simp only [tB, Bool.and_eq_true] at this
  exact this.1.1.1.1.1.1.1.1
theorem TT.agg (hg : i.g = true) : Qbk P t i.s = true := by
  have := TT.at hT hi
  simp only [tB, Bool.and_eq_true] at this
  have := this.1.1.1.1.1.1.1.2
  rwa [hg] at this
theorem TT.one (hg : i.g = false) : EC P t = true := by
  have := TT.at hT hi
  simp only [tB, Bool.and_eq_true] at this
  have := this.1.1.1.1.1.1.1.2
  rw [hg] at this
  simp only [cond_false, Bool.and_eq_true] at this
  exact this.1
theorem TT.fld {k : Nat} {o : Nat × Nat} (hk : i.o[k]? = some o) : Qbb P t k o.1 = true := by
  have := TT.at hT hi
  simp only [tB, Bool.and_eq_true] at this
  have := Ff this.1.1.1.1.1.1.2 hk
  rwa [Nat.zero_add] at this
theorem TT.places : UZ P t i = true := by
  have := TT.at hT hi
  simp only [tB, Bool.and_eq_true] at this
  exact this.1.1.1.1.1.2
theorem TT.int {K : IntKind} (hk : i.k = some K) : P.underlying t = some (.int K) := by
  have := TT.at hT hi
  simp only [tB, Bool.and_eq_true] at this
  have := this.1.1.1.1.2
  rw [hk] at this
  simp only at this
  split at this
  . rename_i K' hu; rw [hu, of_decide_eq_true this]
  . cases this
theorem TT.arr (hn : Nat.beq i.n 0 = false) : P.underlying t = some (.array i.n i.e) := by
  have := TT.at hT hi
  simp only [tB, Bool.and_eq_true] at this
  have := this.1.1.1.2
  rw [hn] at this
  simp only [cond_false] at this
  split at this
  . rename_i n e hu; simp only [Bool.and_eq_true] at this; rw [hu, Nat.eq_of_beq_eq_true this.1.1, Nat.eq_of_beq_eq_true this.1.2]
  . cases this
theorem TT.eqg (hn : Nat.beq i.n 0 = false) (hg : i.u = true) : P.eqGuardType P.depth t = false := by
  have := TT.at hT hi
  simp only [tB, Bool.and_eq_true] at this
  have := this.1.1.1.2
  rw [hn] at this
  simp only [cond_false] at this
  split at this
  . rename_i n e hu; simp only [Bool.and_eq_true] at this; have := this.2; rw [hg] at this; simpa using this
  . cases this
theorem TT.str (hy : Nat.beq i.y 1 = true) : P.underlying t = some .string := by
  have := TT.at hT hi
  simp only [tB, Bool.and_eq_true] at this
  have := this.1.1.2
  rw [hy] at this
  simp only [cond_true] at this
  split at this
  . assumption
  . cases this
theorem TT.bol (hy : Nat.beq i.y 3 = true) : P.underlying t = some .bool := by
  have := TT.at hT hi
  simp only [tB, Bool.and_eq_true] at this
  have := this.1.1.2
  have h3 := Nat.eq_of_beq_eq_true hy
  rw [h3] at this
  have e1 : Nat.beq 3 1 = false := rfl
  have e2 : Nat.beq 3 3 = true := rfl
  rw [e1, e2] at this
  simp only [cond_true, cond_false] at this
  split at this
  . assumption
  . cases this
theorem TT.slc (hy : Nat.beq i.y 2 = true) : P.underlying t = some (.slice i.e) := by
  have := TT.at hT hi
  simp only [tB, Bool.and_eq_true] at this
  have := this.1.2
  rw [hy] at this
  simp only [cond_true] at this
  split at this
  . rename_i e hu; rw [hu, Nat.eq_of_beq_eq_true this]
  . cases this
theorem TT.und : ∃ d, P.underlying t = some d := by
  cases hg : i.g with
  | true => obtain ⟨d, hd, _⟩ := U2 (TT.agg hT hi hg); exact ⟨d, hd⟩
  | false => obtain ⟨d, hd, _⟩ := U1 (TT.one hT hi hg); exact ⟨d, hd⟩
theorem TT.zero {l : List SV} (hz : i.z = some l) : X3 l /\ ZL 0 l = true /\ ∃ Z, (P.info? t).bind (·.zero) = some Z /\ ∀ ρ, Z.cells.toList = Qg ρ l := by
  have := TT.at hT hi
  simp only [tB, Bool.and_eq_true] at this
  have := this.2
  rw [hz] at this
  simp only [Bool.and_eq_true] at this
  obtain ⟨⟨h1, h2⟩, h3⟩ := this
  refine ⟨EE h1, h2, ?_⟩
  split at h3
  . rename_i Z hZ
    exact ⟨Z, hZ, fun ρ => by rw [Qbv h3]; exact Q1 (fun k hk => absurd hk (Nat.not_lt_zero k)) l h2⟩
  . cases h3
end
/-- A range of a kind of numbers. -/
def rng (K : IntKind) (n : Int) : Prop := match K with
  | .i64 => -9223372036854775808 <= n /\ n <= 9223372036854775807
  | .u64 => 0 <= n /\ n < 18446744073709551616
  | .u32 => 0 <= n /\ n < 4294967296
  | .u8 => 0 <= n /\ n < 256
  | K => K.wrap n = n
theorem YJ {K : IntKind} {n : Int} (h : rng K n) : K.wrap n = n := by
  cases K <;> simp only [rng] at h <;> first
    | exact h
    | exact Qaw h
    | exact F4 h
    | exact Qav h
    | (rw [IntKind.wrap_u32']; omega)
def kn : IntKind -> Nat
  | .i8 => 0 | .i16 => 1 | .i32 => 2 | .i64 => 3 | .u8 => 4 | .u16 => 5 | .u32 => 6 | .u64 => 7
def kq (K K' : IntKind) : Bool := Nat.beq (kn K) (kn K')
theorem UE {K K' : IntKind} (h : kq K K' = true) : K = K' := by
  have := Nat.eq_of_beq_eq_true h
  cases K <;> cases K' <;> simp_all [kn]
def cst : Value -> SV
  | .int K n => .i K n
  | .bool b => .l b
  | .string s => .s s
  | .slice a l c => .o a l c
  | v => .v v
theorem Qfh (ρ : Qy) (v : Value) : (cst v).den ρ = v := by
  cases v <;> simp only [cst, SV.den]
def Z6 (f : SF) : Operand -> Option SV
  | .tmp t => lk f t
  | .const v => some (cst v)
  | .global g => some (.v (.pointer (some ⟨g, 0, none⟩)))
  | .func F => some (.f F [])
theorem Qp {ρ : Qy} {f : SF} {x : Operand} {v : SV} (h : Z6 f x = some v) : ev (Qr ρ f) x = some (v.den ρ) := by
  cases x with
  | tmp t => exact XI h
  | const u => cases h; rw [Qfh]; rfl
  | global g => cases h; simp only [SV.den]; rfl
  | func g => cases h; simp only [SV.den, Qt]; rfl
def GP (f : SF) : List Operand -> Option (List SV)
  | [] => some []
  | x :: l => match Z6 f x with
    | none => none
    | some v => match GP f l with
      | none => none
      | some vs => some (v :: vs)
theorem Zw {ρ : Qy} {f : SF} : ∀ {xs : List Operand} {vs : List SV}, GP f xs = some vs -> evl (Qr ρ f) xs = some (Qt ρ vs)
  | [], vs, h => by cases h; simp only [Qt]; rfl
  | x :: l, vs, h => by
    unfold GP at h
    split at h
    . cases h
    . rename_i v hv
      split at h
      . cases h
      . rename_i us hu
        cases h
        unfold evl
        rw [Qp hv, Zw hu]
        simp only [Qt]
def nth : List SV -> Nat -> Option SV
  | [], _ => none
  | x :: l, n => match Nat.beq n 0 with
    | true => some x
    | false => nth l (Nat.sub n 1)
theorem EG : ∀ {l : List SV} {n : Nat} {x : SV}, nth l n = some x -> l[n]? = some x
  | [], _, _, h => by cases h
  | y :: l, n, x, h => by
    unfold nth at h
    cases hn : Nat.beq n 0 with
    | true => rw [hn] at h; cases h; rw [Nat.eq_of_beq_eq_true hn]; rfl
    | false =>
      rw [hn] at h
      have h0 := Nat.ne_of_beq_eq_false hn
      obtain ⟨k, rfl⟩ : ∃ k, n = k + 1 := ⟨n - 1, by omega⟩
      have : Nat.sub (k + 1) 1 = k := Nat.add_sub_cancel k 1
      rw [this] at h
      simpa using EG h
def QcG : List (Nat × Nat) -> Nat -> Option (Nat × Nat)
  | [], _ => none
  | x :: l, n => match Nat.beq n 0 with
    | true => some x
    | false => QcG l (Nat.sub n 1)
theorem GB : ∀ {l : List (Nat × Nat)} {n : Nat} {x : Nat × Nat}, QcG l n = some x -> l[n]? = some x
  | [], _, _, h => by cases h
  | y :: l, n, x, h => by
    unfold QcG at h
    cases hn : Nat.beq n 0 with
    | true => rw [hn] at h; cases h; rw [Nat.eq_of_beq_eq_true hn]; rfl
    | false =>
      rw [hn] at h
      have h0 := Nat.ne_of_beq_eq_false hn
      obtain ⟨k, rfl⟩ : ∃ k, n = k + 1 := ⟨n - 1, by omega⟩
      have : Nat.sub (k + 1) 1 = k := Nat.add_sub_cancel k 1
      rw [this] at h
      simpa using GB h
/-- A number shifted. -/
def shc : IntKind -> Int -> Prop
  | .u64, n => 0 <= n /\ n <= 64
  | .i64, n => 0 <= n /\ n <= 64
  | .u32, n => 0 <= n /\ n <= 32
  | .u8, n => 0 <= n /\ n <= 8
  | K, n => 0 <= n /\ n <= K.bits
theorem Gn {K : IntKind} {n : Int} (h : shc K n) : 0 <= n /\ n <= K.bits := by
  cases K <;> exact h
def shf (op : BinOp) (K : IntKind) (m n : Int) (acc : List Prop) : Option (SV × List Prop) := match op with
  | .shl => some (.i K (K.wrap (m * 2 ^ n.toNat)), shc K n :: acc)
  | .shr => some (.i K (m / 2 ^ n.toNat), shc K n :: acc)
  | _ => none
/-- Two numbers. -/
def Qhe (md : Bool) (op : BinOp) (K : IntKind) (m n : Int) (acc : List Prop) : Option (SV × List Prop) := match op with
  | .add => match md with
    | true => some (.i K (K.wrap (m + n)), acc)
    | false => some (.i K (m + n), rng K (m + n) :: acc)
  | .sub => match md with
    | true => some (.i K (K.wrap (m - n)), acc)
    | false => some (.i K (m - n), rng K (m - n) :: acc)
  | .mul => match md with
    | true => some (.i K (K.wrap (m * n)), acc)
    | false => some (.i K (m * n), rng K (m * n) :: acc)
  | .quo => some (.i K (m / n), (0 <= m /\ 0 < n /\ rng K (m / n)) :: acc)
  | .rem => some (.i K (m % n), (0 <= m /\ 0 < n) :: acc)
  | .and => some (.i K (bits .and K m n), acc)
  | .or => some (.i K (bits .or K m n), acc)
  | .xor => some (.i K (bits .xor K m n), acc)
  | .eql => some (.c (m = n) inferInstance, acc)
  | .neq => some (.c (¬ m = n) inferInstance, acc)
  | .lss => some (.c (m < n) inferInstance, acc)
  | .leq => some (.c (m <= n) inferInstance, acc)
  | .gtr => some (.c (n < m) inferInstance, acc)
  | .geq => some (.c (n <= m) inferInstance, acc)
  | .shl => shf .shl K m n acc
  | .shr => shf .shr K m n acc
  | _ => none
def Qhc (op : BinOp) (m n : ByteArray) (acc : List Prop) : Option (SV × List Prop) := match op with
  | .eql => some (.c (m = n) inferInstance, acc)
  | .neq => some (.c (¬ m = n) inferInstance, acc)
  | .lss => some (.c (Vz m n = true) inferInstance, acc)
  | .geq => some (.c (¬ Vz m n = true) inferInstance, acc)
  | .gtr => some (.c (¬ (Vz m n = true \/ m = n)) inferInstance, acc)
  | .add => some (.s (m ++ n), (m.size + n.size <= 9223372036854775807) :: acc)
  | _ => none
/-- Two arrays of numbers. -/
def Qhd (op : BinOp) (xs ys : List Int) (n : Nat) (acc : List Prop) : Option (SV × List Prop) := match op with
  | .eql => some (.c (xs = ys) inferInstance, (xs.length = n /\ ys.length = n) :: acc)
  | .neq => some (.c (¬ xs = ys) inferInstance, (xs.length = n /\ ys.length = n) :: acc)
  | _ => none
/-- Two tests. -/
def Qh3 (op : BinOp) (a b : Bool) (acc : List Prop) : Option (SV × List Prop) := match op with
  | .eql => match a with
    | true => some (.l b, acc)
    | false => match b with
      | true => some (.l false, acc)
      | false => some (.l true, acc)
  | .neq => match a with
    | false => some (.l b, acc)
    | true => match b with
      | true => some (.l false, acc)
      | false => some (.l true, acc)
  | _ => none
/-- The value behind a test, where the test is known to be as it must. -/
def unW (p : Prop) (acc : List Prop) : SV -> SV × List Prop
  | .w q _ x => (x, (p -> q) :: acc)
  | x => (x, acc)
def Qcm (p : Prop) (d : Decidable p) (x y : SV) (acc : List Prop) : Option (SV × List Prop) := match x, y with
  | .c q e, .l false => some (.c (p /\ q) (@instDecidableAnd p q d e), acc)
  | .l true, .c q e => some (.c (p \/ q) (@instDecidableOr p q d e), acc)
  | .l true, .l false => some (.c p d, acc)
  | .i K m, .i K' n => match kq K K' with
    | true => some (.i K (@ite Int p d m n), acc)
    | false => none
  | .s m, .s n => some (.s (@ite ByteArray p d m n), acc)
  | _, _ => none
/-- What an operation yields that touches no memory. -/
def HU (T : TT) (md : Bool) (ev : Operand -> Option SV) (acc : List Prop) : Op -> Option (SV × List Prop)
  | .move x => match ev x with
    | some v => some (v, acc)
    | none => none
  | .assign x => match ev x with
    | some v => some (v, acc)
    | none => none
  | .pick c x y => match ev c with
    | some (.l true) => match ev x with
      | some v => some (v, acc)
      | none => none
    | some (.l false) => match ev y with
      | some v => some (v, acc)
      | none => none
    | some (.c p d) => match ev x with
      | some vx => match ev y with
        | some vy => match unW p acc vx with
          | (vx, acc) => match unW (¬ p) acc vy with
            | (vy, acc) => Qcm p d vx vy acc
        | none => none
      | none => none
    | _ => none
  | .binOp op t x y _ => match ev x with
    | some (.i K m) => match ev y with
      | some (.i K' n) => match kq K' K with
        | true => Qhe md op K m n acc
        | false => shf op K m n acc
      | _ => none
    | some (.s m) => match ev y with
      | some (.s n) => Qhc op m n acc
      | _ => none
    | some (.a K xs _) => match ev y with
      | some (.a K' ys _) => match kq K' K with
        | true => match T.get t with
          | some i => match i.u with
            | true => match Nat.beq i.n 0 with
              | true => none
              | false => match T.get i.e with
                | some j => match Nat.beq j.s 1 with
                  | true => match j.k with
                    | some _ => Qhd op xs ys i.n acc
                    | none => none
                  | false => none
                | none => none
            | false => none
          | none => none
        | false => none
      | _ => none
    | some (.l a) => match ev y with
      | some (.l b) => match T.get t with
        | some i => match Nat.beq i.y 3 with
          | true => Qh3 op a b acc
          | false => none
        | none => none
      | _ => none
    | _ => none
  | .unOp .not _ x => match ev x with
    | some (.l true) => some (.l false, acc)
    | some (.l false) => some (.l true, acc)
    | some (.c p d) => some (.c (¬ p) (@instDecidableNot p d), acc)
    | _ => none
  | .convert s t x => match T.get s with
    | some _ => match T.get t with
      | some i => match i.k with
        | some K' => match ev x with
          | some (.i K m) => match md with
            | true => some (.i K' (K'.wrap m), acc)
            | false => some (.i K' m, rng K' m :: acc)
          | _ => none
        | none => none
      | none => none
    | none => none
  | .extract x i => match ev x with
    | some (.t l) => match nth l i with
      | some v => some (v, acc)
      | none => none
    | _ => none
  | .nilCheck x => match ev x with
    | some (.p k o) => some (.p k o, acc)
    | some (.q k o) => some (.q k o, acc)
    | some (.x k o s n) => some (.x k o s n, acc)
    | _ => none
  | .fieldAddr t x k => match T.get t with
    | some i => match QcG i.o k with
      | some (off, _) => match ev x with
        | some (.p b o) => some (.p b (Nat.add o off), acc)
        | some (.q b o) => some (.q b (Nat.add o off), acc)
        | _ => none
      | none => none
    | none => none
  | .call { callee := .builtin .len, args := ⟨[x]⟩, argTypes := ⟨[t]⟩ } => match T.get t with
    | some i => match ev x with
      | some (.s b) => match Nat.beq i.y 1 with
        | true => some (.i .i64 (b.size : Int), acc)
        | false => none
      | some (.o _ l _) => match Nat.beq i.y 2 with
        | true => some (.i .i64 (l : Int), acc)
        | false => none
      | some (.y _ _ l _) => match Nat.beq i.y 2 with
        | true => some (.i .i64 (l : Int), acc)
        | false => none
      | some (.z _ _ l _) => match Nat.beq i.y 2 with
        | true => some (.i .i64 (l : Int), acc)
        | false => none
      | _ => none
    | none => none
  | .call { callee := .builtin .min, args := ⟨[x, y]⟩, argTypes := _ } => match ev x with
    | some (.i K m) => match ev y with
      | some (.i K' n) => match kq K' K with
        | true => some (.i K (if n < m then n else m), acc)
        | false => none
      | _ => none
    | _ => none
  | .call { callee := .builtin .max, args := ⟨[x, y]⟩, argTypes := _ } => match ev x with
    | some (.i K m) => match ev y with
      | some (.i K' n) => match kq K' K with
        | true => some (.i K (if m < n then n else m), acc)
        | false => none
      | _ => none
    | _ => none
  | _ => none
end Go.Proofs.YtbiboamaigedjaaDoor
namespace Go.Proofs.YtbiboamaigedjaaDoor
open Go.RowKit
set_option linter.unusedVariables false
set_option linter.constructorNameAsVariable false
set_option linter.unusedSimpArgs false

def QP : List Prop -> Prop
  | [] => True
  | p :: l => p /\ QP l
section
variable {P : Program} {ops : Array Oper} {o : Oper} {N : Nat} {w : World} {ρ : Qy} {f : SF} {T : TT} {md : Bool} {acc acc' : List Prop}
/-- A value that an operation yields. -/
abbrev Yl (P : Program) (ops : Array Oper) (o : Oper) (N : Nat) (ρ : Qy) (fl : Fl) (w : World) (v : SV) : Prop := DV P ops o N fl w (v.den ρ)
theorem DV.eq {fl : Fl} {v v' : Value} (h : DV P ops o N fl w v) (e : v = v') : DV P ops o N fl w v' := e ▸ h
theorem Qiv {t t' : TypeId} {x y : Operand} {K K2 : IntKind} {m n : Int} {f : Fl} (ho : o.op = .binOp .shr t x y t') (hx : ev f x = some (.int K m)) (hy : ev f y = some (.int K2 n)) (hn : 0 <= n) (hn2 : n <= K.bits) (hw : Qj ops o f = some true) : DV P ops o N f w (.int K (m / 2 ^ n.toNat)) := fun a ha =>
  Qi.shr (Qe ha hw) ho (ha.ev hx) (ha.ev hy) hn hn2 rfl ⟨rfl, rfl⟩
theorem Qiw {t t' : TypeId} {x y : Operand} {K K2 : IntKind} {m n : Int} {f : Fl} (ho : o.op = .binOp .shl t x y t') (hx : ev f x = some (.int K m)) (hy : ev f y = some (.int K2 n)) (hn : 0 <= n) (hn2 : n <= K.bits) (hw : Qj ops o f = some true) : DV P ops o N f w (.int K (K.wrap (m * 2 ^ n.toNat))) := fun a ha =>
  Qi.shl (Qe ha hw) ho (ha.ev hx) (ha.ev hy) hn hn2 rfl ⟨rfl, rfl⟩
theorem Ek {fl : Fl} (hw : Qj ops o fl = some true) {op : BinOp} {t t' : TypeId} {x y : Operand} {K K2 : IntKind} {m n : Int} (ho : o.op = .binOp op t x y t') (hx : ev fl x = some (.int K m)) (hy : ev fl y = some (.int K2 n)) {v : SV} (h : shf op K m n acc = some (v, acc')) (hc : QP acc') : QP acc /\ Yl P ops o N ρ fl w v := by
  cases op <;> simp only [shf] at h
  case shl => simp only [Option.some.injEq, Prod.mk.injEq] at h; obtain ⟨rfl, rfl⟩ := h; exact ⟨hc.2, (Qiw ho hx hy (Gn hc.1).1 (Gn hc.1).2 hw).eq (by simp only [SV.den])⟩
  case shr => simp only [Option.some.injEq, Prod.mk.injEq] at h; obtain ⟨rfl, rfl⟩ := h; exact ⟨hc.2, (Qiv ho hx hy (Gn hc.1).1 (Gn hc.1).2 hw).eq (by simp only [SV.den])⟩
  all_goals cases h
theorem Qfq {fl : Fl} (hw : Qj ops o fl = some true) {op : BinOp} {t t' : TypeId} {x y : Operand} {K : IntKind} {m n : Int} (ho : o.op = .binOp op t x y t') (hx : ev fl x = some (.int K m)) (hy : ev fl y = some (.int K n)) {v : SV} (h : Qhe md op K m n acc = some (v, acc')) (hc : QP acc') : QP acc /\ Yl P ops o N ρ fl w v := by
  cases op <;> simp only [Qhe] at h
  case add =>
    cases md <;> simp only [Option.some.injEq, Prod.mk.injEq] at h <;> obtain ⟨rfl, rfl⟩ := h
    . exact ⟨hc.2, (Qdp ho hx hy (YJ hc.1) hw).eq (by simp only [SV.den])⟩
    . exact ⟨hc, (Qdp ho hx hy rfl hw).eq (by simp only [SV.den])⟩
  case sub =>
    cases md <;> simp only [Option.some.injEq, Prod.mk.injEq] at h <;> obtain ⟨rfl, rfl⟩ := h
    . exact ⟨hc.2, (Qdd ho hx hy (YJ hc.1) hw).eq (by simp only [SV.den])⟩
    . exact ⟨hc, (Qdd ho hx hy rfl hw).eq (by simp only [SV.den])⟩
  case mul =>
    cases md <;> simp only [Option.some.injEq, Prod.mk.injEq] at h <;> obtain ⟨rfl, rfl⟩ := h
    . exact ⟨hc.2, (Qdh ho hx hy (YJ hc.1) hw).eq (by simp only [SV.den])⟩
    . exact ⟨hc, (Qdh ho hx hy rfl hw).eq (by simp only [SV.den])⟩
  case quo =>
    simp only [Option.some.injEq, Prod.mk.injEq] at h
    obtain ⟨rfl, rfl⟩ := h
    obtain ⟨⟨h1, h2, h3⟩, h4⟩ := hc
    exact ⟨h4, (QgY (r := m / n) ho hx hy (by omega) (by rw [Int.tdiv_eq_ediv_of_nonneg h1]; exact YJ h3) hw).eq (by simp only [SV.den])⟩
  case rem =>
    simp only [Option.some.injEq, Prod.mk.injEq] at h
    obtain ⟨rfl, rfl⟩ := h
    obtain ⟨⟨h1, h2⟩, h4⟩ := hc
    exact ⟨h4, (QgX ho hx hy (by omega) (Int.tmod_eq_emod_of_nonneg h1) hw).eq (by simp only [SV.den])⟩
  case and => simp only [Option.some.injEq, Prod.mk.injEq] at h; obtain ⟨rfl, rfl⟩ := h; exact ⟨hc, (Qdo ho hx hy rfl hw).eq (by simp only [SV.den])⟩
  case or => simp only [Option.some.injEq, Prod.mk.injEq] at h; obtain ⟨rfl, rfl⟩ := h; exact ⟨hc, (Qe5 ho hx hy rfl hw).eq (by simp only [SV.den])⟩
  case xor => simp only [Option.some.injEq, Prod.mk.injEq] at h; obtain ⟨rfl, rfl⟩ := h; exact ⟨hc, (Qdc ho hx hy rfl hw).eq (by simp only [SV.den])⟩
  case eql => simp only [Option.some.injEq, Prod.mk.injEq] at h; obtain ⟨rfl, rfl⟩ := h; exact ⟨hc, (Qg6 ho hx hy hw).eq (by simp only [SV.den])⟩
  case neq => simp only [Option.some.injEq, Prod.mk.injEq] at h; obtain ⟨rfl, rfl⟩ := h; exact ⟨hc, (QgZ ho hx hy hw).eq (by simp only [SV.den]; simp)⟩
  case lss => simp only [Option.some.injEq, Prod.mk.injEq] at h; obtain ⟨rfl, rfl⟩ := h; exact ⟨hc, (Qg2 ho hx hy hw).eq (by simp only [SV.den])⟩
  case leq => simp only [Option.some.injEq, Prod.mk.injEq] at h; obtain ⟨rfl, rfl⟩ := h; exact ⟨hc, (Qg3 ho hx hy hw).eq (by simp only [SV.den])⟩
  case gtr => simp only [Option.some.injEq, Prod.mk.injEq] at h; obtain ⟨rfl, rfl⟩ := h; exact ⟨hc, (Qg4 ho hx hy hw).eq (by simp only [SV.den])⟩
  case geq => simp only [Option.some.injEq, Prod.mk.injEq] at h; obtain ⟨rfl, rfl⟩ := h; exact ⟨hc, (Qg5 ho hx hy hw).eq (by simp only [SV.den])⟩
  case shl => exact Ek hw ho hx hy h hc
  case shr => exact Ek hw ho hx hy h hc
  all_goals cases h
theorem Qfo {fl : Fl} (hw : Qj ops o fl = some true) {op : BinOp} {t t' : TypeId} {x y : Operand} {m n : ByteArray} (ho : o.op = .binOp op t x y t') (hx : ev fl x = some (.string m)) (hy : ev fl y = some (.string n)) {v : SV} (h : Qhc op m n acc = some (v, acc')) (hc : QP acc') : QP acc /\ Yl P ops o N ρ fl w v := by
  cases op <;> simp only [Qhc] at h
  case eql => simp only [Option.some.injEq, Prod.mk.injEq] at h; obtain ⟨rfl, rfl⟩ := h; exact ⟨hc, (Qfe ho hx hy hw).eq (by simp only [SV.den])⟩
  case neq => simp only [Option.some.injEq, Prod.mk.injEq] at h; obtain ⟨rfl, rfl⟩ := h; exact ⟨hc, (Qe6 ho hx hy hw).eq (by simp only [SV.den]; simp)⟩
  case lss => simp only [Option.some.injEq, Prod.mk.injEq] at h; obtain ⟨rfl, rfl⟩ := h; exact ⟨hc, (Qe9 ho hx hy hw).eq (by simp only [SV.den]; simp)⟩
  case geq => simp only [Option.some.injEq, Prod.mk.injEq] at h; obtain ⟨rfl, rfl⟩ := h; exact ⟨hc, (Qfc ho hx hy hw).eq (by simp only [SV.den]; simp)⟩
  case gtr => simp only [Option.some.injEq, Prod.mk.injEq] at h; obtain ⟨rfl, rfl⟩ := h; exact ⟨hc, (Qfb ho hx hy hw).eq (by simp only [SV.den]; simp)⟩
  case add => simp only [Option.some.injEq, Prod.mk.injEq] at h; obtain ⟨rfl, rfl⟩ := h; exact ⟨hc.2, (Qfg ho hx hy hc.1 hw).eq (by simp only [SV.den])⟩
  all_goals cases h
theorem Qfp {fl : Fl} (hw : Qj ops o fl = some true) {op : BinOp} {t t' e : TypeId} {x y : Operand} {K K' : IntKind} {xs ys : List Int} {n : Nat} (ho : o.op = .binOp op t x y t') (hu : P.underlying t = some (.array n e)) (he : P.underlying e = some (.int K')) (hs : Zc P e 1 = true) (hg : P.eqGuardType P.depth t = false) (hx : ev fl x = some (Xa K xs)) (hy : ev fl y = some (Xa K ys)) {v : SV} (h : Qhd op xs ys n acc = some (v, acc')) (hc : QP acc') : QP acc /\ Yl P ops o N ρ fl w v := by
  cases op <;> simp only [Qhd] at h
  case eql => simp only [Option.some.injEq, Prod.mk.injEq] at h; obtain ⟨rfl, rfl⟩ := h; exact ⟨hc.2, (Qg8 ho hu he hs hg hx hy hc.1.1 hc.1.2 hw).eq (by simp only [SV.den])⟩
  case neq => simp only [Option.some.injEq, Prod.mk.injEq] at h; obtain ⟨rfl, rfl⟩ := h; exact ⟨hc.2, (Qe8 ho hu he hs hg hx hy hc.1.1 hc.1.2 hw).eq (by simp only [SV.den]; simp)⟩
  all_goals cases h
theorem QbC {p : Prop} {x y : SV} (h : unW p acc x = (y, acc')) (hc : QP acc') : QP acc /\ (p -> x.den ρ = y.den ρ) := by
  unfold unW at h
  split at h
  . rename_i q d z
    simp only [Prod.mk.injEq] at h
    obtain ⟨rfl, rfl⟩ := h
    refine ⟨hc.2, fun hp => ?_⟩
    have hq := hc.1 hp
    cases d with
    | isTrue _ => simp only [SV.den]
    | isFalse hn => exact absurd hq hn
  . simp only [Prod.mk.injEq] at h
    obtain ⟨rfl, rfl⟩ := h
    exact ⟨hc, fun _ => rfl⟩
theorem Qcl {p : Prop} {d : Decidable p} {x y v : SV} (h : Qcm p d x y acc = some (v, acc')) : acc' = acc /\ v.den ρ = if p then x.den ρ else y.den ρ := by
  unfold Qcm at h
  split at h
  . rename_i q e
    simp only [Option.some.injEq, Prod.mk.injEq] at h
    obtain ⟨rfl, rfl⟩ := h
    refine ⟨rfl, ?_⟩
    by_cases hp : p <;> by_cases hq : q <;> simp [SV.den, hp, hq]
  . rename_i q e
    simp only [Option.some.injEq, Prod.mk.injEq] at h
    obtain ⟨rfl, rfl⟩ := h
    refine ⟨rfl, ?_⟩
    by_cases hp : p <;> by_cases hq : q <;> simp [SV.den, hp, hq]
  . simp only [Option.some.injEq, Prod.mk.injEq] at h
    obtain ⟨rfl, rfl⟩ := h
    refine ⟨rfl, ?_⟩
    by_cases hp : p <;> simp [SV.den, hp]
  . rename_i K m K' n
    split at h
    . rename_i hk
      simp only [Option.some.injEq, Prod.mk.injEq] at h
      obtain ⟨rfl, rfl⟩ := h
      refine ⟨rfl, ?_⟩
      rw [<- UE hk]
      by_cases hp : p <;> simp [SV.den, hp]
    . cases h
  . simp only [Option.some.injEq, Prod.mk.injEq] at h
    obtain ⟨rfl, rfl⟩ := h
    refine ⟨rfl, ?_⟩
    by_cases hp : p <;> simp [SV.den, hp]
  . cases h
theorem Js (hT : T.ok P = true) {fl : Fl} {ev' : Operand -> Option SV} (hev : ∀ {x v}, ev' x = some v -> ev fl x = some (v.den ρ)) (hw : Qj ops o fl = some true) {v : SV} (h : HU T md ev' acc o.op = some (v, acc')) (hc : QP acc') : QP acc /\ Yl P ops o N ρ fl w v := by
  generalize hq : o.op = q at h
  unfold HU at h
  split at h
  . -- move
    split at h
    . rename_i u hu
      simp only [Option.some.injEq, Prod.mk.injEq] at h
      obtain ⟨rfl, rfl⟩ := h
      exact ⟨hc, GU hq (hev hu) hw⟩
    . cases h
  . split at h
    . rename_i u hu
      simp only [Option.some.injEq, Prod.mk.injEq] at h
      obtain ⟨rfl, rfl⟩ := h
      exact ⟨hc, Ut hq (hev hu) hw⟩
    . cases h
  . -- pick
    rename_i c x y
    split at h
    . rename_i hcc
      split at h
      . rename_i u hu
        simp only [Option.some.injEq, Prod.mk.injEq] at h
        obtain ⟨rfl, rfl⟩ := h
        have h1 := hev hcc
        simp only [SV.den] at h1
        exact ⟨hc, GT hq h1 (hev hu) hw⟩
      . cases h
    . rename_i hcc
      split at h
      . rename_i u hu
        simp only [Option.some.injEq, Prod.mk.injEq] at h
        obtain ⟨rfl, rfl⟩ := h
        have h1 := hev hcc
        simp only [SV.den] at h1
        exact ⟨hc, GT hq h1 (hev hu) hw⟩
      . cases h
    . rename_i p d hcc
      have h1 := hev hcc
      simp only [SV.den] at h1
      split at h
      . rename_i vx hx
        split at h
        . rename_i vy hy
          split at h
          rename_i ux a1 e1
          split at h
          rename_i uy a2 e2
          obtain ⟨rfl, hp⟩ := Qcl (ρ := ρ) h
          obtain ⟨hc1, g2⟩ := QbC (ρ := ρ) e2 hc
          obtain ⟨hc0, g1⟩ := QbC (ρ := ρ) e1 hc1
          refine ⟨hc0, GT hq h1 ?_ hw⟩
          show _ = some (v.den ρ)
          rw [hp]
          by_cases hp' : p
          . simp only [hp', decide_true, cond_true, if_true]; rw [hev hx, g1 hp']
          . simp only [hp', decide_false, cond_false, if_false]; rw [hev hy, g2 hp']
        . cases h
      . cases h
    . cases h
  . -- binOp
    rename_i op t x y t'
    split at h
    . rename_i K m hx
      have h1 := hev hx
      simp only [SV.den] at h1
      split at h
      . rename_i K' n hy
        have h2 := hev hy
        simp only [SV.den] at h2
        split at h
        . rename_i hk
          rw [UE hk] at h2
          exact Qfq hw hq h1 h2 h hc
        . exact Ek hw hq h1 h2 h hc
      . cases h
    . rename_i m hx
      have h1 := hev hx
      simp only [SV.den] at h1
      split at h
      . rename_i n hy
        have h2 := hev hy
        simp only [SV.den] at h2
        exact Qfo hw hq h1 h2 h hc
      . cases h
    . rename_i K xs n hx
      have h1 := hev hx
      simp only [SV.den] at h1
      split at h
      . rename_i K' ys n' hy
        have h2 := hev hy
        simp only [SV.den] at h2
        split at h
        . rename_i hk
          rw [UE hk] at h2
          split at h
          . rename_i i hi
            split at h
            . rename_i hu
              split at h
              . cases h
              . rename_i hn
                split at h
                . rename_i j hj
                  split at h
                  . rename_i hs
                    split at h
                    . rename_i Kj hkj
                      have hsz := TT.size hT hj
                      rw [Nat.eq_of_beq_eq_true hs] at hsz
                      exact Qfp hw hq (TT.arr hT hi hn) (TT.int hT hj hkj) hsz (TT.eqg hT hi hn hu) h1 h2 h hc
                    . cases h
                  . cases h
                . cases h
            . cases h
          . cases h
        . cases h
      . cases h
    . rename_i a hx
      have h1 := hev hx
      simp only [SV.den] at h1
      split at h
      . rename_i b hy
        have h2 := hev hy
        simp only [SV.den] at h2
        split at h
        . rename_i i hi
          split at h
          . rename_i hyy
            have hu := TT.bol hT hi hyy
            unfold Qh3 at h
            split at h
            . cases a <;> cases b <;> simp only [Option.some.injEq, Prod.mk.injEq] at h <;> obtain ⟨rfl, rfl⟩ := h <;> exact ⟨hc, (Qg7 hq hu h1 h2 hw).eq (by simp only [SV.den]; rfl)⟩
            . cases a <;> cases b <;> simp only [Option.some.injEq, Prod.mk.injEq] at h <;> obtain ⟨rfl, rfl⟩ := h <;> exact ⟨hc, (Qe7 hq hu h1 h2 hw).eq (by simp only [SV.den]; rfl)⟩
            . cases h
          . cases h
        . cases h
      . cases h
    . cases h
  . -- not
    rename_i t x
    split at h
    . rename_i hx
      simp only [Option.some.injEq, Prod.mk.injEq] at h
      obtain ⟨rfl, rfl⟩ := h
      have h1 := hev hx
      simp only [SV.den] at h1
      exact ⟨hc, (ET hq h1 hw).eq (by simp only [SV.den]; rfl)⟩
    . rename_i hx
      simp only [Option.some.injEq, Prod.mk.injEq] at h
      obtain ⟨rfl, rfl⟩ := h
      have h1 := hev hx
      simp only [SV.den] at h1
      exact ⟨hc, (ET hq h1 hw).eq (by simp only [SV.den]; rfl)⟩
    . rename_i p d hx
      simp only [Option.some.injEq, Prod.mk.injEq] at h
      obtain ⟨rfl, rfl⟩ := h
      have h1 := hev hx
      simp only [SV.den] at h1
      exact ⟨hc, (ET hq h1 hw).eq (by simp only [SV.den]; by_cases hp : p <;> simp [hp])⟩
    . cases h
  . -- convert
    rename_i s t x
    split at h
    . rename_i i' hs
      split at h
      . rename_i i ht
        split at h
        . rename_i K' hk
          split at h
          . rename_i K m hx
            have h1 := hev hx
            simp only [SV.den] at h1
            obtain ⟨ds, hds⟩ := TT.und hT hs
            split at h
            . simp only [Option.some.injEq, Prod.mk.injEq] at h
              obtain ⟨rfl, rfl⟩ := h
              exact ⟨hc, (D9 hq hds (TT.int hT ht hk) h1 rfl hw).eq (by simp only [SV.den])⟩
            . simp only [Option.some.injEq, Prod.mk.injEq] at h
              obtain ⟨rfl, rfl⟩ := h
              exact ⟨hc.2, (D9 hq hds (TT.int hT ht hk) h1 (YJ hc.1) hw).eq (by simp only [SV.den])⟩
          . cases h
        . cases h
      . cases h
    . cases h
  . -- extract
    rename_i x i
    split at h
    . rename_i l hx
      split at h
      . rename_i u hu
        simp only [Option.some.injEq, Prod.mk.injEq] at h
        obtain ⟨rfl, rfl⟩ := h
        have h1 := hev hx
        simp only [SV.den] at h1
        exact ⟨hc, EV hq h1 (by simpa using FM (EG hu)) hw⟩
      . cases h
    . cases h
  . -- nilCheck
    rename_i x
    split at h
    . rename_i k o' hx
      simp only [Option.some.injEq, Prod.mk.injEq] at h
      obtain ⟨rfl, rfl⟩ := h
      have h1 := hev hx
      simp only [SV.den] at h1
      exact ⟨hc, (YU hq h1 hw).eq (by simp only [SV.den])⟩
    . rename_i k o' hx
      simp only [Option.some.injEq, Prod.mk.injEq] at h
      obtain ⟨rfl, rfl⟩ := h
      have h1 := hev hx
      simp only [SV.den] at h1
      exact ⟨hc, (YU hq h1 hw).eq (by simp only [SV.den])⟩
    . rename_i k o' s' n' hx
      simp only [Option.some.injEq, Prod.mk.injEq] at h
      obtain ⟨rfl, rfl⟩ := h
      have h1 := hev hx
      simp only [SV.den] at h1
      exact ⟨hc, (YU hq h1 hw).eq (by simp only [SV.den])⟩
    . cases h
  . -- fieldAddr
    rename_i t x k
    split at h
    . rename_i i ht
      split at h
      . rename_i off sz hoff
        have hf := TT.fld hT ht (GB hoff)
        split at h
        . rename_i b o' hx
          simp only [Option.some.injEq, Prod.mk.injEq] at h
          obtain ⟨rfl, rfl⟩ := h
          have h1 := hev hx
          simp only [SV.den] at h1
          exact ⟨hc, (Qdk hq hf h1 rfl hw).eq (by simp only [SV.den]; rfl)⟩
        . rename_i b o' hx
          simp only [Option.some.injEq, Prod.mk.injEq] at h
          obtain ⟨rfl, rfl⟩ := h
          have h1 := hev hx
          simp only [SV.den] at h1
          exact ⟨hc, (Qdk hq hf h1 rfl hw).eq (by simp only [SV.den, Nat.add_eq, Nat.add_assoc])⟩
        . cases h
      . cases h
    . cases h
  . -- len
    rename_i x t
    split at h
    . rename_i i ht
      split at h
      . rename_i b hx
        split at h
        . rename_i hy
          simp only [Option.some.injEq, Prod.mk.injEq] at h
          obtain ⟨rfl, rfl⟩ := h
          have h1 := hev hx
          simp only [SV.den] at h1
          exact ⟨hc, (Qfa hq (TT.str hT ht hy) h1 hw).eq (by simp only [SV.den])⟩
        . cases h
      . rename_i a l c hx
        split at h
        . rename_i hy
          simp only [Option.some.injEq, Prod.mk.injEq] at h
          obtain ⟨rfl, rfl⟩ := h
          have h1 := hev hx
          simp only [SV.den] at h1
          exact ⟨hc, (EU hq (TT.slc hT ht hy) h1 hw).eq (by simp only [SV.den])⟩
        . cases h
      . rename_i k o l c hx
        split at h
        . rename_i hy
          simp only [Option.some.injEq, Prod.mk.injEq] at h
          obtain ⟨rfl, rfl⟩ := h
          have h1 := hev hx
          simp only [SV.den] at h1
          exact ⟨hc, (EU hq (TT.slc hT ht hy) h1 hw).eq (by simp only [SV.den])⟩
        . cases h
      . rename_i k o l c hx
        split at h
        . rename_i hy
          simp only [Option.some.injEq, Prod.mk.injEq] at h
          obtain ⟨rfl, rfl⟩ := h
          have h1 := hev hx
          simp only [SV.den] at h1
          exact ⟨hc, (EU hq (TT.slc hT ht hy) h1 hw).eq (by simp only [SV.den])⟩
        . cases h
      . cases h
    . cases h
  . -- min
    rename_i x y ts
    split at h
    . rename_i K m hx
      have h1 := hev hx
      simp only [SV.den] at h1
      split at h
      . rename_i K' n hy
        have h2 := hev hy
        simp only [SV.den] at h2
        split at h
        . rename_i hk
          rw [UE hk] at h2
          simp only [Option.some.injEq, Prod.mk.injEq] at h
          obtain ⟨rfl, rfl⟩ := h
          exact ⟨hc, (Qg0 hq h1 h2 hw).eq (by simp only [SV.den])⟩
        . cases h
      . cases h
    . cases h
  . rename_i x y ts
    split at h
    . rename_i K m hx
      have h1 := hev hx
      simp only [SV.den] at h1
      split at h
      . rename_i K' n hy
        have h2 := hev hy
        simp only [SV.den] at h2
        split at h
        . rename_i hk
          rw [UE hk] at h2
          simp only [Option.some.injEq, Prod.mk.injEq] at h
          obtain ⟨rfl, rfl⟩ := h
          exact ⟨hc, (Qg1 hq h1 h2 hw).eq (by simp only [SV.den])⟩
        . cases h
      . cases h
    . cases h
  . cases h
end
end Go.Proofs.YtbiboamaigedjaaDoor
namespace Go.Proofs.YtbiboamaigedjaaDoor
open Go.RowKit
set_option linter.unusedVariables false
set_option linter.constructorNameAsVariable false
set_option linter.unusedSimpArgs false

/-- The cell at a place: in which symbol it lies, and where in it. -/
def EL {α : Type} : List SV -> Nat -> (SV -> Nat -> Option α) -> Option α
  | [], _, _ => none
  | x :: l, o, K => match Nat.ble x.wd o with
    | true => EL l (Nat.sub o x.wd) K
    | false => K x o
theorem VP {α : Type} {K : SV -> Nat -> Option α} {r : α} (ρ : Qy) : ∀ {l : List SV} {o : Nat}, X3 l -> EL l o K = some r -> ∃ x j, K x j = some r /\ j < x.wd /\ x.ok /\ ∀ i, j + i < x.wd -> (Qg ρ l)[o + i]? = (x.cs (x.den ρ))[j + i]?
  | [], _, _, h => by cases h
  | x :: l, o, hk, h => by
    unfold EL at h
    have hl := J4 hk.1 (x.den ρ)
    cases hb : Nat.ble x.wd o with
    | true =>
      rw [hb] at h
      have hle := Nat.le_of_ble_eq_true hb
      obtain ⟨y, j, h1, h2, h3, h4⟩ := VP ρ hk.2 h
      refine ⟨y, j, h1, h2, h3, fun i hi => ?_⟩
      rw [<- h4 i hi]
      simp only [Qg]
      rw [List.getElem?_append_right (by omega), hl]
      have : Nat.sub o x.wd = o - x.wd := rfl
      rw [this, show o + i - x.wd = o - x.wd + i by omega]
    | false =>
      rw [hb] at h
      have hlt : o < x.wd := by
        rcases Nat.lt_or_ge o x.wd with h' | h'
        . exact h'
        . rw [Nat.ble_eq_true_of_le h'] at hb; cases hb
      refine ⟨x, o, h, hlt, hk.1, fun i hi => ?_⟩
      simp only [Qg]
      rw [List.getElem?_append_left (by omega)]
def Uq {α : Type} (n : Nat) (K : Nat -> α) : α := match n with
  | 0 => K 0
  | q + 1 => K (q + 1)
theorem XV {α : Type} {n : Nat} {K : Nat -> α} : Uq n K = K n := by cases n <;> rfl
def UI : List SV -> Nat -> Option (List SV)
  | [], o => match Nat.beq o 0 with
    | true => some []
    | false => none
  | x :: l, o => match Nat.beq o 0 with
    | true => some (x :: l)
    | false => match Nat.ble x.wd o with
      | true => Uq (Nat.sub o x.wd) fun q => UI l q
      | false => match x with
        | .a K zs n => Uq (Nat.sub n o) fun q => some (.a K (zs.drop o) q :: l)
        | _ => none
theorem YV (ρ : Qy) : ∀ {l r : List SV} {o : Nat}, X3 l -> UI l o = some r -> X3 r /\ Qg ρ r = (Qg ρ l).drop o /\ o + X2 r = X2 l
  | [], r, o, hk, h => by
    unfold UI at h
    cases hb : Nat.beq o 0 with
    | true => rw [hb] at h; cases h; have := Nat.eq_of_beq_eq_true hb; subst this; exact ⟨trivial, by simp [Qg], by simp [X2]⟩
    | false => rw [hb] at h; cases h
  | x :: l, r, o, hk, h => by
    unfold UI at h
    cases hb : Nat.beq o 0 with
    | true => rw [hb] at h; cases h; have := Nat.eq_of_beq_eq_true hb; subst this; exact ⟨hk, by simp, by simp⟩
    | false =>
      rw [hb] at h
      cases hc : Nat.ble x.wd o with
      | false =>
        rw [hc] at h
        have hlt : o < x.wd := by
          rcases Nat.lt_or_ge o x.wd with h' | h'
          . exact h'
          . rw [Nat.ble_eq_true_of_le h'] at hc; cases hc
        simp only at h
        split at h
        . rename_i K zs n
          rw [XV] at h
          cases h
          have hz : zs.length = n := hk.1
          have e : Nat.sub n o = n - o := rfl
          simp only [SV.wd] at hlt
          refine ⟨⟨by show (zs.drop o).length = Nat.sub n o; rw [List.length_drop, e]; omega, hk.2⟩, ?_, ?_⟩
          . simp only [Qg, SV.cs]
            rw [List.drop_append_of_le_length (by rw [List.length_map]; omega), List.map_drop]
          . simp only [X2, SV.wd]; rw [e]; omega
        . cases h
      | true =>
        rw [hc] at h
        simp only [XV] at h
        have hle := Nat.le_of_ble_eq_true hc
        obtain ⟨h1, h2, h3⟩ := YV ρ hk.2 h
        have hl := J4 hk.1 (x.den ρ)
        have e : Nat.sub o x.wd = o - x.wd := rfl
        refine ⟨h1, ?_, ?_⟩
        . rw [h2]
          simp only [Qg, List.drop_append, hl, e]
          rw [show List.drop o (x.cs (x.den ρ)) = [] from List.drop_eq_nil_of_le (by omega), List.nil_append]
        . simp only [X2]; rw [e] at h3; omega
/-- It has so many cells. -/
def eqW : List SV -> Nat -> Bool
  | [], s => Nat.beq s 0
  | x :: l, s => match Nat.ble x.wd s with
    | true => Uq (Nat.sub s x.wd) fun q => eqW l q
    | false => false
theorem GQ : ∀ {l : List SV} {s : Nat}, eqW l s = true -> X2 l = s
  | [], s, h => (Nat.eq_of_beq_eq_true h).symm
  | x :: l, s, h => by
    unfold eqW at h
    cases hc : Nat.ble x.wd s with
    | false => rw [hc] at h; cases h
    | true =>
      rw [hc] at h
      simp only [XV] at h
      have hle := Nat.le_of_ble_eq_true hc
      have := GQ h
      have e : Nat.sub s x.wd = s - x.wd := rfl
      simp only [X2]
      rw [e] at this
      omega
def YF {α : Type} : List SV -> Nat -> (List SV -> Option α) -> Option α
  | [], s, K => match Nat.beq s 0 with
    | true => K []
    | false => none
  | x :: l, s, K => match Nat.beq s 0 with
    | true => K []
    | false => match Nat.ble x.wd s with
      | true => Uq (Nat.sub s x.wd) fun q => YF l q fun r => K (x :: r)
      | false => match x with
        | .a K' zs n => K [.a K' (zs.take s) s]
        | _ => none
theorem YE {α : Type} (ρ : Qy) : ∀ {l : List SV} {s : Nat} {K : List SV -> Option α} {r : α}, X3 l -> YF l s K = some r -> ∃ t, K t = some r /\ X3 t /\ Qg ρ t = (Qg ρ l).take s /\ X2 t = s
  | [], s, K, r, hk, h => by
    unfold YF at h
    cases hb : Nat.beq s 0 with
    | true => rw [hb] at h; have := Nat.eq_of_beq_eq_true hb; subst this; exact ⟨[], h, trivial, by simp [Qg], rfl⟩
    | false => rw [hb] at h; cases h
  | x :: l, s, K, r, hk, h => by
    unfold YF at h
    cases hb : Nat.beq s 0 with
    | true => rw [hb] at h; have := Nat.eq_of_beq_eq_true hb; subst this; exact ⟨[], h, trivial, by simp [Qg], rfl⟩
    | false =>
      rw [hb] at h
      cases hc : Nat.ble x.wd s with
      | false =>
        rw [hc] at h
        have hlt : s < x.wd := by
          rcases Nat.lt_or_ge s x.wd with h' | h'
          . exact h'
          . rw [Nat.ble_eq_true_of_le h'] at hc; cases hc
        simp only at h
        split at h
        . rename_i K' zs n
          have hz : zs.length = n := hk.1
          simp only [SV.wd] at hlt
          refine ⟨_, h, ⟨by show (zs.take s).length = s; rw [List.length_take]; omega, trivial⟩, ?_, by simp [X2, SV.wd]⟩
          simp only [Qg, SV.cs, List.append_nil]
          rw [List.take_append_of_le_length (by rw [List.length_map]; omega), List.map_take]
        . cases h
      | true =>
        rw [hc] at h
        simp only [XV] at h
        have hle := Nat.le_of_ble_eq_true hc
        obtain ⟨t, h1, h2, h3, h4⟩ := YE ρ hk.2 h
        have hl := J4 hk.1 (x.den ρ)
        have e : Nat.sub s x.wd = s - x.wd := rfl
        rw [e] at h3 h4
        refine ⟨x :: t, h1, ⟨hk.1, h2⟩, ?_, by simp only [X2]; omega⟩
        simp only [Qg, List.take_append, hl, h3]
        rw [show List.take s (x.cs (x.den ρ)) = x.cs (x.den ρ) from List.take_of_length_le (by omega)]
def F3 {α : Type} : List SV -> List SV -> (List SV -> α) -> α
  | [], b, K => K b
  | x :: l, b, K => F3 l b fun r => K (x :: r)
theorem Ub {α : Type} : ∀ {a b : List SV} {K : List SV -> α}, F3 a b K = K (a ++ b)
  | [], b, K => rfl
  | x :: l, b, K => by unfold F3; rw [Ub]; rfl
/-- A symbol of one cell. -/
def SV.atom : SV -> Bool
  | .i _ _ => true
  | .lit _ _ => true
  | .c _ _ => true
  | .l _ => true
  | .s _ => true
  | .p _ _ => true
  | .x _ _ _ _ => true
  | .q _ _ => true
  | .y _ _ _ _ => true
  | .z _ _ _ _ => true
  | .r _ _ _ _ => true
  | .o _ _ _ => true
  | .f _ _ => true
  | _ => false
theorem V7 {x : SV} (h : x.atom = true) (ρ : Qy) : (x.den ρ).oneCell' = true /\ x.wd = 1 /\ x.cs (x.den ρ) = [x.den ρ] /\ x.ok := by
  cases x <;> simp_all [SV.atom, SV.den, SV.wd, SV.cs, SV.ok, Value.oneCell']
/-- QP cells are of one. -/
def QaW : List SV -> Bool
  | [] => true
  | .a _ _ _ :: l => QaW l
  | x :: l => match x.atom with
    | true => QaW l
    | false => false
theorem VJ (ρ : Qy) : ∀ {l : List SV}, QaW l = true -> ∀ v ∈ Qg ρ l, v.oneCell' = true
  | [], _, v, hv => by simp [Qg] at hv
  | x :: l, h, v, hv => by
    simp only [Qg, List.mem_append] at hv
    cases x
    case a K zs n =>
      rcases hv with hv | hv
      . simp only [SV.cs, List.mem_map] at hv
        obtain ⟨z, _, rfl⟩ := hv
        rfl
      . exact VJ ρ (by simpa only [QaW] using h) v hv
    all_goals
      unfold QaW at h
      split at h
      . rename_i ha
        rcases hv with hv | hv
        . rw [(V7 ha ρ).2.2.1, List.mem_singleton] at hv
          rw [hv]
          exact (V7 ha ρ).1
        . exact VJ ρ h v hv
      . cases h
def JP : List SV -> Bool
  | [] => false
  | .a _ _ _ :: _ => true
  | _ :: l => JP l
theorem Yp : ∀ {l : List SV}, JP l = false -> X3 l
  | [], _ => trivial
  | x :: l, h => by
    cases x
    case a K zs n => simp [JP] at h
    all_goals exact ⟨trivial, Yp (by simpa only [JP] using h)⟩
/-- The cells of a value that is stored. -/
def Yt (acc : List Prop) : SV -> Option (List SV × List Prop)
  | .g l => match QaW l with
    | true => match JP l with
      | true => some (l, X3 l :: acc)
      | false => some (l, acc)
    | false => none
  | .a K zs n => some ([.a K zs n], (zs.length = n) :: acc)
  | x => match x.atom with
    | true => some ([x], acc)
    | false => none
theorem XZ {ρ : Qy} {acc acc' : List Prop} {x : SV} {c : List SV} (h : Yt acc x = some (c, acc')) (hc : QP acc') : QP acc /\ X3 c /\ (x.den ρ).cells.toList = Qg ρ c /\ ∀ v ∈ Qg ρ c, v.oneCell' = true := by
  cases x
  case g l =>
    simp only [Yt] at h
    split at h
    . rename_i h1
      split at h
      . simp only [Option.some.injEq, Prod.mk.injEq] at h
        obtain ⟨rfl, rfl⟩ := h
        exact ⟨hc.2, hc.1, by simp only [SV.den, Value.cells], VJ ρ h1⟩
      . rename_i h2
        simp only [Option.some.injEq, Prod.mk.injEq] at h
        obtain ⟨rfl, rfl⟩ := h
        exact ⟨hc, Yp h2, by simp only [SV.den, Value.cells], VJ ρ h1⟩
    . cases h
  case a K zs n =>
    simp only [Yt, Option.some.injEq, Prod.mk.injEq] at h
    obtain ⟨rfl, rfl⟩ := h
    refine ⟨hc.2, ⟨hc.1, trivial⟩, by simp only [SV.den, Value.cells, Qg, SV.cs, List.append_nil], VJ ρ rfl⟩
  all_goals
    simp only [Yt] at h
    split at h
    . rename_i ha
      simp only [Option.some.injEq, Prod.mk.injEq] at h
      obtain ⟨rfl, rfl⟩ := h
      have h1 := V7 ha ρ
      refine ⟨hc, ⟨h1.2.2.2, trivial⟩, by simp only [Qg, List.append_nil]; rw [h1.2.2.1]; exact EF h1.1, fun v hv => ?_⟩
      simp only [Qg, List.append_nil] at hv
      rw [h1.2.2.1, List.mem_singleton] at hv
      rw [hv]
      exact h1.1
    . cases h
abbrev atD : SD -> Nat -> Option (List SV) := Xr
theorem Qao {m : SD} {k : Nat} {c : List SV} (h : atD m k = some c) : (k, c) ∈ m := XK h
/-- Where a pointer leads: the cells, and the place among them. -/
def Dg (m : SM) (d : SD) : SV -> Option (List SV × Nat)
  | .p k o => match Xr m k with
    | some c => some (c, o)
    | none => none
  | .q j o => match atD d j with
    | some c => some (c, o)
    | none => none
  | _ => none
def VQ (i : TI) : List SV -> SV
  | [.a K zs n] => match Nat.beq i.n 0 with
    | true => .g [.a K zs n]
    | false => .a K zs n
  | l => .g l
theorem Y3 (ρ : Qy) (i : TI) (l : List SV) : (VQ i l).den ρ = .agg (Qg ρ l).toArray := by
  unfold VQ
  split
  . split
    . simp only [SV.den]
    . simp only [SV.den, Qg, SV.cs, List.append_nil]
  . simp only [SV.den]
def Fw (x : SV) (j : Nat) : Option SV := match x with
  | .a K zs _ => some (.i K (zs.getD j 0))
  | .t _ => none
  | .g _ => none
  | x => match Nat.beq j 0 with
    | true => some x
    | false => none
theorem Fv {ρ : Qy} {x v : SV} {j : Nat} (h : Fw x j = some v) (hx : x.ok) (hj : j < x.wd) : (x.cs (x.den ρ))[j]? = some (v.den ρ) := by
  cases x
  case a K zs n =>
    simp only [Fw, Option.some.injEq] at h
    subst h
    simp only [SV.wd] at hj
    have : zs.length = n := hx
    simp only [SV.cs, SV.den, List.getElem?_map]
    rw [List.getD_eq_getElem?_getD, List.getElem?_eq_getElem (by omega)]
    rfl
  all_goals first
    | (cases h; done)
    | (simp only [Fw] at h
       split at h
       . rename_i hb
         cases h
         rw [Nat.eq_of_beq_eq_true hb]
         rfl
       . cases h)
/-- A variable place: among which cells, from where on, steps of what size, how many. -/
def Qbj (m : SM) (d : SD) : SV -> Option (List SV × Nat × Nat × Int)
  | .x k o s n => match Xr m k with
    | some c => some (c, o, s, n)
    | none => none
  | .r j o s n => match atD d j with
    | some c => some (c, o, s, n)
    | none => none
  | _ => none
/-- What a load gives. -/
def Up (T : TT) (m : SM) (d : SD) (acc : List Prop) (t : Nat) (x : SV) : Option (SV × List Prop) := match T.get t with
  | none => none
  | some i => match Qbj m d x with
    | some (c, o, s, n) => match i.g with
      | true => EL c o fun x j => match x with
        | .a K zs z => some (VQ i [.a K ((zs.drop (Nat.add j (Nat.mul (Int.toNat n) s))).take i.s) i.s], (0 <= n /\ j + n.toNat * s + i.s <= z) :: acc)
        | _ => none
      | false => match Nat.beq s 1 with
        | true => EL c o fun x j => match x with
          | .a K zs z => match Nat.beq j 0 with
            | true => some (.i K (zs.getD n.toNat 0), (0 <= n /\ n < (z : Int)) :: acc)
            | false => some (.i K (zs.getD (Nat.add j n.toNat) 0), (0 <= n /\ (j : Int) + n < (z : Int)) :: acc)
          | _ => none
        | false => none
    | none => match i.g with
      | true => match Dg m d x with
        | some (c, o) => match UI c o with
          | some r => YF r i.s fun r => some (VQ i r, acc)
          | none => none
        | none => none
      | false => match Dg m d x with
        | some (c, o) => EL c o fun x j => match Fw x j with
          | some v => some (v, acc)
          | none => none
        | none => none
/-- A pointer at a variable place, where the block's cells are told one by one: at that place. -/
def nrm (c : List SV) (x : SV) : SV := match x with
  | .x k o s n => match JP c with
    | true => .x k o s n
    | false => .p k (Nat.add o (Nat.mul (Int.toNat n) s))
  | .r k o s n => match JP c with
    | true => .r k o s n
    | false => .q k (Nat.add o (Nat.mul (Int.toNat n) s))
  | x => x
theorem GD {ρ : Qy} {c : List SV} {x : SV} : (nrm c x).den ρ = x.den ρ := by
  unfold nrm
  split
  . split
    . rfl
    . simp only [SV.den]; rfl
  . split
    . rfl
    . simp only [SV.den]; rfl
  . rfl
def GE (m : SM) (d : SD) (x : SV) : SV := match x with
  | .x k o s n => match Xr m k with
    | some c => nrm c (.x k o s n)
    | none => .x k o s n
  | .r k o s n => match atD d k with
    | some c => nrm c (.r k o s n)
    | none => .r k o s n
  | x => x
theorem QcH {ρ : Qy} {m : SM} {d : SD} {x : SV} : (GE m d x).den ρ = x.den ρ := by
  unfold GE
  split
  . split
    . exact GD
    . rfl
  . split
    . exact GD
    . rfl
  . rfl
def JI (T : TT) (m : SM) (d : SD) (acc : List Prop) (t : Nat) (x : SV) : Option (SV × List Prop) := Up T m d acc t (GE m d x)
section
variable {P : Program} {ops : Array Oper} {o : Oper} {N : Nat} {w w0 : World} {ρ : Qy} {T : TT} {acc acc' : List Prop} {L0 : List Nat} {m : SM} {d : SD} {n : Nat} {Γ : List Qv} {fl : Fl}
theorem Qaq (hW : WM ρ L0 w0 m d n Γ w) {x : SV} {c : List SV} {o' : Nat} (h : Dg m d x = some (c, o')) : ∃ X o0, x.den ρ = .pointer (some ⟨X, o0 + o', none⟩) /\ w.rangeAt X o0 (Qg ρ c) /\ X3 c := by
  unfold Dg at h
  split at h
  . rename_i k o
    split at h
    . rename_i c' hk
      simp only [Option.some.injEq, Prod.mk.injEq] at h
      obtain ⟨rfl, rfl⟩ := h
      obtain ⟨h1, h2⟩ := hW.cell hk
      exact ⟨ρ.b k, 0, by simp only [SV.den, Nat.zero_add], h1.range, h2⟩
    . cases h
  . rename_i k o
    split at h
    . rename_i c' hk
      simp only [Option.some.injEq, Prod.mk.injEq] at h
      obtain ⟨rfl, rfl⟩ := h
      obtain ⟨_, h1, h2, _⟩ := hW.dat _ (Qao hk)
      exact ⟨(ρ.d k).1, (ρ.d k).2, by simp only [SV.den], h1, h2⟩
    . cases h
  . cases h
theorem Qfy (hW : WM ρ L0 w0 m d n Γ w) {x : SV} {c : List SV} {o' s' : Nat} {n' : Int} (h : Qbj m d x = some (c, o', s', n')) : ∃ X o0, x.den ρ = .pointer (some ⟨X, o0 + (o' + n'.toNat * s'), none⟩) /\ w.rangeAt X o0 (Qg ρ c) /\ X3 c := by
  unfold Qbj at h
  split at h
  . rename_i k o s n
    split at h
    . rename_i c' hk
      simp only [Option.some.injEq, Prod.mk.injEq] at h
      obtain ⟨rfl, rfl, rfl, rfl⟩ := h
      obtain ⟨h1, h2⟩ := hW.cell hk
      exact ⟨ρ.b k, 0, by simp only [SV.den, Nat.zero_add], h1.range, h2⟩
    . cases h
  . rename_i k o s n
    split at h
    . rename_i c' hk
      simp only [Option.some.injEq, Prod.mk.injEq] at h
      obtain ⟨rfl, rfl, rfl, rfl⟩ := h
      obtain ⟨_, h1, h2, _⟩ := hW.dat _ (Qao hk)
      exact ⟨(ρ.d k).1, (ρ.d k).2, by simp only [SV.den], h1, h2⟩
    . cases h
  . cases h
theorem Qa7 (hT : T.ok P = true) (hW : WM ρ L0 w0 m d n Γ w) (hw : Qj ops o fl = some true) {t : Nat} {x : Operand} {sx v : SV} (ho : o.op = .load t x) (hx : ev fl x = some (sx.den ρ)) (h : Up T m d acc t sx = some (v, acc')) (hc : QP acc') : QP acc /\ Yl P ops o N ρ fl w v := by
  have cell : ∀ {c : List SV} {o' X o0 : Nat} {y : SV}, w.rangeAt X o0 (Qg ρ c) -> (Qg ρ c)[o']? = some (y.den ρ) -> w.cell? ⟨X, o0 + o', none⟩ = some (y.den ρ) := fun h1 h2 => h1 _ _ h2
  unfold Up at h
  split at h
  . cases h
  . rename_i i hi
    split at h
    . rename_i c o' s' n' ha
      obtain ⟨X, o0, e1, e2, e3⟩ := Qfy hW ha
      rw [e1] at hx
      split at h
      . rename_i hg
        obtain ⟨y, j, h1, h2, h3, h4⟩ := VP ρ e3 h
        split at h1
        . rename_i K zs z
          simp only [Option.some.injEq, Prod.mk.injEq] at h1
          obtain ⟨rfl, rfl⟩ := h1
          obtain ⟨⟨g1, g2⟩, g3⟩ := hc
          refine ⟨g3, ?_⟩
          have hz : zs.length = z := h3
          show DV P ops o N fl w _
          rw [Y3]
          refine FK ho (TT.agg hT hi hg) hx (cs := Qg ρ [.a K ((zs.drop (Nat.add j (Nat.mul (Int.toNat n') s'))).take i.s) i.s]) ?_ ?_ hw
          . intro q u hq
            simp only [Qg, SV.cs, List.append_nil, List.getElem?_map, List.getElem?_take, List.getElem?_drop] at hq
            split at hq
            . rename_i hlt
              have h5 := h4 (n'.toNat * s' + q) (by simp only [SV.wd]; omega)
              simp only [SV.cs, List.getElem?_map] at h5
              have e : Nat.add j (Nat.mul (Int.toNat n') s') + q = j + (n'.toNat * s' + q) := Nat.add_assoc _ _ _
              rw [e, <- h5] at hq
              have := e2 _ _ hq
              rw [show o0 + (o' + (n'.toNat * s' + q)) = o0 + (o' + n'.toNat * s') + q by omega] at this
              exact this
            . simp at hq
          . have e : Nat.add j (Nat.mul (Int.toNat n') s') = j + n'.toNat * s' := rfl
            simp only [Qg, SV.cs, List.append_nil, List.length_map, List.length_take, List.length_drop, e]
            omega
        . cases h1
      . rename_i hg
        have ht := TT.one hT hi hg
        split at h
        . rename_i hs
          obtain ⟨y, j, h1, h2, h3, h4⟩ := VP ρ e3 h
          have es := Nat.eq_of_beq_eq_true hs
          subst es
          split at h1
          . rename_i K zs z
            have hz : zs.length = z := h3
            split at h1
            . rename_i hj
              simp only [Option.some.injEq, Prod.mk.injEq] at h1
              obtain ⟨rfl, rfl⟩ := h1
              refine ⟨hc.2, ?_⟩
              obtain ⟨g1, g2⟩ := hc.1
              have ej := Nat.eq_of_beq_eq_true hj
              subst ej
              have h5 := h4 n'.toNat (by simp only [SV.wd]; omega)
              simp only [SV.cs, Nat.zero_add, List.getElem?_map] at h5
              have hz2 : n'.toNat < zs.length := by omega
              rw [show zs[n'.toNat]? = some zs[n'.toNat] from List.getElem?_eq_getElem hz2] at h5
              simp only [Nat.mul_one] at hx
              have hcell := e2 _ _ h5
              refine (GV ho ht hx hcell hw).eq ?_
              simp only [SV.den, List.getD_eq_getElem?_getD]
              rw [List.getElem?_eq_getElem (by omega)]
              rfl
            . simp only [Option.some.injEq, Prod.mk.injEq] at h1
              obtain ⟨rfl, rfl⟩ := h1
              refine ⟨hc.2, ?_⟩
              obtain ⟨g1, g2⟩ := hc.1
              have h5 := h4 n'.toNat (by simp only [SV.wd]; omega)
              simp only [SV.cs, List.getElem?_map] at h5
              have hz2 : j + n'.toNat < zs.length := by omega
              rw [show zs[j + n'.toNat]? = some zs[j + n'.toNat] from List.getElem?_eq_getElem hz2] at h5
              simp only [Nat.mul_one] at hx
              have hcell := e2 _ _ h5
              refine (GV ho ht hx hcell hw).eq ?_
              have e : Nat.add j n'.toNat = j + n'.toNat := rfl
              simp only [SV.den, List.getD_eq_getElem?_getD, e]
              rw [List.getElem?_eq_getElem (by omega)]
              rfl
          . cases h1
        . cases h
    . split at h
      . rename_i hg
        split at h
        . rename_i c o' ha
          split at h
          . rename_i r hr
            obtain ⟨X, o0, e1, e2, e3⟩ := Qaq hW ha
            obtain ⟨h1, h2, h3⟩ := YV ρ e3 hr
            obtain ⟨r', h4, h5, h6, h7⟩ := YE ρ h1 h
            simp only [Option.some.injEq, Prod.mk.injEq] at h4
            obtain ⟨rfl, rfl⟩ := h4
            refine ⟨hc, ?_⟩
            show DV P ops o N fl w ((VQ i r').den ρ)
            rw [Y3]
            rw [e1] at hx
            refine FK ho (TT.agg hT hi hg) hx (cs := Qg ρ r') ?_ (by rw [QJ ρ h5, h7]) hw
            have := Vl e2 o' i.s
            rwa [<- h2, <- h6] at this
          . cases h
        . cases h
      . rename_i hg
        have ht := TT.one hT hi hg
        split at h
        . rename_i c o' ha
          obtain ⟨X, o0, e1, e2, e3⟩ := Qaq hW ha
          obtain ⟨y, j, h1, h2, h3, h4⟩ := VP ρ e3 h
          split at h1
          . rename_i u hu
            simp only [Option.some.injEq, Prod.mk.injEq] at h1
            obtain ⟨rfl, rfl⟩ := h1
            rw [e1] at hx
            exact ⟨hc, GV ho ht hx (cell e2 (by have h5 := h4 0 h2; rw [Nat.add_zero, Nat.add_zero] at h5; rw [h5]; exact Fv hu h3 h2)) hw⟩
          . cases h1
        . cases h
theorem JH (hT : T.ok P = true) (hW : WM ρ L0 w0 m d n Γ w) (hw : Qj ops o fl = some true) {t : Nat} {x : Operand} {sx v : SV} (ho : o.op = .load t x) (hx : ev fl x = some (sx.den ρ)) (h : JI T m d acc t sx = some (v, acc')) (hc : QP acc') : QP acc /\ Yl P ops o N ρ fl w v :=
  Qa7 hT hW hw ho (hx.trans (by rw [QcH])) h hc
end
end Go.Proofs.YtbiboamaigedjaaDoor
namespace Go.Proofs.YtbiboamaigedjaaDoor
open Go.RowKit
set_option linter.unusedVariables false
set_option linter.constructorNameAsVariable false
set_option linter.unusedSimpArgs false

def QaB {α : Type} : List SV -> Nat -> (SV -> Nat -> Option (SV × List Prop)) -> (List SV -> List Prop -> Option α) -> Option α
  | [], _, _, _ => none
  | x :: l, o, g, K => match Nat.ble x.wd o with
    | true => QaB l (Nat.sub o x.wd) g fun r acc => K (x :: r) acc
    | false => match g x o with
      | some (y, acc) => K (y :: l) acc
      | none => none
theorem UV {α : Type} {g : SV -> Nat -> Option (SV × List Prop)} : ∀ {l : List SV} {o : Nat} {K : List SV -> List Prop -> Option α} {r : α}, QaB l o g K = some r -> ∃ pre x y j acc post, l = pre ++ x :: post /\ K (pre ++ y :: post) acc = some r /\ g x j = some (y, acc) /\ j < x.wd /\ o = X2 pre + j
  | [], _, _, _, h => by cases h
  | x :: l, o, K, r, h => by
    unfold QaB at h
    cases hb : Nat.ble x.wd o with
    | true =>
      rw [hb] at h
      have hle := Nat.le_of_ble_eq_true hb
      obtain ⟨pre, z, y, j, acc, post, h1, h2, h3, h4, h5⟩ := UV h
      have e : Nat.sub o x.wd = o - x.wd := rfl
      rw [e] at h5
      exact ⟨x :: pre, z, y, j, acc, post, by rw [h1]; rfl, h2, h3, h4, by simp only [X2]; omega⟩
    | false =>
      rw [hb] at h
      simp only at h
      split at h
      . rename_i y acc hg
        have hlt : o < x.wd := by
          rcases Nat.lt_or_ge o x.wd with h' | h'
          . exact h'
          . rw [Nat.ble_eq_true_of_le h'] at hb; cases hb
        exact ⟨[], x, y, o, acc, l, rfl, h, hg, hlt, by simp [X2]⟩
      . cases h
theorem UR : ∀ {a b : List SV}, X2 (a ++ b) = X2 a + X2 b
  | [], b => by simp [X2]
  | x :: l, b => by simp only [List.cons_append, X2, UR (a := l) (b := b)]; omega
/-- One cell of a symbol, written anew. -/
theorem Kw {ρ : Qy} {pre post : List SV} {x y : SV} {j : Nat} {v : Value} (h : X3 (pre ++ x :: post)) (hj : j < x.wd) (hy : y.ok) (he : y.cs (y.den ρ) = (x.cs (x.den ρ)).set j v) : X3 (pre ++ y :: post) /\ (Qg ρ (pre ++ x :: post)).take (X2 pre + j) ++ ([v] ++ (Qg ρ (pre ++ x :: post)).drop (X2 pre + j + 1)) = Qg ρ (pre ++ y :: post) := by
  obtain ⟨h1, h2, h3⟩ := Xy.1 h
  have hl := QJ ρ h1
  have hx := J4 h2 (x.den ρ)
  refine ⟨Xy.2 ⟨h1, hy, h3⟩, ?_⟩
  rw [Xv, Xv]
  simp only [Qg]
  rw [he, List.set_eq_take_append_cons_drop, if_pos (by omega)]
  rw [List.take_append, List.drop_append, hl, List.take_of_length_le (by omega), List.drop_eq_nil_of_le (by omega)]
  rw [show X2 pre + j - X2 pre = j by omega, show X2 pre + j + 1 - X2 pre = j + 1 by omega]
  rw [List.take_append, List.drop_append, hx, show j - x.wd = 0 by omega, show j + 1 - x.wd = 0 by omega]
  simp
def Gk (acc : List Prop) (v : SV) (x : SV) (j : Nat) : Option (SV × List Prop) := match x with
  | .a K zs n => match v with
    | .i K' y => match kq K' K with
      | true => some (.a K (zs.set j y) n, acc)
      | false => none
    | _ => none
  | .t _ => none
  | .g _ => none
  | _ => match Nat.beq j 0 with
    | true => match v.atom with
      | true => some (v, acc)
      | false => none
    | false => none
def Ee (acc : List Prop) (v : SV) (i : Int) (x : SV) (j : Nat) : Option (SV × List Prop) := match x with
  | .a K zs n => match v with
    | .i K' y => match kq K' K with
      | true => match Nat.beq j 0 with
        | true => some (.a K (zs.set i.toNat y) n, (0 <= i /\ i < (n : Int)) :: acc)
        | false => none
      | false => none
    | _ => none
  | _ => none
/-- A row of numbers at a variable place among others. -/
def QbI (acc : List Prop) (K : IntKind) (ys : List Int) (q s : Nat) (i : Int) (x : SV) (j : Nat) : Option (SV × List Prop) := match x with
  | .a K' zs n => match kq K' K with
    | true => some (.a K (zs.take (Nat.add j (Nat.mul (Int.toNat i) s)) ++ (ys ++ zs.drop (Nat.add (Nat.add j (Nat.mul (Int.toNat i) s)) q))) n, (0 <= i /\ j + i.toNat * s + q <= n /\ ys.length = q) :: acc)
    | false => none
  | _ => none
/-- What a store leaves of a block. -/
def Gl (T : TT) (acc : List Prop) (t : Nat) (x v : SV) (c : List SV) : Option (List SV × List Prop) := match T.get t with
  | none => none
  | some i => match i.g with
    | true => match x with
      | .p k o => match Yt acc v with
        | some (vs, acc) => match eqW vs i.s with
          | true => YF c o fun a => match UI c (Nat.add o i.s) with
            | some b => F3 vs b fun vb => F3 a vb fun c' => some (c', acc)
            | none => none
          | false => none
        | none => none
      | .x k o s z => match Yt acc v with
        | some ([.a K ys q], acc) => match Nat.beq q i.s with
          | true => QaB c o (QbI acc K ys i.s s z) fun c' acc => some (c', acc)
          | false => none
        | _ => none
      | _ => none
    | false => match x with
      | .p k o => QaB c o (Gk acc v) fun c' acc => some (c', acc)
      | .x k o s i => match Nat.beq s 1 with
        | true => QaB c o (Ee acc v i) fun c' acc => some (c', acc)
        | false => none
      | _ => none
/-- Which Xx block a pointer leads to. -/
def VT : SV -> Option Nat
  | .p k _ => some k
  | .x k _ _ _ => some k
  | _ => none
theorem GC {c : List SV} {x : SV} : VT (nrm c x) = VT x := by
  unfold nrm
  split
  . split <;> rfl
  . split <;> rfl
  . rfl
def Ei (T : TT) (acc : List Prop) (t : Nat) (x v : SV) (c : List SV) : Option (List SV × List Prop) := Gl T acc t (nrm c x) v c
/-- What a store leaves. -/
def Eg (T : TT) (m : SM) (acc : List Prop) (t : Nat) (x v : SV) : Option (SM × List Prop) := match VT x with
  | some k => match Xr m k with
    | some c => match Ei T acc t x v c with
      | some (c', acc) => QbQ k c' m fun m' => some (m', acc)
      | none => none
    | none => none
  | none => none
theorem QaK {ρ : Qy} {acc acc' : List Prop} {v x y : SV} {j : Nat} (h : Gk acc v x j = some (y, acc')) (hx : x.ok) (hj : j < x.wd) : acc' = acc /\ y.ok /\ (v.den ρ).oneCell' = true /\ y.cs (y.den ρ) = (x.cs (x.den ρ)).set j (v.den ρ) := by
  cases x
  case a K zs n =>
    simp only [Gk] at h
    split at h
    . rename_i K' z
      split at h
      . rename_i hk
        simp only [Option.some.injEq, Prod.mk.injEq] at h
        obtain ⟨rfl, rfl⟩ := h
        have e := UE hk
        subst e
        have : zs.length = n := hx
        exact ⟨rfl, by simp only [SV.ok, List.length_set]; exact this, by simp only [SV.den, Value.oneCell'], by simp only [SV.cs, SV.den, List.map_set]⟩
      . cases h
    . cases h
  all_goals first
    | (cases h; done)
    | (simp only [Gk] at h
       split at h
       . rename_i hb
         split at h
         . rename_i ha
           simp only [Option.some.injEq, Prod.mk.injEq] at h
           obtain ⟨rfl, rfl⟩ := h
           have h1 := V7 ha ρ
           rw [Nat.eq_of_beq_eq_true hb]
           exact ⟨rfl, h1.2.2.2, h1.1, by rw [h1.2.2.1]; rfl⟩
         . cases h
       . cases h)
theorem QaI {ρ : Qy} {acc acc' : List Prop} {v x y : SV} {i : Int} {j : Nat} (h : Ee acc v i x j = some (y, acc')) (hc : QP acc') (hx : x.ok) : QP acc /\ j = 0 /\ i.toNat < x.wd /\ y.ok /\ (v.den ρ).oneCell' = true /\ y.cs (y.den ρ) = (x.cs (x.den ρ)).set i.toNat (v.den ρ) := by
  unfold Ee at h
  split at h
  . rename_i K zs n
    split at h
    . rename_i K' z
      split at h
      . rename_i hk
        split at h
        . rename_i hj
          simp only [Option.some.injEq, Prod.mk.injEq] at h
          obtain ⟨rfl, rfl⟩ := h
          have e := UE hk
          subst e
          have : zs.length = n := hx
          obtain ⟨⟨g1, g2⟩, g3⟩ := hc
          exact ⟨g3, Nat.eq_of_beq_eq_true hj, by simp only [SV.wd]; omega, by simp only [SV.ok, List.length_set]; exact this, by simp only [SV.den, Value.oneCell'], by simp only [SV.cs, SV.den, List.map_set]⟩
        . cases h
      . cases h
    . cases h
  . cases h
section
variable {P : Program} {ops : Array Oper} {o : Oper} {N : Nat} {w w0 : World} {ρ : Qy} {T : TT} {acc acc' : List Prop} {L0 : List Nat} {m m' : SM} {d : SD} {n : Nat} {Γ : List Qv} {fl : Fl}
theorem Ey {A B C V : List Value} {a p q : Nat} (ha : A.length = a) (hp : p + q <= B.length) : (A ++ (B ++ C)).take (a + p) ++ (V ++ (A ++ (B ++ C)).drop (a + p + q)) = A ++ ((B.take p ++ (V ++ B.drop (p + q))) ++ C) := by
  subst ha
  rw [List.take_length_add_append, show A.length + p + q = A.length + (p + q) by omega, List.drop_length_add_append, List.take_append_of_le_length (by omega), List.drop_append_of_le_length (by omega)]
  simp only [List.append_assoc]
theorem Eh (hT : T.ok P = true) (hw : Qj ops o fl = some true) {t k : Nat} {x y : Operand} {sx v : SV} {c c' : List SV} (hk : VT sx = some k) (hb : X8 w (ρ.b k) (Qg ρ c)) (hok : X3 c) (ho : o.op = .store t x y) (hx : ev fl x = some (sx.den ρ)) (hy : ev fl y = some (v.den ρ)) (h : Gl T acc t sx v c = some (c', acc')) (hc : QP acc') : QP acc /\ X3 c' /\ DR P ops o N fl w fun _ W => X8 W (ρ.b k) (Qg ρ c') /\ Uc (ρ.b k) w W := by
  unfold Gl at h
  split at h
  . cases h
  . rename_i i hi
    have hsz := TT.size hT hi
    split at h
    . rename_i hg
      split at h
      . rename_i k' o'
        cases hk
        split at h
        . rename_i vs acc1 hv
          split at h
          . rename_i hwd
            obtain ⟨a, h1, h2, h3, h4⟩ := YE ρ hok h
            split at h1
            . rename_i b hb'
              simp only [Ub, Option.some.injEq, Prod.mk.injEq] at h1
              obtain ⟨rfl, rfl⟩ := h1
              obtain ⟨c0, c1, c2, c3⟩ := XZ (ρ := ρ) hv hc
              obtain ⟨d1, d2, d3⟩ := YV ρ hok hb'
              have hws := GQ hwd
              have e : Nat.add o' i.s = o' + i.s := rfl
              rw [e] at d2 d3
              simp only [SV.den] at hx
              exact ⟨c0, Xy.2 ⟨h2, Xy.2 ⟨c1, d1⟩⟩, VY (cs' := Qg ρ (a ++ (vs ++ b))) ho hsz hx hy c2 c3 hb (by rw [QJ ρ c1, hws]) (by rw [QJ ρ hok]; omega) (by rw [Xv, Xv, h3, d2]) hw⟩
            . cases h1
          . cases h
        . cases h
      . rename_i k' o' s ii
        cases hk
        split at h
        . rename_i K ys qq acc1 hv
          split at h
          . rename_i hq
            have hq := Nat.eq_of_beq_eq_true hq
            obtain ⟨pre, z, y', j, acc2, post, e1, h1, h2, h3, h4⟩ := UV h
            simp only [Option.some.injEq, Prod.mk.injEq] at h1
            obtain ⟨rfl, rfl⟩ := h1
            subst e1
            unfold QbI at h2
            split at h2
            . rename_i K' zs n'
              split at h2
              . rename_i hkk
                simp only [Option.some.injEq, Prod.mk.injEq] at h2
                obtain ⟨rfl, rfl⟩ := h2
                obtain ⟨⟨g1, g2, g3⟩, g4⟩ := hc
                obtain ⟨c0, c1, c2, c3⟩ := XZ (ρ := ρ) hv g4
                have ek := UE hkk
                subst ek
                obtain ⟨p1, p2, p3⟩ := Xy.1 hok
                have hz : zs.length = n' := p2
                have hlp := QJ ρ p1
                have ep : Nat.add j (Nat.mul ii.toNat s) = j + ii.toNat * s := rfl
                have eq2 : Nat.add (j + ii.toNat * s) i.s = j + ii.toNat * s + i.s := rfl
                simp only [SV.den] at hx
                refine ⟨c0, Xy.2 ⟨p1, ?_, p3⟩, VY (cs' := Qg ρ (pre ++ SV.a K' (zs.take (j + ii.toNat * s) ++ (ys ++ zs.drop (j + ii.toNat * s + i.s))) n' :: post)) ho hsz hx hy c2 c3 hb ?_ ?_ ?_ hw⟩
                . show (zs.take (Nat.add j (Nat.mul ii.toNat s)) ++ (ys ++ zs.drop (Nat.add (Nat.add j (Nat.mul ii.toNat s)) i.s))).length = n'
                  simp only [ep, eq2, List.length_append, List.length_take, List.length_drop]
                  omega
                . simp only [Qg, SV.cs, List.append_nil, List.length_map]; exact g3
                . rw [QJ ρ hok, UR]; simp only [X2, SV.wd]; omega
                . rw [Xv, Xv]
                  simp only [Qg, SV.cs, List.append_nil, List.map_append, List.map_take, List.map_drop]
                  rw [show o' + ii.toNat * s = X2 pre + (j + ii.toNat * s) by omega, show X2 pre + (j + ii.toNat * s) + i.s = X2 pre + (j + ii.toNat * s) + i.s from rfl]
                  exact Ey hlp (by rw [List.length_map]; omega)
              . cases h2
            . cases h2
          . cases h
        . cases h
      . cases h
    . rename_i hg
      have hs1 : i.s = 1 := by
        have := TT.at hT hi
        simp only [tB, Bool.and_eq_true] at this
        have := this.1.1.1.1.1.1.1.2
        rw [hg] at this
        simp only [cond_false, Bool.and_eq_true] at this
        exact Nat.eq_of_beq_eq_true this.2
      rw [hs1] at hsz
      split at h
      . rename_i k' o'
        cases hk
        obtain ⟨pre, z, y', j, acc1, post, e1, h1, h2, h3, h4⟩ := UV h
        simp only [Option.some.injEq, Prod.mk.injEq] at h1
        obtain ⟨rfl, rfl⟩ := h1
        subst e1
        obtain ⟨rfl, g1, g2, g3⟩ := QaK (ρ := ρ) h2 (Xy.1 hok).2.1 h3
        obtain ⟨q1, q2⟩ := Kw hok h3 g1 g3
        simp only [SV.den] at hx
        exact ⟨hc, q1, VY (vs := [v.den ρ]) (cs' := Qg ρ (pre ++ y' :: post)) ho hsz hx hy (EF g2) (DL g2 QcD) hb rfl (by rw [QJ ρ hok, UR]; simp only [X2]; omega) (by rw [h4]; exact q2) hw⟩
      . rename_i k' o' s ii
        cases hk
        split at h
        . rename_i hs
          obtain ⟨pre, z, y', j, acc1, post, e1, h1, h2, h3, h4⟩ := UV h
          simp only [Option.some.injEq, Prod.mk.injEq] at h1
          obtain ⟨rfl, rfl⟩ := h1
          subst e1
          obtain ⟨g0, rfl, gi, g1, g2, g3⟩ := QaI (ρ := ρ) h2 hc (Xy.1 hok).2.1
          obtain ⟨q1, q2⟩ := Kw hok gi g1 g3
          simp only [SV.den, Nat.eq_of_beq_eq_true hs, Nat.mul_one] at hx
          exact ⟨g0, q1, VY (vs := [v.den ρ]) (cs' := Qg ρ (pre ++ y' :: post)) ho hsz hx hy (EF g2) (DL g2 QcD) hb rfl (by rw [QJ ρ hok, UR]; simp only [X2]; omega) (by rw [h4, Nat.add_zero]; exact q2) hw⟩
        . cases h
      . cases h
theorem Ky (hT : T.ok P = true) (hw : Qj ops o fl = some true) {t k : Nat} {x y : Operand} {sx v : SV} {c c' : List SV} (hk : VT sx = some k) (hb : X8 w (ρ.b k) (Qg ρ c)) (hok : X3 c) (ho : o.op = .store t x y) (hx : ev fl x = some (sx.den ρ)) (hy : ev fl y = some (v.den ρ)) (h : Ei T acc t sx v c = some (c', acc')) (hc : QP acc') : QP acc /\ X3 c' /\ DR P ops o N fl w fun _ W => X8 W (ρ.b k) (Qg ρ c') /\ Uc (ρ.b k) w W :=
  Eh hT hw (GC.trans hk) hb hok ho (hx.trans (by rw [GD])) hy h hc
theorem QaJ (hT : T.ok P = true) (hW : WM ρ L0 w0 m d n Γ w) (hw : Qj ops o fl = some true) {t : Nat} {x y : Operand} {sx v : SV} (ho : o.op = .store t x y) (hx : ev fl x = some (sx.den ρ)) (hy : ev fl y = some (v.den ρ)) (h : Eg T m acc t sx v = some (m', acc')) (hc : QP acc') : QP acc /\ DR P ops o N fl w fun _ W => WM ρ L0 w0 m' d n Γ W := by
  unfold Eg at h
  split at h
  . rename_i k hk
    split at h
    . rename_i c hm
      split at h
      . rename_i c' acc1 hs
        simp only [Gp, Option.some.injEq, Prod.mk.injEq] at h
        obtain ⟨rfl, rfl⟩ := h
        obtain ⟨b1, b2⟩ := hW.cell hm
        obtain ⟨h1, h2, h3⟩ := Ky (N := N) hT hw hk b1 b2 ho hx hy hs hc
        exact ⟨h1, h3.mono fun _ W hq => hW.put hm hq.1 h2 hq.2⟩
      . cases h
    . cases h
  . cases h
end
end Go.Proofs.YtbiboamaigedjaaDoor
namespace Go.Proofs.YtbiboamaigedjaaDoor
open Go.RowKit
set_option linter.unusedVariables false
set_option linter.constructorNameAsVariable false
set_option linter.unusedSimpArgs false

theorem K3 (off : Nat) : ∀ (vs : List Value) (k : Nat) (cs : List Value), off + k + vs.length <= cs.length ->
    ((vs.zipIdx k).foldl (fun (cs : Array Value) (p : Value × Nat) => cs.setIfInBounds (off + p.2) p.1) cs.toArray) = (cs.take (off + k) ++ (vs ++ cs.drop (off + k + vs.length))).toArray
  | [], k, cs, h => by simp
  | v :: vs, k, cs, h => by
    simp only [List.length_cons] at h
    rw [List.zipIdx_cons, List.foldl_cons]
    simp only [List.setIfInBounds_toArray]
    rw [K3 off vs (k + 1) (cs.set (off + k) v) (by rw [List.length_set]; omega)]
    have hl : (cs.take (off + k)).length = off + k := by rw [List.length_take]; omega
    have e0 : cs.set (off + k) v = cs.take (off + k) ++ v :: cs.drop (off + k + 1) := by rw [List.set_eq_take_append_cons_drop, if_pos (by omega)]
    have e1 : (cs.set (off + k) v).take (off + (k + 1)) = cs.take (off + k) ++ [v] := by
      rw [e0, List.take_append, hl, List.take_of_length_le (by omega), show off + (k + 1) - (off + k) = 1 by omega]
      rfl
    have e2 : (cs.set (off + k) v).drop (off + (k + 1) + vs.length) = cs.drop (off + k + (vs.length + 1)) := by
      rw [e0, List.drop_append, hl, show List.drop (off + (k + 1) + vs.length) (cs.take (off + k)) = [] from List.drop_eq_nil_of_le (by omega), show off + (k + 1) + vs.length - (off + k) = vs.length + 1 by omega]
      rw [List.nil_append, List.drop_succ_cons, List.drop_drop]
      congr 1
      omega
    rw [e1, e2]
    simp only [List.append_assoc, List.cons_append, List.nil_append, List.length_cons]
def KQ (i : TI) (k : Nat) : Option (Nat × Nat) := match Nat.beq i.n 0 with
  | true => QcG i.o k
  | false => some (Nat.mul k i.q, i.q)
def Yv (i : TI) (f : SF) : List (Nat × Operand) -> List SV -> List Prop -> Option (List SV × List Prop)
  | [], c, acc => some (c, acc)
  | (k, x) :: l, c, acc => match KQ i k with
    | some (off, sz) => match Z6 f x with
      | some v => match Yt acc v with
        | some (vs, acc) => match eqW vs sz with
          | true => YF c off fun a => match UI c (Nat.add off sz) with
            | some b => F3 vs b fun vb => F3 a vb fun c' => Yv i f l c' acc
            | none => none
          | false => none
        | none => none
      | none => none
    | none => none
theorem Db : ∀ {i : TI} {f : SF} {l : List (Nat × Operand)} {c c' : List SV} {acc acc' : List Prop}, Yv i f l c acc = some (c', acc') -> QP acc' -> QP acc := by
  intro i f l
  induction l with
  | nil =>
    intro c c' acc acc' h hc
    simp only [Yv, Option.some.injEq, Prod.mk.injEq] at h
    obtain ⟨rfl, rfl⟩ := h
    exact hc
  | cons p l ih =>
    intro c c' acc acc' h hc
    obtain ⟨k, x⟩ := p
    unfold Yv at h
    split at h
    . split at h
      . split at h
        . rename_i vs acc1 hvs
          split at h
          . have tk : ∀ {α : Type} {l : List SV} {s : Nat} {K : List SV -> Option α} {r : α}, YF l s K = some r -> ∃ t, K t = some r := by
              intro α l
              induction l with
              | nil => intro s K r h; unfold YF at h; split at h; exact ⟨_, h⟩; cases h
              | cons y l ih => intro s K r h; unfold YF at h; split at h; exact ⟨_, h⟩; split at h; rw [XV] at h; obtain ⟨t, ht⟩ := ih h; exact ⟨_, ht⟩; (split at h; exact ⟨_, h⟩; cases h)
            obtain ⟨a, h1⟩ := tk h
            split at h1
            . simp only [Ub] at h1
              exact (XZ (ρ := Qu) hvs (ih h1 hc)).1
            . cases h1
          . cases h
        . cases h
      . cases h
    . cases h
theorem Ux {i : TI} {f : SF} {ρ : Qy} {place : Nat -> Option (Nat × Nat)} (hp : ∀ k q, KQ i k = some q -> place k = some q) : ∀ {l : List (Nat × Operand)} {c c' : List SV} {acc acc' : List Prop}, X3 c -> Yv i f l c acc = some (c', acc') -> QP acc' ->
    QP acc /\ X3 c' /\ ∃ vs, evl (Qr ρ f) (l.map (·.2)) = some vs /\ Instr.fill place (Qg ρ c).toArray ((l.map (·.1)).zip vs) = some (Qg ρ c').toArray
  | [], c, c', acc, acc', hk, h, hc => by
    simp only [Yv, Option.some.injEq, Prod.mk.injEq] at h
    obtain ⟨rfl, rfl⟩ := h
    exact ⟨hc, hk, [], rfl, rfl⟩
  | (k, x) :: l, c, c', acc, acc', hk, h, hc => by
    unfold Yv at h
    split at h
    . rename_i off sz ho
      split at h
      . rename_i v hv
        split at h
        . rename_i vs acc1 hvs
          split at h
          . rename_i hw
            obtain ⟨a, h1, h2, h3, h4⟩ := YE ρ hk h
            split at h1
            . rename_i b hb
              simp only [Ub] at h1
              obtain ⟨d1, d2, d3⟩ := YV ρ hk hb
              have hws := GQ hw
              have e : Nat.add off sz = off + sz := rfl
              have d2 : Qg ρ b = (Qg ρ c).drop (off + sz) := d2
              have d3 : off + sz + X2 b = X2 c := d3
              have key : QP acc1 -> X3 vs /\ (v.den ρ).cells.toList = Qg ρ vs /\ QP acc := fun ha => by
                obtain ⟨c0, c1, c2, c3⟩ := XZ (ρ := ρ) hvs ha
                exact ⟨c1, c2, c0⟩
              have okvs : ∀ ha : QP acc1, X3 (a ++ (vs ++ b)) := fun ha => Xy.2 ⟨h2, Xy.2 ⟨(key ha).1, d1⟩⟩
              have hacc : QP acc1 := Db h1 hc
              obtain ⟨_, g1, us, g2, g3⟩ := Ux hp (okvs hacc) h1 hc
              obtain ⟨k1, k2, k3⟩ := key hacc
              refine ⟨k3, g1, v.den ρ :: us, ?_, ?_⟩
              . simp only [List.map_cons]
                unfold evl
                rw [Qp hv, g2]
              . simp only [List.map_cons, List.zip_cons_cons]
                unfold Instr.fill
                rw [hp k _ ho]
                have hlen : (v.den ρ).cells.size = sz := by rw [<- Array.length_toList, k2, QJ ρ k1, hws]
                have hcl := QJ ρ hk
                simp only
                rw [if_neg (by simp only [hlen, ne_eq, not_true_eq_false, decide_false, Bool.false_or, decide_eq_true_eq, List.size_toArray, hcl, gt_iff_lt, false_or]; omega)]
                have hf := K3 off (Qg ρ vs) 0 (Qg ρ c) (by rw [hcl, QJ ρ k1]; omega)
                rw [<- Array.foldl_toList, Array.toList_zipIdx, k2]
                rw [hf]
                simp only [Nat.add_zero]
                rw [QJ ρ k1, hws, <- h3, <- d2, <- Xv, <- Xv]
                exact g3
            . cases h1
          . cases h
        . cases h
      . cases h
    . cases h
section
variable {P : Program} {ops : Array Oper} {o : Oper} {N : Nat} {w w0 : World} {ρ : Qy} {T : TT} {acc acc' : List Prop} {L0 : List Nat} {m m' : SM} {d : SD} {n : Nat} {Γ : List Qv} {f : SF}
def G5 (T : TT) (f : SF) (acc : List Prop) (t : Nat) (ps : Array (Nat × Operand)) : Option (SV × List Prop) := match T.get t with
  | some i => match i.g with
    | true => match i.z with
      | some z => match ps with
        | ⟨l⟩ => match Yv i f l z acc with
          | some (c, acc) => some (VQ i c, acc)
          | none => none
      | none => none
    | false => none
  | none => none
theorem K8 (hT : T.ok P = true) (hw : Qj ops o (Qr ρ f) = some true) {t : Nat} {ps : Array (Nat × Operand)} (ho : o.op = .build t ps) {v : SV} (h : G5 T f acc t ps = some (v, acc')) (hc : QP acc') : QP acc /\ Yl P ops o N ρ (Qr ρ f) w v := by
  unfold G5 at h
  split at h
  . rename_i i hi
    split at h
    case h_2 => cases h
    rename_i hg
    split at h
    . rename_i z hz
      split at h
      rename_i l
      split at h
      . rename_i c acc1 hb
        simp only [Option.some.injEq, Prod.mk.injEq] at h
        obtain ⟨rfl, rfl⟩ := h
        obtain ⟨z1, z2, Z, z3, z4⟩ := TT.zero hT hi hz
        have hpl := TT.places hT hi
        have go : ∀ place : Nat -> Option (Nat × Nat), (∀ k q, KQ i k = some q -> place k = some q) -> (∀ ps' : List (Nat × Value), Instr.fill place Z.cells ps' = some (Qg ρ c).toArray -> P.built t ps' = some (Qg ρ c).toArray) -> QP acc /\ Yl P ops o N ρ (Qr ρ f) w (VQ i c) := fun place hp hbuilt => by
          obtain ⟨h1, h2, vs, h3, h4⟩ := Ux (ρ := ρ) hp z1 hb hc
          refine ⟨h1, ?_⟩
          show DV P ops o N (Qr ρ f) w ((VQ i c).den ρ)
          rw [Y3]
          refine Qdm ho (ps := (l.map (·.1)).zip vs) (by simp only [h3, Option.map_some]) (hbuilt _ ?_) hw
          have : Z.cells = (Qg ρ z).toArray := by rw [<- z4 ρ]
          rw [this]
          exact h4
        unfold UZ at hpl
        cases hI : P.info? t with
        | none => rw [hI] at z3; cases z3
        | some it =>
          rw [hI] at z3
          have z3' : it.zero = some Z := z3
          split at hpl
          . rename_i fields hu
            split at hpl
            . rename_i pl hm
              have e := of_decide_eq_true hpl
              subst e
              have hn : Nat.beq i.n 0 = true := by
                cases hb' : Nat.beq i.n 0 with
                | true => rfl
                | false => have := TT.arr hT hi hb'; rw [hu] at this; cases this
              refine go (fun k => i.o.toArray[k]?) (fun k q hq => ?_) (fun ps' hf => ?_)
              . unfold KQ at hq; rw [hn] at hq; simpa using GB hq
              . unfold Program.built; simp only [hI, hu, z3', hm]; exact hf
            . cases hpl
          . rename_i nn e hu
            split at hpl
            . rename_i ie he
              simp only [Bool.and_eq_true] at hpl
              have hq := Nat.eq_of_beq_eq_true hpl.1
              refine go (fun k => some (k * ie.size, ie.size)) (fun k q hk => ?_) (fun ps' hf => ?_)
              . unfold KQ at hk
                split at hk
                . have : i.o = [] := by simpa using hpl.2
                  rw [this] at hk; cases hk
                . cases hk; rw [hq]; rfl
              . unfold Program.built; simp only [hI, hu, z3', he]; exact hf
            . cases hpl
          . rename_i hns hna
            obtain ⟨d, hd, hr, _⟩ := U2 (TT.agg hT hi hg)
            cases d <;> simp [TypeDesc.isRow] at hr
            . exact (hna _ _ hd).elim
            . exact (hns _ hd).elim
      . cases h
    . cases h
  . cases h
end
end Go.Proofs.YtbiboamaigedjaaDoor
namespace Go.Proofs.YtbiboamaigedjaaDoor
open Go.RowKit
set_option linter.unusedVariables false
set_option linter.constructorNameAsVariable false
set_option linter.unusedSimpArgs false

/-- A bound that is given, or is not. -/
def Qhf (v : Option Value) (d x : Nat) : Prop := (v = none /\ x = d) \/ ∃ K, v = some (.int K (x : Int))
theorem Vk {P : Program} {w : World} {b : Bool} {n c l h : Nat} {lo hi : Option Value} (h1 : Qhf lo 0 l) (h2 : Qhf hi n h) (hlh : l <= h) (hhc : h <= c) : (Instr.sliceBounds b n c lo hi none).run P w = .ok (l, h, c) w := by
  have g1 : (0 : Int) <= (l : Int) /\ (l : Int) <= (h : Int) := by omega
  have g2 : (0 : Int) <= (h : Int) /\ (h : Int) <= (c : Int) := by omega
  unfold Instr.sliceBounds
  rcases h1 with ⟨rfl, rfl⟩ | ⟨K, rfl⟩ <;> rcases h2 with ⟨rfl, rfl⟩ | ⟨K', rfl⟩ <;>
    simp only [Instr.sliceBound, asIntOf, Sem.run_bind, Sem.run_pure, Result.andThen_ok, if_pos g1, if_pos g2, Int.toNat_natCast]
def BdF (f : Fl) (x : Option Operand) (d n : Nat) : Prop := match x with
  | none => n = d
  | some y => ∃ K, ev f y = some (.int K (n : Int))
section
variable {P : Program} {ops : Array Oper} {o : Oper} {N : Nat} {f : Fl} {w : World}
theorem BdF.bd {a : Act} (ha : Fr N a f) {x : Option Operand} {d n : Nat} (h : BdF f x d n) : Qhf (x.map a.eval) d n := by
  cases x with
  | none => exact .inl ⟨rfl, h⟩
  | some y => obtain ⟨K, h⟩ := h; exact .inr ⟨K, by rw [Option.map_some, ha.ev h]⟩
theorem Qdf {t e : TypeId} {x : Operand} {lo hi : Option Operand} {n s B o0 l h : Nat} (ho : o.op = .slice t x lo hi none) (hu : P.underlying t = some (.array n e)) (hs : Zc P e s = true) (hx : ev f x = some (.pointer (some ⟨B, o0, none⟩))) (hl : BdF f lo 0 l) (hh : BdF f hi n h) (h1 : l <= h) (h2 : h <= n) (hw : Qj ops o f = some true := by rfl) : DV P ops o N f w (.slice (some ⟨B, Kl n l o0 s, none⟩) (h - l) (n - l)) := fun a ha => by
  have hx := ha.ev hx
  have hb := Vk (P := P) (w := w) (b := false) (hl.bd ha) (hh.bd ha) h1 h2
  obtain ⟨i, hi', hsz⟩ := YR hs
  refine Qi.pure (Qe ha hw) _ ?_ ⟨rfl, rfl⟩
  unfold execOp
  simp only [ho, Option.map_none, hx, Instr.sliceAt, Sem.run_bind, run_underlying hu, Result.andThen_ok, Instr.sureAddr, hb, Sem.run_pure, sizeOf, typeInfo, run_program, hi']
  simp [hsz, Va, Addr.add]
  unfold Kl
  split
  . rfl
  . split
    . rename_i h; rw [h]; rfl
    . rfl
theorem Qde {t s B o0 n c l h : Nat} {x : Operand} {lo hi : Option Operand} (ho : o.op = .slice t x lo hi none) (ht : Ul P t s = true) (hx : ev f x = some (.slice (some ⟨B, o0, none⟩) n c)) (hl : BdF f lo 0 l) (hh : BdF f hi n h) (h1 : l <= h) (h2 : h <= c) (hw : Qj ops o f = some true := by rfl) :
    DV P ops o N f w (.slice (some ⟨B, Kl c l o0 s, none⟩) (h - l) (c - l)) := fun a ha => by
  obtain ⟨e, hu, hs⟩ := KR ht
  have hx := ha.ev hx
  have hb := Vk (P := P) (w := w) (b := true) (hl.bd ha) (hh.bd ha) h1 h2
  cases hi : P.info? e with
  | none => rw [hi] at hs; cases hs
  | some q =>
    have hq : q.size = s := by simpa [hi] using hs
    refine Qi.pure (Qe ha hw) _ ?_ ⟨rfl, rfl⟩
    unfold execOp
    simp only [ho, Option.map_none, hx, Instr.sliceAt, Sem.run_bind, run_underlying hu, Result.andThen_ok, Instr.slice, hb, Sem.run_pure, sizeOf, typeInfo, run_program, hi]
    simp [hq, Va, Addr.add]
    exact QeI
theorem QgW {t : TypeId} {x : Operand} {lo hi : Option Operand} {s : ByteArray} {l h : Nat} (ho : o.op = .slice t x lo hi none) (ht : P.underlying t = some .string) (hx : ev f x = some (.string s)) (hl : BdF f lo 0 l) (hh : BdF f hi s.size h) (h1 : l <= h) (h2 : h <= s.size) (hw : Qj ops o f = some true := by rfl) : DV P ops o N f w (.string (s.extract l h)) := fun a ha => by
  have hx := ha.ev hx
  have hb := Vk (P := P) (w := w) (b := false) (hl.bd ha) (hh.bd ha) h1 h2
  refine Qi.pure (Qe ha hw) _ ?_ ⟨rfl, rfl⟩
  unfold execOp
  simp only [ho, Option.map_none, hx, Instr.sliceAt, Sem.run_bind, run_underlying ht, Result.andThen_ok, Instr.slice, Option.isSome_none]
  simp [hb, Sem.run_bind]
/-- A place in a slice. -/
theorem GW {t e n c s B o0 o1 : Nat} {x y : Operand} {K : IntKind} {i : Int} (ho : o.op = .indexAddr t x y) (hu : P.underlying t = some (.slice e)) (hs : Zc P e s = true) (hx : ev f x = some (.slice (some ⟨B, o0, none⟩) n c)) (hy : ev f y = some (.int K i)) (h0 : 0 <= i /\ i < n) (h1 : o0 + i.toNat * s = o1) (hw : Qj ops o f = some true := by rfl) : DV P ops o N f w (.pointer (some ⟨B, o1, none⟩)) := fun a ha => by
  have hx := ha.ev hx
  have hy := ha.ev hy
  exact Qi.pure (Qe ha hw) _ (by unfold execOp; simp only [ho, hx, hy, Sem.run_bind, QbT hu (Zs hs) B o0 K i h0.1 h0.2, Result.andThen_ok, h1]; rfl) ⟨rfl, rfl⟩
end
theorem Uk {P : Program} {t e s : Nat} (hu : P.underlying t = some (.slice e)) (hs : Zc P e s = true) : Ul P t s = true := by
  unfold Ul
  rw [hu]
  exact hs
/-- A number that is known, as any other. -/
def unN : Option SV -> Option SV
  | some (.lit K c) => some (.i K (c : Int))
  | r => r
theorem Qd2 {r : Option SV} {v : SV} (h : unN r = some v) (ρ : Qy) : ∃ u, r = some u /\ u.den ρ = v.den ρ := by
  unfold unN at h
  split at h
  . cases h; exact ⟨_, rfl, by simp only [SV.den]⟩
  . exact ⟨v, h, rfl⟩
theorem Jm {ρ : Qy} {f : SF} {x : Operand} {v : SV} (h : unN (Z6 f x) = some v) : ev (Qr ρ f) x = some (v.den ρ) := by
  obtain ⟨u, h1, h2⟩ := Qd2 h ρ
  rw [Qp h1, h2]
/-- A bound, by symbols. -/
def bdS (f : SF) (d : Nat) (acc : List Prop) : Option Operand -> Option (Nat × List Prop)
  | none => some (d, acc)
  | some y => match y with
    | .const (.int _ (.ofNat c)) => some (c, acc)
    | y => match Z6 f y with
      | some (.i _ n) => some (n.toNat, (0 <= n) :: acc)
      | some (.lit _ c) => some (c, acc)
      | _ => none
theorem ZQ {ρ : Qy} {f : SF} {d n : Nat} {acc acc' : List Prop} {x : Option Operand} (h : bdS f d acc x = some (n, acc')) (hc : QP acc') : QP acc /\ BdF (Qr ρ f) x d n := by
  unfold bdS at h
  split at h
  . simp only [Option.some.injEq, Prod.mk.injEq] at h
    obtain ⟨rfl, rfl⟩ := h
    exact ⟨hc, rfl⟩
  . split at h
    . simp only [Option.some.injEq, Prod.mk.injEq] at h
      obtain ⟨rfl, rfl⟩ := h
      exact ⟨hc, _, rfl⟩
    . split at h
      . rename_i K z hy
        simp only [Option.some.injEq, Prod.mk.injEq] at h
        obtain ⟨rfl, rfl⟩ := h
        have h1 := Qp (ρ := ρ) hy
        simp only [SV.den] at h1
        exact ⟨hc.2, K, by rw [Int.toNat_of_nonneg hc.1]; exact h1⟩
      . rename_i K z hy
        simp only [Option.some.injEq, Prod.mk.injEq] at h
        obtain ⟨rfl, rfl⟩ := h
        have h1 := Qp (ρ := ρ) hy
        simp only [SV.den] at h1
        exact ⟨hc, K, h1⟩
      . cases h
/-- Where a part begins. -/
def QaZ (c l o s : Nat) : Nat := match Nat.beq c l with
  | true => o
  | false => Nat.add o (Nat.mul l s)
theorem U0 (c l o s : Nat) : QaZ c l o s = Kl c l o s := by
  unfold QaZ Kl
  cases h : Nat.beq c l with
  | true => rw [if_pos (Nat.eq_of_beq_eq_true h)]
  | false => rw [if_neg (Nat.ne_of_beq_eq_false h)]; rfl
theorem Fg (c l a b s : Nat) : a + Kl c l b s = Kl c l (a + b) s := by
  unfold Kl
  split <;> omega
def Qeb (T : TT) (f : SF) (acc : List Prop) (t : Nat) (x : Operand) (lo hi : Option Operand) : Option (SV × List Prop) := match T.get t with
  | none => none
  | some i => match Z6 f x with
    | some (.p k o) => match Nat.beq i.n 0 with
      | true => none
      | false => match bdS f 0 acc lo with
        | none => none
        | some (l, acc) => match bdS f i.n acc hi with
          | none => none
          | some (h, acc) => some (.y k (QaZ i.n l o i.q) (Nat.sub h l) (Nat.sub i.n l), (l <= h /\ h <= i.n) :: acc)
    | some (.q k o) => match Nat.beq i.n 0 with
      | true => none
      | false => match bdS f 0 acc lo with
        | none => none
        | some (l, acc) => match bdS f i.n acc hi with
          | none => none
          | some (h, acc) => some (.z k (QaZ i.n l o i.q) (Nat.sub h l) (Nat.sub i.n l), (l <= h /\ h <= i.n) :: acc)
    | some (.y k o n c) => match Nat.beq i.y 2 with
      | false => none
      | true => match T.get i.e with
        | none => none
        | some j => match bdS f 0 acc lo with
          | none => none
          | some (l, acc) => match bdS f n acc hi with
            | none => none
            | some (h, acc) => some (.y k (QaZ c l o j.s) (Nat.sub h l) (Nat.sub c l), (l <= h /\ h <= c) :: acc)
    | some (.z k o n c) => match Nat.beq i.y 2 with
      | false => none
      | true => match T.get i.e with
        | none => none
        | some j => match bdS f 0 acc lo with
          | none => none
          | some (l, acc) => match bdS f n acc hi with
            | none => none
            | some (h, acc) => some (.z k (QaZ c l o j.s) (Nat.sub h l) (Nat.sub c l), (l <= h /\ h <= c) :: acc)
    | some (.s b) => match Nat.beq i.y 1 with
      | false => none
      | true => match bdS f 0 acc lo with
        | none => none
        | some (l, acc) => match bdS f b.size acc hi with
          | none => none
          | some (h, acc) => some (.s (b.extract l h), (l <= h /\ h <= b.size) :: acc)
    | _ => none
theorem TT.elem {P : Program} {T : TT} (hT : T.ok P = true) {t : Nat} {i : TI} (hi : T.get t = some i) (hn : Nat.beq i.n 0 = false) : Zc P i.e i.q = true := by
  have hu := TT.arr hT hi hn
  have hp := TT.places hT hi
  unfold UZ at hp
  rw [hu] at hp
  simp only at hp
  split at hp
  . rename_i ie he
    simp only [Bool.and_eq_true] at hp
    unfold Zc
    rw [he]
    simpa using Nat.eq_of_beq_eq_true hp.1
  . cases hp
section
variable {P : Program} {ops : Array Oper} {o : Oper} {N : Nat} {w : World} {ρ : Qy} {T : TT} {acc acc' : List Prop} {f : SF}
theorem Dp (hT : T.ok P = true) (hw : Qj ops o (Qr ρ f) = some true) {t : Nat} {x : Operand} {lo hi : Option Operand} (ho : o.op = .slice t x lo hi none) {v : SV} (h : Qeb T f acc t x lo hi = some (v, acc')) (hc : QP acc') : QP acc /\ Yl P ops o N ρ (Qr ρ f) w v := by
  unfold Qeb at h
  split at h
  . cases h
  . rename_i i hi
    split at h
    . rename_i k o' hx
      have h1 := Qp (ρ := ρ) hx
      simp only [SV.den] at h1
      split at h
      . cases h
      . rename_i hn
        split at h
        . cases h
        . rename_i l acc1 hl
          split at h
          . cases h
          . rename_i hh acc2 hhi
            simp only [Option.some.injEq, Prod.mk.injEq] at h
            obtain ⟨rfl, rfl⟩ := h
            obtain ⟨⟨g1, g2⟩, g3⟩ := hc
            obtain ⟨g4, b2⟩ := ZQ (ρ := ρ) hhi g3
            obtain ⟨g5, b1⟩ := ZQ (ρ := ρ) hl g4
            exact ⟨g5, (Qdf ho (TT.arr hT hi hn) (TT.elem hT hi hn) h1 b1 b2 g1 g2 hw).eq (by simp only [SV.den, U0]; rfl)⟩
    . rename_i k o' hx
      have h1 := Qp (ρ := ρ) hx
      simp only [SV.den] at h1
      split at h
      . cases h
      . rename_i hn
        split at h
        . cases h
        . rename_i l acc1 hl
          split at h
          . cases h
          . rename_i hh acc2 hhi
            simp only [Option.some.injEq, Prod.mk.injEq] at h
            obtain ⟨rfl, rfl⟩ := h
            obtain ⟨⟨g1, g2⟩, g3⟩ := hc
            obtain ⟨g4, b2⟩ := ZQ (ρ := ρ) hhi g3
            obtain ⟨g5, b1⟩ := ZQ (ρ := ρ) hl g4
            exact ⟨g5, (Qdf ho (TT.arr hT hi hn) (TT.elem hT hi hn) h1 b1 b2 g1 g2 hw).eq (by simp only [SV.den, U0, Fg]; rfl)⟩
    . rename_i k o' n c hx
      have h1 := Qp (ρ := ρ) hx
      simp only [SV.den] at h1
      split at h
      . cases h
      . rename_i hy
        split at h
        . cases h
        . rename_i j hj
          split at h
          . cases h
          . rename_i l acc1 hl
            split at h
            . cases h
            . rename_i hh acc2 hhi
              simp only [Option.some.injEq, Prod.mk.injEq] at h
              obtain ⟨rfl, rfl⟩ := h
              obtain ⟨⟨g1, g2⟩, g3⟩ := hc
              obtain ⟨g4, b2⟩ := ZQ (ρ := ρ) hhi g3
              obtain ⟨g5, b1⟩ := ZQ (ρ := ρ) hl g4
              exact ⟨g5, (Qde ho (Uk (TT.slc hT hi hy) (TT.size hT hj)) h1 b1 b2 g1 g2 hw).eq (by simp only [SV.den, U0]; rfl)⟩
    . rename_i k o' n c hx
      have h1 := Qp (ρ := ρ) hx
      simp only [SV.den] at h1
      split at h
      . cases h
      . rename_i hy
        split at h
        . cases h
        . rename_i j hj
          split at h
          . cases h
          . rename_i l acc1 hl
            split at h
            . cases h
            . rename_i hh acc2 hhi
              simp only [Option.some.injEq, Prod.mk.injEq] at h
              obtain ⟨rfl, rfl⟩ := h
              obtain ⟨⟨g1, g2⟩, g3⟩ := hc
              obtain ⟨g4, b2⟩ := ZQ (ρ := ρ) hhi g3
              obtain ⟨g5, b1⟩ := ZQ (ρ := ρ) hl g4
              exact ⟨g5, (Qde ho (Uk (TT.slc hT hi hy) (TT.size hT hj)) h1 b1 b2 g1 g2 hw).eq (by simp only [SV.den, U0, Fg]; rfl)⟩
    . rename_i b hx
      have h1 := Qp (ρ := ρ) hx
      simp only [SV.den] at h1
      split at h
      . cases h
      . rename_i hy
        split at h
        . cases h
        . rename_i l acc1 hl
          split at h
          . cases h
          . rename_i hh acc2 hhi
            simp only [Option.some.injEq, Prod.mk.injEq] at h
            obtain ⟨rfl, rfl⟩ := h
            obtain ⟨⟨g1, g2⟩, g3⟩ := hc
            obtain ⟨g4, b2⟩ := ZQ (ρ := ρ) hhi g3
            obtain ⟨g5, b1⟩ := ZQ (ρ := ρ) hl g4
            exact ⟨g5, (QgW ho (TT.str hT hi hy) h1 b1 b2 g1 g2 hw).eq (by simp only [SV.den])⟩
    . cases h
/-- An array of a slice's cells. -/
def Qee (T : TT) (f : SF) (acc : List Prop) (t : Nat) (x : Operand) : Option (SV × List Prop) := match T.get t with
  | none => none
  | some i => match Nat.beq i.n 0 with
    | true => none
    | false => match Z6 f x with
      | some (.y k o l _) => some (.p k o, (i.n <= l) :: acc)
      | some (.z k o l _) => some (.q k o, (i.n <= l) :: acc)
      | _ => none
theorem Qdg {t e n B o0 l c : Nat} {x : Operand} {f : Fl} (ho : o.op = .sliceToArrayPointer t x) (hu : P.underlying t = some (.array n e)) (hx : ev f x = some (.slice (some ⟨B, o0, none⟩) l c)) (h : n <= l) (hw : Qj ops o f = some true := by rfl) : DV P ops o N f w (.pointer (some ⟨B, o0, none⟩)) := fun a ha => by
  have hx := ha.ev hx
  refine Qi.pure (Qe ha hw) _ ?_ ⟨rfl, rfl⟩
  unfold execOp
  simp only [ho, hx, Instr.arrayAt, Sem.run_bind, run_underlying hu, Result.andThen_ok, if_neg (show ¬ l < n by omega), Sem.run_pure]
theorem Dt (hT : T.ok P = true) (hw : Qj ops o (Qr ρ f) = some true) {t : Nat} {x : Operand} (ho : o.op = .sliceToArrayPointer t x) {v : SV} (h : Qee T f acc t x = some (v, acc')) (hc : QP acc') : QP acc /\ Yl P ops o N ρ (Qr ρ f) w v := by
  unfold Qee at h
  split at h
  . cases h
  . rename_i i hi
    split at h
    . cases h
    . rename_i hn
      split at h
      . rename_i k o' l c hx
        have h1 := Qp (ρ := ρ) hx
        simp only [SV.den] at h1
        simp only [Option.some.injEq, Prod.mk.injEq] at h
        obtain ⟨rfl, rfl⟩ := h
        exact ⟨hc.2, (Qdg ho (TT.arr hT hi hn) h1 hc.1 hw).eq (by simp only [SV.den])⟩
      . rename_i k o' l c hx
        have h1 := Qp (ρ := ρ) hx
        simp only [SV.den] at h1
        simp only [Option.some.injEq, Prod.mk.injEq] at h
        obtain ⟨rfl, rfl⟩ := h
        exact ⟨hc.2, (Qdg ho (TT.arr hT hi hn) h1 hc.1 hw).eq (by simp only [SV.den])⟩
      . cases h
/-- A slice that is written out. -/
theorem Qg9 {t len : Nat} {parts : Array (Nat × Operand)} {e : TypeId} {i : TypeInfo} {Z : Value} {ps : List (Nat × Value)} {cs : List Value} {f : Fl} (ho : o.op = .buildSlice t len parts) (hu : P.underlying t = some (.slice e)) (hi : P.info? e = some i) (hz : i.zero = some Z)
    (hp : (evl f (parts.toList.map (·.2))).map (fun vs => (parts.toList.map (·.1)).zip vs) = some ps) (hlen : len * i.size <= 16777216)
    (hf : Instr.fill (fun k => some (k * i.size, i.size)) (if len * i.size = 0 then #[] else (Array.range (len * i.size)).map (Z.cells[· % Z.cells.size]!)) ps = some cs.toArray) (hw : Qj ops o f = some true := by rfl) : DR P ops o N f w (fun u W => u = .slice (some ⟨w.heap.size, 0, none⟩) len len /\ X8 W w.heap.size cs /\ Below w.heap.size w W /\ w.heap.size < W.heap.size) := fun a ha => by
  have key : (parts.map fun (i, x) => (i, a.eval x)).toList = ps := by
    cases hq : evl f (parts.toList.map (·.2)) with
    | none => rw [hq] at hp; cases hp
    | some vs =>
      rw [hq] at hp
      have h1 := ha.evl hq
      simp only [Option.map_some, Option.some.injEq] at hp
      rw [<- hp, <- h1, Array.toList_map]
      clear hp h1 hq ho
      induction parts.toList with
      | nil => rfl
      | cons p l ih => simp only [List.map_cons, List.zip_cons_cons, List.cons.injEq, true_and]; exact ih
  have hrun := Jq (w := w) hu hi hz len (parts.map fun (i, x) => (i, a.eval x)) hlen (cs := cs.toArray) (by rw [key]; exact hf)
  exact Qi.of_wp (Qe ha hw) fun K hK => by
    unfold Oper.wp execOp
    simp only [ho, Sem.run_bind, hrun, Sem.run_pure, Result.andThen_ok]
    obtain ⟨n1, n2, n3⟩ := Fj w e cs
    exact hK _ _ ⟨rfl, n1, n2, n3⟩
def Qer {α : Type} (l : List SV) : Nat -> (List SV -> α) -> α
  | 0, K => K []
  | n + 1, K => Qer l n fun r => F3 l r K
theorem Dy {α : Type} {l : List SV} : ∀ {n : Nat} {K : List SV -> α}, Qer l n K = K (List.replicate n l).flatten
  | 0, K => rfl
  | n + 1, K => by unfold Qer; rw [Dy, Ub]; rfl
theorem GA {l : List SV} (h : X3 l) : ∀ n : Nat, X3 (List.replicate n l).flatten
  | 0 => trivial
  | n + 1 => Xy.2 ⟨h, GA h n⟩
theorem J0 (ρ : Qy) (l : List SV) : ∀ n : Nat, Qg ρ (List.replicate n l).flatten = (List.replicate n (Qg ρ l)).flatten
  | 0 => by simp only [List.replicate, List.flatten_nil, Qg]
  | n + 1 => by
    rw [List.replicate_succ, List.replicate_succ, List.flatten_cons, List.flatten_cons, Xv, J0 ρ l n]
def QeT (T : TT) (f : SF) (acc : List Prop) (t len : Nat) (ps : List (Nat × Operand)) : Option (List SV × List Prop) := match T.get t with
  | none => none
  | some i => match Nat.beq i.y 2 with
    | false => none
    | true => match T.get i.e with
      | none => none
      | some j => match j.z with
        | none => none
        | some z => match Nat.ble (Nat.mul len j.s) 16777216 with
          | false => none
          | true => match Nat.ble 1 len with
            | false => none
            | true => match Nat.ble 1 j.s with
              | false => none
              | true => match eqW z j.s with
                | false => none
                | true => Qer z len fun c => Yv { s := 0, g := true, n := len, q := j.s } f ps c acc
theorem DQ (hT : T.ok P = true) (hw : Qj ops o (Qr ρ f) = some true) {t len : Nat} {ps : List (Nat × Operand)} (ho : o.op = .buildSlice t len ⟨ps⟩) {c : List SV} (h : QeT T f acc t len ps = some (c, acc')) (hc : QP acc') : QP acc /\ X3 c /\ DR P ops o N (Qr ρ f) w (fun u W => u = .slice (some ⟨w.heap.size, 0, none⟩) len len /\ X8 W w.heap.size (Qg ρ c) /\ Below w.heap.size w W /\ w.heap.size < W.heap.size) := by
  unfold QeT at h
  split at h
  . cases h
  . rename_i i hi
    split at h
    . cases h
    . rename_i hy
      split at h
      . cases h
      . rename_i j hj
        split at h
        . cases h
        . rename_i z hz
          split at h
          . cases h
          . rename_i hb
            have hb := Nat.le_of_ble_eq_true hb
            split at h
            . cases h
            . rename_i hl
              have hl := Nat.le_of_ble_eq_true hl
              split at h
              . cases h
              . rename_i hs
                have hs := Nat.le_of_ble_eq_true hs
                split at h
                . cases h
                rename_i hzw
                have hzw := GQ hzw
                rw [Dy] at h
                obtain ⟨z1, z2, Z, z3, z4⟩ := TT.zero hT hj hz
                obtain ⟨ti, hti, hsz⟩ := YR (TT.size hT hj)
                rw [hti] at z3
                simp only [Option.bind_some] at z3
                have hn0 : Nat.beq len 0 = false := by
                  cases hq : Nat.beq len 0 with
                  | false => rfl
                  | true => have := Nat.eq_of_beq_eq_true hq; omega
                obtain ⟨g1, g2, vs, g3, g4⟩ := Ux (ρ := ρ) (place := fun k => some (k * j.s, j.s)) (fun k q hq => by
                  simp only [KQ, hn0, Option.some.injEq] at hq
                  rw [<- hq]; rfl) (GA z1 len) h hc
                refine ⟨g1, g2, Qg9 (ps := (ps.map (·.1)).zip vs) ho (TT.slc hT hi hy) hti z3 (by show Option.map _ (evl (Qr ρ f) (ps.map (·.2))) = _; rw [g3]; rfl) (by rw [hsz]; exact hb) ?_ hw⟩
                have hm : len * j.s <= 16777216 := hb
                have hpos : 0 < len * j.s := Nat.mul_pos hl hs
                have hzl : Z.cells.size = j.s := by
                  have e1 : Z.cells.toList.length = X2 z := by rw [z4 ρ, QJ ρ z1]
                  rw [Array.length_toList] at e1
                  rw [e1, hzw]
                rw [hsz, if_neg (by omega)]
                have hmr := KU (Z := Z) (r := Qg ρ z) (z4 ρ) hzl hs len
                unfold madeCells at hmr
                rw [hmr, <- J0]
                exact g4
theorem Qdl {x y : Operand} {t t' : TypeId} {B X o1 o2 n c m c' : Nat} {cs ys : List Value} {f : Fl} (ho : o.op = .call { callee := .builtin .copy, args := #[x, y], argTypes := #[t, t'] }) (ht : Ul P t 1 = true) (hx : ev f x = some (.slice (some ⟨B, o1, none⟩) n c)) (hy : ev f y = some (.slice (some ⟨X, o2, none⟩) m c')) (hb : X8 w B cs) (hr : w.rangeAt X o2 ys) (hm : ys.length = Nat.min m n) (hn : o1 + Nat.min m n <= cs.length) (h1 : ∀ v ∈ ys, v.oneCell' = true) (hw : Qj ops o f = some true := by rfl) :
    DR P ops o N f w fun v W => v = .int .i64 ((Nat.min m n : Nat) : Int) /\ X8 W B (cs.take o1 ++ (ys ++ cs.drop (o1 + Nat.min m n))) /\ Uc B w W := fun a ha => by
  have hx := ha.ev hx
  have hy := ha.ev hy
  obtain ⟨e, hu, hs⟩ := KR ht
  obtain ⟨tt, hb'⟩ := hb
  cases hi : P.info? e with
  | none => rw [hi] at hs; cases hs
  | some q =>
    have hq : q.size = 1 := by simpa [hi] using hs
    generalize hk : Nat.min m n = k at *
    have hf := run_firstCells_some (P := P) w q.size k ⟨X, o2, none⟩ m c' ys (by rw [hq]; omega) (fun j u hj => by rw [Va]; exact hr j u hj)
    have hst := run_storeCells_at P B o1 tt ys 0 _ w hb' (by simp; omega) h1
    simp only [Nat.add_zero] at hst
    rw [hm] at hst
    exact Qi.of_wp (Qe ha hw) fun K hK => by
      unfold Oper.wp execOp
      simp only [ho, resolve, invoke, builtin, Sem.run_bind, Sem.run_pure, Result.andThen_ok, List.map_toArray, List.map_cons, List.map_nil, hx, hy, Builtin.copy_, run_underlying hu, List.getElem?_toArray, List.getElem?_cons_zero, List.getElem?_cons_succ, Builtin.lenOf, hk, sizeOf, typeInfo, run_program, hi, hf, hst]
      have hfin : X8 (w.setRow B (cs.toArray.toList.take o1 ++ ys ++ cs.toArray.toList.drop (o1 + k)).toArray) B (cs.take o1 ++ (ys ++ cs.drop (o1 + k))) := ⟨tt, by rw [setRow_heap w B _ _ tt (0, 0) hb']; simp⟩
      exact hK _ _ ⟨rfl, hfin, UC w B _⟩
/-- A copy among arrays of numbers: to which block, what it holds then, how many, which block is read. -/
def GZ (T : TT) (f : SF) (m : SM) (acc : List Prop) (t : Nat) (x y : Operand) : Option (Nat × Cl × Nat × Nat × List Prop) := match T.get t with
  | none => none
  | some i => match Nat.beq i.y 2 with
    | false => none
    | true => match T.get i.e with
      | none => none
      | some j => match Nat.beq j.s 1 with
        | false => none
        | true => match Z6 f x with
          | some (.y k o1 l _) => match Z6 f y with
            | some (.y k' o2 l' _) => match Xr m k with
              | some [.a K zs n] => match Xr m k' with
                | some [.a K' ys n'] => some (k, [.a K (zs.take o1 ++ ((ys.drop o2).take (Nat.min l' l) ++ zs.drop (Nat.add o1 (Nat.min l' l)))) n], Nat.min l' l, k', (K' = K /\ o1 + Nat.min l' l <= n /\ o2 + Nat.min l' l <= n') :: acc)
                | _ => none
              | _ => none
            | _ => none
          | _ => none
theorem Qad {L0 : List Nat} {w0 : World} {m : SM} {d : SD} {n0 : Nat} {Γ : List Qv} (hT : T.ok P = true) (hW : WM ρ L0 w0 m d n0 Γ w) (hw : Qj ops o (Qr ρ f) = some true) {t t' : Nat} {x y : Operand} (ho : o.op = .call { callee := .builtin .copy, args := #[x, y], argTypes := #[t, t'] }) {k q r : Nat} {c' : Cl} (h : GZ T f m acc t x y = some (k, c', q, r, acc')) (hc : QP acc') : QP acc /\ X3 c' /\ (∃ c0, Xr m k = some c0) /\ DR P ops o N (Qr ρ f) w (fun u W => u = .int .i64 (q : Int) /\ X8 W (ρ.b k) (Qg ρ c') /\ Uc (ρ.b k) w W) := by
  unfold GZ at h
  split at h
  . cases h
  . rename_i i hi
    split at h
    . cases h
    . rename_i hy
      split at h
      . cases h
      . rename_i j hj
        split at h
        . cases h
        . rename_i hs
          have hs := Nat.eq_of_beq_eq_true hs
          split at h
          . rename_i k1 o1 l c1 hx
            split at h
            . rename_i k2 o2 l' c2 hyy
              split at h
              . rename_i K zs n hk1
                split at h
                . rename_i K' ys n' hk2
                  simp only [Option.some.injEq, Prod.mk.injEq] at h
                  obtain ⟨rfl, rfl, rfl, rfl, rfl⟩ := h
                  obtain ⟨⟨rfl, g1, g2⟩, g3⟩ := hc
                  have h1 := Qp (ρ := ρ) hx
                  have h2 := Qp (ρ := ρ) hyy
                  simp only [SV.den] at h1 h2
                  obtain ⟨b1, b2⟩ := hW.cell hk1
                  obtain ⟨b3, b4⟩ := hW.cell hk2
                  have z1 : zs.length = n := b2.1
                  have z2 : ys.length = n' := b4.1
                  simp only [Qg, SV.cs, List.append_nil] at b1 b3
                  have hsl := Uk (TT.slc hT hi hy) (TT.size hT hj)
                  rw [hs] at hsl
                  refine ⟨g3, ⟨?_, trivial⟩, ⟨_, hk1⟩, (Qdl (ys := (((ys.drop o2).take (Nat.min l' l)).map (Value.int K'))) ho hsl h1 h2 b1 ?_ ?_ ?_ ?_ hw).mono fun u W ⟨e1, e2, e3⟩ => ⟨e1, ?_, e3⟩⟩
                  . show (zs.take o1 ++ ((ys.drop o2).take (Nat.min l' l) ++ zs.drop (Nat.add o1 (Nat.min l' l)))).length = n
                    have e : Nat.add o1 (Nat.min l' l) = o1 + Nat.min l' l := rfl
                    simp only [e, List.length_append, List.length_take, List.length_drop]
                    omega
                  . have := Vl b3.range o2 (Nat.min l' l)
                    rw [Nat.zero_add] at this
                    rw [List.map_take, List.map_drop]
                    exact this
                  . rw [List.length_map, List.length_take, List.length_drop]; omega
                  . rw [List.length_map]; omega
                  . intro v hv
                    obtain ⟨z, _, rfl⟩ := List.mem_map.1 hv
                    rfl
                  . simp only [Qg, SV.cs, List.append_nil, List.map_append]
                    rw [List.map_take (l := zs), List.map_drop (l := zs)]
                    exact e2
                . cases h
              . cases h
            . cases h
          . cases h
end
end Go.Proofs.YtbiboamaigedjaaDoor
namespace Go.Proofs.YtbiboamaigedjaaDoor
open Go.RowKit
set_option linter.unusedVariables false
set_option linter.constructorNameAsVariable false
set_option linter.unusedSimpArgs false

/-- A constant index. -/
def cix : Operand -> Option Nat
  | .const (.int _ (.ofNat c)) => some c
  | _ => none
def E5 (f : SF) (y : Operand) : Option Nat := match cix y with
  | some c => some c
  | none => match Z6 f y with
    | some (.lit _ c) => some c
    | _ => none
theorem V1 {ρ : Qy} {f : SF} {y : Operand} {c : Nat} (h : E5 f y = some c) : ∃ K, ev (Qr ρ f) y = some (.int K (c : Int)) := by
  unfold E5 at h
  split at h
  . rename_i c' hc
    cases h
    unfold cix at hc
    split at hc
    . cases hc; exact ⟨_, rfl⟩
    . cases hc
  . split at h
    . rename_i K c' hy
      cases h
      have := Qp (ρ := ρ) hy
      simp only [SV.den] at this
      exact ⟨K, this⟩
    . cases h
def QeY (T : TT) (f : SF) (acc : List Prop) (t : Nat) (x y : Operand) : Option (SV × List Prop) := match T.get t with
  | some i => match Nat.beq i.n 0 with
    | true => match Nat.beq i.y 2 with
      | false => none
      | true => match T.get i.e with
        | none => none
        | some j => match Z6 f x with
          | some (.y k o l _) => match E5 f y with
            | some c => some (.p k (Nat.add o (Nat.mul c j.s)), (c < l) :: acc)
            | none => match Z6 f y with
              | some (.i _ n) => some (.x k o j.s n, (0 <= n /\ n < (l : Int)) :: acc)
              | _ => none
          | some (.z k o l _) => match E5 f y with
            | some c => some (.q k (Nat.add o (Nat.mul c j.s)), (c < l) :: acc)
            | none => match Z6 f y with
              | some (.i _ n) => some (.r k o j.s n, (0 <= n /\ n < (l : Int)) :: acc)
              | _ => none
          | _ => none
    | false => match Z6 f x with
      | some (.p k o) => match E5 f y with
        | some c => match Nat.blt c i.n with
          | true => some (.p k (Nat.add o (Nat.mul c i.q)), acc)
          | false => none
        | none => match Z6 f y with
          | some (.i _ n) => some (.x k o i.q n, (0 <= n /\ n < (i.n : Int)) :: acc)
          | _ => none
      | some (.q k o) => match E5 f y with
        | some c => match Nat.blt c i.n with
          | true => some (.q k (Nat.add o (Nat.mul c i.q)), acc)
          | false => none
        | none => match Z6 f y with
          | some (.i _ n) => some (.r k o i.q n, (0 <= n /\ n < (i.n : Int)) :: acc)
          | _ => none
      | _ => none
  | none => none
def ixO (T : TT) (f : SF) (acc : List Prop) (t : Nat) (x y : Operand) : Option (SV × List Prop) := match T.get t with
  | some i => match unN (Z6 f y) with
    | some (.i _ n) => match Z6 f x with
      | some (.s b) => match Nat.beq i.y 1 with
        | true => some (.i .u8 (atS b n.toNat), (0 <= n /\ n < (b.size : Int)) :: acc)
        | false => none
      | some (.a K zs z) => match Nat.beq i.n 0 with
        | true => none
        | false => match T.get i.e with
          | some j => match j.g with
            | true => none
            | false => some (.i K (zs.getD n.toNat 0), (0 <= n /\ n < (i.n : Int) /\ zs.length = i.n) :: acc)
          | none => none
      | some (.g l) => match Nat.beq i.n 0 with
        | true => none
        | false => match T.get i.e with
          | some j => match j.g with
            | true => none
            | false => match E5 f y with
              | some c => match Nat.blt c i.n with
                | true => match JP l with
                  | true => none
                  | false => match nth l c with
                    | some v => some (v, acc)
                    | none => none
                | false => none
              | none => none
          | none => none
      | _ => none
    | _ => none
  | none => none
def Qe2 (f : SF) (acc : List Prop) (fn : Fn) (first caps : Array Operand) : Option (SV × List Prop) := match fn with
  | .func F => match first with
    | ⟨[]⟩ => match caps with
      | ⟨l⟩ => match GP f l with
        | some vs => some (.f F vs, acc)
        | none => none
    | _ => none
  | _ => none
def Qa2 (f : SF) (m : SM) (d : SD) (n : Nat) (c : List SV) (acc : List Prop) : Option (SV × SM × Nat × List Prop) := match wfF n f with
  | true => match Ku n m with
    | true => match Kf n d with
      | true => match ZL n c with
        | true => some (.p n 0, (n, c) :: m, Nat.succ n, acc)
        | false => none
      | false => none
    | false => none
  | false => none
def QcL (f : SF) (m : SM) (d : SD) (n : Nat) (c : List SV) (l : Nat) (acc : List Prop) : Option (SV × SM × Nat × List Prop) := match wfF n f with
  | true => match Ku n m with
    | true => match Kf n d with
      | true => match ZL n c with
        | true => some (.y n 0 l l, (n, c) :: m, Nat.succ n, acc)
        | false => none
      | false => none
    | false => none
  | false => none
/-- One operation: what it yields, and what the Xx blocks hold behind it. -/
def QgD (T : TT) (md : Bool) (f : SF) (m : SM) (d : SD) (n : Nat) (acc : List Prop) : Op -> Option (SV × SM × Nat × List Prop)
  | .load t x => match Z6 f x with
    | some sx => match JI T m d acc t sx with
      | some (v, acc) => some (v, m, n, acc)
      | none => none
    | none => none
  | .store t x y => match Z6 f x with
    | some sx => match Z6 f y with
      | some sy => match Eg T m acc t sx sy with
        | some (m, acc) => some (.u, m, n, acc)
        | none => none
      | none => none
    | none => none
  | .box t x => match Z6 f x with
    | some sx => match Yt acc sx with
      | some (c, acc) => Qa2 f m d n c acc
      | none => none
    | none => none
  | .alloc t => match T.get t with
    | some i => match i.z with
      | some c => Qa2 f m d n c acc
      | none => none
    | none => none
  | .indexAddr t x y => match QeY T f acc t x y with
    | some (v, acc) => some (v, m, n, acc)
    | none => none
  | .index t x y => match ixO T f acc t x y with
    | some (v, acc) => some (v, m, n, acc)
    | none => none
  | .makeFunc fn first caps => match Qe2 f acc fn first caps with
    | some (v, acc) => some (v, m, n, acc)
    | none => none
  | .slice t x lo hi none => match Qeb T f acc t x lo hi with
    | some (v, acc) => some (v, m, n, acc)
    | none => none
  | .sliceToArrayPointer t x => match Qee T f acc t x with
    | some (v, acc) => some (v, m, n, acc)
    | none => none
  | .buildSlice t len ⟨ps⟩ => match QeT T f acc t len ps with
    | some (c, acc) => QcL f m d n c len acc
    | none => none
  | .call { callee := .builtin .copy, args := ⟨[x, y]⟩, argTypes := ⟨[t, _]⟩ } => match GZ T f m acc t x y with
    | some (k, c, q, _, acc) => QbQ k c m fun m' => some (.i .i64 (q : Int), m', n, acc)
    | none => none
  | .build t ps => match G5 T f acc t ps with
    | some (v, acc) => some (v, m, n, acc)
    | none => none
  | .move x => match Z6 f x with
    | some v => some (v, m, n, acc)
    | none => none
  | .assign x => match Z6 f x with
    | some v => some (v, m, n, acc)
    | none => none
  | op => match HU T md (fun x => unN (Z6 f x)) acc op with
    | some (v, acc) => some (v, m, n, acc)
    | none => none
section
variable {P : Program} {ops : Array Oper} {o : Oper} {N : Nat} {w w0 : World} {ρ : Qy} {T : TT} {acc acc' : List Prop} {L0 : List Nat} {m m' : SM} {d : SD} {n n' : Nat} {Γ : List Qv} {f : SF} {md : Bool}
theorem DY (hT : T.ok P = true) (hw : Qj ops o (Qr ρ f) = some true) {t : Nat} {x y : Operand} (ho : o.op = .indexAddr t x y) {v : SV} (h : QeY T f acc t x y = some (v, acc')) (hc : QP acc') : QP acc /\ Yl P ops o N ρ (Qr ρ f) w v := by
  unfold QeY at h
  split at h
  . rename_i i hi
    split at h
    . split at h
      . cases h
      . rename_i hy2
        have hu := TT.slc hT hi hy2
        split at h
        . cases h
        . rename_i j hj
          have he := TT.size hT hj
          split at h
          . rename_i k o' l c0 hx
            have h1 := Qp (ρ := ρ) hx
            simp only [SV.den] at h1
            split at h
            . rename_i c hy
              obtain ⟨K, h2⟩ := V1 (ρ := ρ) hy
              simp only [Option.some.injEq, Prod.mk.injEq] at h
              obtain ⟨rfl, rfl⟩ := h
              obtain ⟨g1, g2⟩ := hc
              exact ⟨g2, (GW (o1 := Nat.add o' (Nat.mul c j.s)) ho hu he h1 h2 (by omega) (by rw [Int.toNat_natCast]; rfl) hw).eq (by simp only [SV.den])⟩
            . split at h
              . rename_i K nn hy
                have h2 := Qp (ρ := ρ) hy
                simp only [SV.den] at h2
                simp only [Option.some.injEq, Prod.mk.injEq] at h
                obtain ⟨rfl, rfl⟩ := h
                exact ⟨hc.2, (GW ho hu he h1 h2 hc.1 rfl hw).eq (by simp only [SV.den])⟩
              . cases h
          . rename_i k o' l c0 hx
            have h1 := Qp (ρ := ρ) hx
            simp only [SV.den] at h1
            split at h
            . rename_i c hy
              obtain ⟨K, h2⟩ := V1 (ρ := ρ) hy
              simp only [Option.some.injEq, Prod.mk.injEq] at h
              obtain ⟨rfl, rfl⟩ := h
              obtain ⟨g1, g2⟩ := hc
              exact ⟨g2, (GW ho hu he h1 h2 (by omega) rfl hw).eq (by simp only [SV.den, Int.toNat_natCast, Nat.add_assoc]; rfl)⟩
            . split at h
              . rename_i K nn hy
                have h2 := Qp (ρ := ρ) hy
                simp only [SV.den] at h2
                simp only [Option.some.injEq, Prod.mk.injEq] at h
                obtain ⟨rfl, rfl⟩ := h
                exact ⟨hc.2, (GW ho hu he h1 h2 hc.1 rfl hw).eq (by simp only [SV.den, Nat.add_assoc])⟩
              . cases h
          . cases h
    . rename_i hn
      have hu := TT.arr hT hi hn
      have he := TT.elem hT hi hn
      split at h
      . rename_i k o' hx
        have h1 := Qp (ρ := ρ) hx
        simp only [SV.den] at h1
        split at h
        . rename_i c hy
          obtain ⟨K, h2⟩ := V1 (ρ := ρ) hy
          split at h
          . rename_i hlt
            have hlt := QA hlt
            simp only [Option.some.injEq, Prod.mk.injEq] at h
            obtain ⟨rfl, rfl⟩ := h
            exact ⟨hc, (U7 (o1 := Nat.add o' (Nat.mul c i.q)) ho hu he h1 h2 (by omega) (by rw [Int.toNat_natCast]; rfl) hw).eq (by simp only [SV.den])⟩
          . cases h
        . split at h
          . rename_i K nn hy
            have h2 := Qp (ρ := ρ) hy
            simp only [SV.den] at h2
            simp only [Option.some.injEq, Prod.mk.injEq] at h
            obtain ⟨rfl, rfl⟩ := h
            exact ⟨hc.2, (U7 ho hu he h1 h2 hc.1 rfl hw).eq (by simp only [SV.den])⟩
          . cases h
      . rename_i k o' hx
        have h1 := Qp (ρ := ρ) hx
        simp only [SV.den] at h1
        split at h
        . rename_i c hy
          obtain ⟨K, h2⟩ := V1 (ρ := ρ) hy
          split at h
          . rename_i hlt
            have hlt := QA hlt
            simp only [Option.some.injEq, Prod.mk.injEq] at h
            obtain ⟨rfl, rfl⟩ := h
            exact ⟨hc, (U7 ho hu he h1 h2 (by omega) rfl hw).eq (by simp only [SV.den, Int.toNat_natCast, Nat.add_assoc]; rfl)⟩
          . cases h
        . split at h
          . rename_i K nn hy
            have h2 := Qp (ρ := ρ) hy
            simp only [SV.den] at h2
            simp only [Option.some.injEq, Prod.mk.injEq] at h
            obtain ⟨rfl, rfl⟩ := h
            exact ⟨hc.2, (U7 ho hu he h1 h2 hc.1 rfl hw).eq (by simp only [SV.den, Nat.add_assoc])⟩
          . cases h
      . cases h
  . cases h
theorem Qdj {fl : Fl} {t e nn : Nat} {x y : Operand} {cs : List Value} {v : Value} {K : IntKind} {i : Int} (ho : o.op = .index t x y) (hu : P.underlying t = some (.array nn e)) (he : EC P e = true) (hx : ev fl x = some (.agg cs.toArray)) (hy : ev fl y = some (.int K i)) (h0 : 0 <= i) (h1 : i < nn) (hv : cs[i.toNat]? = some v) (hw : Qj ops o fl = some true) : DV P ops o N fl w v := fun q hq => by
  have hx := hq.ev hx
  have hy := hq.ev hy
  obtain ⟨dd, hue, hd, hs⟩ := U1 he
  have hagg : (isAgg e).run P w = .ok false w := by
    unfold isAgg
    rw [Sem.run_bind, run_underlying hue w]
    cases dd <;> simp_all
  refine Qi.pure (Qe hq hw) _ ?_ ⟨rfl, rfl⟩
  cases hi : P.info? e with
  | none => rw [hi] at hs; cases hs
  | some ie =>
    have h5 : ie.size = 1 := by simpa [hi] using hs
    unfold execOp
    simp only [ho, hx, hy, Instr.index, asIntOf, Sem.run_bind, Sem.run_pure, Result.andThen_ok, run_underlying hu]
    simp [h0, h1, sizeOf, typeInfo, hi, h5, part, Sem.run_bind, hagg, hv]
theorem Fz {ρ : Qy} : ∀ {l : List SV}, JP l = false -> Qg ρ l = Qt ρ l
  | [], _ => by simp only [Qg, Qt]
  | x :: l, h => by
    cases x
    case a K zs n => simp [JP] at h
    all_goals
      have := Fz (ρ := ρ) (l := l) (by simpa only [JP] using h)
      simp only [Qg, Qt, SV.cs, this, List.singleton_append]
theorem Qc0 (hT : T.ok P = true) (hw : Qj ops o (Qr ρ f) = some true) {t : Nat} {x y : Operand} (ho : o.op = .index t x y) {v : SV} (h : ixO T f acc t x y = some (v, acc')) (hc : QP acc') : QP acc /\ Yl P ops o N ρ (Qr ρ f) w v := by
  unfold ixO at h
  split at h
  . rename_i i hi
    split at h
    . rename_i K n' hy
      have h2 := Jm (ρ := ρ) hy
      simp only [SV.den] at h2
      split at h
      . rename_i b hx
        have h1 := Qp (ρ := ρ) hx
        simp only [SV.den] at h1
        split at h
        . rename_i hs
          simp only [Option.some.injEq, Prod.mk.injEq] at h
          obtain ⟨rfl, rfl⟩ := h
          obtain ⟨⟨g1, g2⟩, g3⟩ := hc
          exact ⟨g3, (QhW n'.toNat ho (TT.str hT hi hs) h1 h2 (by omega) (by omega) hw).eq (by simp only [SV.den])⟩
        . cases h
      . rename_i K' zs z hx
        have h1 := Qp (ρ := ρ) hx
        simp only [SV.den] at h1
        split at h
        . cases h
        . rename_i hn
          split at h
          . rename_i j hj
            split at h
            . cases h
            . rename_i hg
              simp only [Option.some.injEq, Prod.mk.injEq] at h
              obtain ⟨rfl, rfl⟩ := h
              obtain ⟨⟨g1, g2, g4⟩, g3⟩ := hc
              refine ⟨g3, (Qdj ho (TT.arr hT hi hn) (TT.one hT hj hg) h1 h2 g1 g2 (v := .int K' (zs.getD n'.toNat 0)) ?_ hw).eq (by simp only [SV.den])⟩
              rw [List.getElem?_map, List.getD_eq_getElem?_getD, List.getElem?_eq_getElem (by omega)]
              rfl
          . cases h
      . rename_i l hx
        have h1 := Qp (ρ := ρ) hx
        simp only [SV.den] at h1
        split at h
        . cases h
        . rename_i hn
          split at h
          . rename_i j hj
            split at h
            . cases h
            . rename_i hg
              split at h
              . rename_i c hcx
                obtain ⟨K2, h3⟩ := V1 (ρ := ρ) hcx
                split at h
                . rename_i hlt
                  have hlt := QA hlt
                  split at h
                  . cases h
                  . rename_i hA
                    split at h
                    . rename_i u hu
                      simp only [Option.some.injEq, Prod.mk.injEq] at h
                      obtain ⟨rfl, rfl⟩ := h
                      rw [Fz hA] at h1
                      exact ⟨hc, Qdj ho (TT.arr hT hi hn) (TT.one hT hj hg) h1 h3 (by omega) (by omega) (by rw [Int.toNat_natCast]; exact FM (EG hu)) hw⟩
                    . cases h
                . cases h
              . cases h
          . cases h
      . cases h
    . cases h
  . cases h
theorem D0 (hw : Qj ops o (Qr ρ f) = some true) {fn : Fn} {first caps : Array Operand} (ho : o.op = .makeFunc fn first caps) {v : SV} (h : Qe2 f acc fn first caps = some (v, acc')) (hc : QP acc') : QP acc /\ Yl P ops o N ρ (Qr ρ f) w v := by
  unfold Qe2 at h
  split at h
  . split at h
    . split at h
      rename_i l
      split at h
      . rename_i vs hv
        simp only [Option.some.injEq, Prod.mk.injEq] at h
        obtain ⟨rfl, rfl⟩ := h
        exact ⟨hc, (Qfd ho rfl (Zw (ρ := ρ) hv) hw).eq (by simp only [SV.den])⟩
      . cases h
    . cases h
  . cases h
/-- What holds behind an operation. -/
def Dh (P : Program) (ρ : Qy) (L0 : List Nat) (w0 : World) (f : SF) (m' : SM) (d : SD) (n n' : Nat) (Γ : List Qv) (o : Oper) (v : SV) (u : Value) (W : World) : Prop := ∃ ρ', Qy.upto n ρ ρ' /\ Qr ρ' f = Qr ρ f /\ (o.dst = none \/ u = v.den ρ') /\ WM ρ' L0 w0 m' d n' Γ W
theorem Dh.of (hW : WM ρ L0 w0 m d n Γ w) {v : SV} (h : Yl P ops o N ρ (Qr ρ f) w v) : DR P ops o N (Qr ρ f) w (Dh P ρ L0 w0 f m d n n Γ o v) := h.mono fun u W e => ⟨ρ, fun _ _ => ⟨rfl, rfl⟩, rfl, .inr e.1, by rw [e.2]; exact hW⟩
theorem QcM {c : List SV} {v : SV} (h : Qa2 f m d n c acc = some (v, m', n', acc')) : acc' = acc := by
  unfold Qa2 at h
  split at h
  . split at h
    . split at h
      . split at h
        . simp only [Option.some.injEq, Prod.mk.injEq] at h
          exact h.2.2.2.symm
        . cases h
      . cases h
    . cases h
  . cases h
theorem DN (hW : WM ρ L0 w0 m d n Γ w) {c : List SV} (hk : X3 c) {v : SV} (h : Qa2 f m d n c acc = some (v, m', n', acc')) : acc' = acc /\ ∀ {u : Value} {W : World}, QfB w (Qg ρ c) u W -> Dh P ρ L0 w0 f m' d n n' Γ o v u W := by
  unfold Qa2 at h
  split at h
  . rename_i h1
    split at h
    . rename_i h2
      split at h
      . rename_i h3
        split at h
        . rename_i h4
          simp only [Option.some.injEq, Prod.mk.injEq] at h
          obtain ⟨rfl, rfl, rfl, rfl⟩ := h
          refine ⟨rfl, fun {u W} hn => ?_⟩
          obtain ⟨rfl, k1, k2, k3⟩ := hn
          exact ⟨ρ.setb n w.heap.size, Qy.setb_upto _ _ _, (XY (Qy.setb_upto _ _ _) f h1).symm, .inr (by simp only [SV.den, Qy.setb_at]), hW.new h2 h3 hk h4 (Nat.le_refl _) k2 k1⟩
        . cases h
      . cases h
    . cases h
  . cases h
theorem QcK {c : List SV} {l : Nat} {v : SV} (h : QcL f m d n c l acc = some (v, m', n', acc')) : acc' = acc := by
  unfold QcL at h
  split at h
  . split at h
    . split at h
      . split at h
        . simp only [Option.some.injEq, Prod.mk.injEq] at h
          exact h.2.2.2.symm
        . cases h
      . cases h
    . cases h
  . cases h
theorem QeK (hW : WM ρ L0 w0 m d n Γ w) {c : List SV} {l : Nat} (hk : X3 c) {v : SV} (h : QcL f m d n c l acc = some (v, m', n', acc')) {u : Value} {W : World} (hn : u = .slice (some ⟨w.heap.size, 0, none⟩) l l /\ X8 W w.heap.size (Qg ρ c) /\ Below w.heap.size w W /\ w.heap.size < W.heap.size) : Dh P ρ L0 w0 f m' d n n' Γ o v u W := by
  unfold QcL at h
  split at h
  . rename_i h1
    split at h
    . rename_i h2
      split at h
      . rename_i h3
        split at h
        . rename_i h4
          simp only [Option.some.injEq, Prod.mk.injEq] at h
          obtain ⟨rfl, rfl, rfl, rfl⟩ := h
          obtain ⟨rfl, k1, k2, k3⟩ := hn
          exact ⟨ρ.setb n w.heap.size, Qy.setb_upto _ _ _, (XY (Qy.setb_upto _ _ _) f h1).symm, .inr (by simp only [SV.den, Qy.setb_at]), hW.new h2 h3 hk h4 (Nat.le_refl _) k2 k1⟩
        . cases h
      . cases h
    . cases h
  . cases h
theorem DO (hT : T.ok P = true) (hW : WM ρ L0 w0 m d n Γ w) (hw : Qj ops o (Qr ρ f) = some true) {v : SV} (hd : (∃ t x y, o.op = .store t x y) -> o.dst = none) (h : QgD T md f m d n acc o.op = some (v, m', n', acc')) (hc : QP acc') : QP acc /\ DR P ops o N (Qr ρ f) w (Dh P ρ L0 w0 f m' d n n' Γ o v) := by
  generalize hq : o.op = q at h
  unfold QgD at h
  split at h
  . split at h
    . rename_i sx hx
      split at h
      . rename_i u acc1 hl
        simp only [Option.some.injEq, Prod.mk.injEq] at h
        obtain ⟨rfl, rfl, rfl, rfl⟩ := h
        obtain ⟨h1, h2⟩ := JH hT hW hw hq (Qp hx) hl hc
        exact ⟨h1, Dh.of hW h2⟩
      . cases h
    . cases h
  . rename_i t x y
    split at h
    . rename_i sx hx
      split at h
      . rename_i sy hy
        split at h
        . rename_i m1 acc1 hs
          simp only [Option.some.injEq, Prod.mk.injEq] at h
          obtain ⟨rfl, rfl, rfl, rfl⟩ := h
          obtain ⟨h1, h2⟩ := QaJ hT hW hw hq (Qp hx) (Qp hy) hs hc
          exact ⟨h1, h2.mono fun u W hW' => ⟨ρ, fun _ _ => ⟨rfl, rfl⟩, rfl, .inl (hd ⟨_, _, _, hq⟩), hW'⟩⟩
        . cases h
      . cases h
    . cases h
  . split at h
    . rename_i sx hx
      split at h
      . rename_i c acc1 hcv
        obtain ⟨e, hn⟩ := DN (P := P) (o := o) hW (c := c) (by
          have := QcM h
          subst this
          exact (XZ (ρ := ρ) hcv hc).2.1) h
        subst e
        obtain ⟨c0, c1, c2, c3⟩ := XZ (ρ := ρ) hcv hc
        exact ⟨c0, (Qdn hq (Qp hx) c2 hw).mono fun u W hb => hn hb⟩
      . cases h
    . cases h
  . split at h
    . rename_i i hi
      split at h
      . rename_i c hz
        obtain ⟨z1, z2, Z, z3, z4⟩ := TT.zero hT hi hz
        obtain ⟨e, hn⟩ := DN (P := P) (o := o) hW z1 h
        subst e
        exact ⟨hc, (FL hq z3 (z4 ρ) hw).mono fun u W hb => hn hb⟩
      . cases h
    . cases h
  . split at h
    . rename_i u acc1 hl
      simp only [Option.some.injEq, Prod.mk.injEq] at h
      obtain ⟨rfl, rfl, rfl, rfl⟩ := h
      obtain ⟨h1, h2⟩ := DY (N := N) (w := w) hT hw hq hl hc
      exact ⟨h1, Dh.of hW h2⟩
    . cases h
  . split at h
    . rename_i u acc1 hl
      simp only [Option.some.injEq, Prod.mk.injEq] at h
      obtain ⟨rfl, rfl, rfl, rfl⟩ := h
      obtain ⟨h1, h2⟩ := Qc0 (N := N) (w := w) hT hw hq hl hc
      exact ⟨h1, Dh.of hW h2⟩
    . cases h
  . split at h
    . rename_i u acc1 hl
      simp only [Option.some.injEq, Prod.mk.injEq] at h
      obtain ⟨rfl, rfl, rfl, rfl⟩ := h
      obtain ⟨h1, h2⟩ := D0 (P := P) (N := N) (w := w) hw hq hl hc
      exact ⟨h1, Dh.of hW h2⟩
    . cases h
  . split at h
    . rename_i u acc1 hl
      simp only [Option.some.injEq, Prod.mk.injEq] at h
      obtain ⟨rfl, rfl, rfl, rfl⟩ := h
      obtain ⟨h1, h2⟩ := Dp (P := P) (N := N) (w := w) hT hw hq hl hc
      exact ⟨h1, Dh.of hW h2⟩
    . cases h
  . split at h
    . rename_i u acc1 hl
      simp only [Option.some.injEq, Prod.mk.injEq] at h
      obtain ⟨rfl, rfl, rfl, rfl⟩ := h
      obtain ⟨h1, h2⟩ := Dt (P := P) (N := N) (w := w) hT hw hq hl hc
      exact ⟨h1, Dh.of hW h2⟩
    . cases h
  . split at h
    . rename_i c acc1 hl
      have e := QcK h
      subst e
      obtain ⟨h1, h2, h3⟩ := DQ (P := P) (N := N) (w := w) (ρ := ρ) hT hw hq hl hc
      exact ⟨h1, h3.mono fun u W hu => QeK hW h2 h hu⟩
    . cases h
  . split at h
    . rename_i k c q r acc1 hl
      rw [Gp] at h
      simp only [Option.some.injEq, Prod.mk.injEq] at h
      obtain ⟨rfl, rfl, rfl, rfl⟩ := h
      obtain ⟨h1, h2, ⟨c0, h3⟩, h4⟩ := Qad (P := P) (N := N) hT hW hw hq hl hc
      exact ⟨h1, h4.mono fun u W ⟨e1, e2, e3⟩ => ⟨ρ, fun _ _ => ⟨rfl, rfl⟩, rfl, .inr (by rw [e1]; simp only [SV.den]), hW.put h3 e2 h2 e3⟩⟩
    . cases h
  . split at h
    . rename_i u acc1 hl
      simp only [Option.some.injEq, Prod.mk.injEq] at h
      obtain ⟨rfl, rfl, rfl, rfl⟩ := h
      obtain ⟨h1, h2⟩ := K8 (N := N) (w := w) hT hw hq hl hc
      exact ⟨h1, Dh.of hW h2⟩
    . cases h
  . split at h
    . rename_i x v1 hx
      simp only [Option.some.injEq, Prod.mk.injEq] at h
      obtain ⟨rfl, rfl, rfl, rfl⟩ := h
      exact ⟨hc, Dh.of hW (GU hq (Qp hx) hw)⟩
    . cases h
  . split at h
    . rename_i x v1 hx
      simp only [Option.some.injEq, Prod.mk.injEq] at h
      obtain ⟨rfl, rfl, rfl, rfl⟩ := h
      exact ⟨hc, Dh.of hW (Ut hq (Qp hx) hw)⟩
    . cases h
  . split at h
    . rename_i u acc1 hl
      simp only [Option.some.injEq, Prod.mk.injEq] at h
      obtain ⟨rfl, rfl, rfl, rfl⟩ := h
      rw [<- hq] at hl
      obtain ⟨h1, h2⟩ := Js (N := N) (w := w) hT (fun hx => Jm hx) hw hl hc
      exact ⟨h1, Dh.of hW h2⟩
    . cases h
end
end Go.Proofs.YtbiboamaigedjaaDoor
namespace Go.Proofs.YtbiboamaigedjaaDoor
open Go.RowKit
set_option linter.unusedVariables false
set_option linter.constructorNameAsVariable false
set_option linter.unusedSimpArgs false

/-- Whether an operation runs. -/
inductive Gd where
  | on
  | off
  | un (p : Prop) (d : Decidable p)
def Vt (ops : Array Oper) (o : Oper) (f : SF) : Option Gd := match o.guard with
  | none => some .on
  | some (g, b) => match QL ops g with
    | none => none
    | some t => match lk f t with
      | some (.l true) => match b with
        | true => some .on
        | false => some .off
      | some (.l false) => match b with
        | true => some .off
        | false => some .on
      | some (.c p d) => match b with
        | true => some (.un p d)
        | false => some (.un (¬ p) (@instDecidableNot p d))
      | some (.w p d (.c q e)) => match b with
        | true => some (.un (p /\ q) (@instDecidableAnd p q d e))
        | false => some (.un (p /\ ¬ q) (@instDecidableAnd p (¬ q) d (@instDecidableNot q e)))
      | some .u => some .off
      | _ => none
/-- The operands of a guarded operation, where its guard holds. -/
def uwF (p : Prop) (f : SF) : List Operand -> SF -> List Prop -> SF × List Prop
  | [], f', cs => (f', cs)
  | .tmp t :: l, f', cs => match lk f t with
    | some (.w q _ y) => uwF p f l ((t, y) :: f') ((p -> q) :: cs)
    | _ => uwF p f l f' cs
  | _ :: l, f', cs => uwF p f l f' cs
def QgK : Op -> Bool
  | .store _ _ _ => true
  | _ => false
def QbK (T : TT) (md : Bool) (N : Nat) (ops : Array Oper) (f : SF) (m : SM) (d : SD) (n : Nat) (acc : List Prop) (o : Oper) : Option (SF × SM × Nat × List Prop) := match Vt ops o f with
  | some .on => match QgD T md f m d n acc o.op with
    | some (v, m', n', acc') => match o.dst with
      | some t => match Nat.blt t N with
        | true => match QgK o.op with
          | true => none
          | false => some ((t, v) :: f, m', n', acc')
        | false => none
      | none => some (f, m', n', acc')
    | none => none
  | some .off => match o.dst with
    | some t => match Nat.blt t N with
      | true => some ((t, .u) :: f, m, n, acc)
      | false => none
    | none => some (f, m, n, acc)
  | some (.un p dp) => match o.dst with
    | some t => match Nat.blt t N with
      | true => match uwF p f o.op.operands.toList f [] with
        | (f', cs) => match Vt ops o f' with
          | some (.un p' _) => match HU T md (Z6 f') [] o.op with
            | some (v, cs') => some ((t, .w p dp v) :: f, m, n, (p -> p') :: (p -> QP cs') :: QP cs :: acc)
            | none => none
          | _ => none
      | false => none
    | none => none
  | none => none
section
variable {P : Program} {ops : Array Oper} {o : Oper} {N : Nat} {w w0 : World} {ρ : Qy} {T : TT} {acc acc' : List Prop} {L0 : List Nat} {m m' : SM} {d : SD} {n n' : Nat} {Γ : List Qv} {f f' : SF} {md : Bool}
theorem ZP {ρ : Qy} : (Vt ops o f = some .on -> Qj ops o (Qr ρ f) = some true) /\ (Vt ops o f = some .off -> Qj ops o (Qr ρ f) = some false) /\ (∀ p dp, Vt ops o f = some (.un p dp) -> Qj ops o (Qr ρ f) = some (@decide p dp)) := by
  cases hg : o.guard with
  | none => simp [Vt, Qj, hg]
  | some gb =>
    obtain ⟨g, b⟩ := gb
    cases hd : QL ops g with
    | none => simp [Vt, hg, hd]
    | some t =>
      cases hl : lk f t with
      | none => simp [Vt, hg, hd, hl]
      | some v =>
        have h1 := XI (ρ := ρ) hl
        have key : ∀ c : Bool, v.den ρ = .bool c -> Qj ops o (Qr ρ f) = some (c == b) := fun c e => by
          rw [e] at h1
          simp [Qj, hg, hd, h1]
        have off : v.den ρ = undef -> Qj ops o (Qr ρ f) = some false := fun e => by
          rw [e] at h1
          simp [Qj, hg, hd, h1, undef]
        cases v
        case l c =>
          have := key c (by simp only [SV.den])
          rw [this]
          cases c <;> cases b <;> simp [Vt, hg, hd, hl]
        case c p dp =>
          have := key (@decide p dp) (by simp only [SV.den])
          rw [this]
          cases b
          . refine ⟨fun h => by simp [Vt, hg, hd, hl] at h, fun h => by simp [Vt, hg, hd, hl] at h, fun q dq h => ?_⟩
            simp only [Vt, hg, hd, hl, Option.some.injEq, Gd.un.injEq] at h
            obtain ⟨rfl, h⟩ := h
            cases h
            by_cases hp : p <;> simp [hp]
          . refine ⟨fun h => by simp [Vt, hg, hd, hl] at h, fun h => by simp [Vt, hg, hd, hl] at h, fun q dq h => ?_⟩
            simp only [Vt, hg, hd, hl, Option.some.injEq, Gd.un.injEq] at h
            obtain ⟨rfl, h⟩ := h
            cases h
            by_cases hp : p <;> simp [hp]
        case u =>
          rw [off (by simp only [SV.den])]
          simp [Vt, hg, hd, hl]
        case w p dp y =>
          cases y
          case c q dq =>
            have e : Qj ops o (Qr ρ f) = some (if p then (decide q == b) else false) := by
              cases dp with
              | isTrue hp => rw [if_pos hp]; exact key (@decide q dq) (by simp only [SV.den])
              | isFalse hp => rw [if_neg hp]; exact off (by simp only [SV.den])
            rw [e]
            cases b
            . refine ⟨fun h => by simp [Vt, hg, hd, hl] at h, fun h => by simp [Vt, hg, hd, hl] at h, fun r dr h => ?_⟩
              simp only [Vt, hg, hd, hl, Option.some.injEq, Gd.un.injEq] at h
              obtain ⟨rfl, h⟩ := h
              cases h
              by_cases hp : p <;> by_cases hq : q <;> simp [hp, hq]
            . refine ⟨fun h => by simp [Vt, hg, hd, hl] at h, fun h => by simp [Vt, hg, hd, hl] at h, fun r dr h => ?_⟩
              simp only [Vt, hg, hd, hl, Option.some.injEq, Gd.un.injEq] at h
              obtain ⟨rfl, h⟩ := h
              cases h
              by_cases hp : p <;> by_cases hq : q <;> simp [hp, hq]
          all_goals simp [Vt, hg, hd, hl]
        all_goals simp [Vt, hg, hd, hl]
theorem UU {p : Prop} {f : SF} : ∀ {l : List Operand} {g g' : SF} {cs cs' : List Prop}, uwF p f l g cs = (g', cs') -> QP cs' -> QP cs
  | [], g, g', cs, cs', h, hc => by
    simp only [uwF, Prod.mk.injEq] at h
    obtain ⟨rfl, rfl⟩ := h
    exact hc
  | x :: l, g, g', cs, cs', h, hc => by
    cases x
    case tmp t =>
      unfold uwF at h
      split at h
      . exact (UU h hc).2
      . exact UU h hc
    all_goals
      unfold uwF at h
      exact UU h hc
theorem Gi {p : Prop} (hp : p) {a : Act} (ha : Fr N a (Qr ρ f)) : ∀ {l : List Operand} {g g' : SF} {cs cs' : List Prop}, uwF p f l g cs = (g', cs') -> QP cs' -> Fr N a (Qr ρ g) -> QP cs /\ Fr N a (Qr ρ g')
  | [], g, g', cs, cs', h, hc, hg => by
    simp only [uwF, Prod.mk.injEq] at h
    obtain ⟨rfl, rfl⟩ := h
    exact ⟨hc, hg⟩
  | x :: l, g, g', cs, cs', h, hc, hg => by
    cases x
    case tmp t =>
      unfold uwF at h
      split at h
      . rename_i q dq y hl
        have hall : QP ((p -> q) :: cs) := UU h hc
        have hq : q := hall.1 hp
        have hg' : Fr N a (Qr ρ ((t, y) :: g)) := by
          refine ⟨hg.1, fun t' v hv => ?_⟩
          unfold Qr ZN at hv
          cases hk : Nat.beq t t' with
          | false => rw [hk] at hv; exact hg.2 t' v hv
          | true =>
            rw [hk] at hv
            cases hv
            have e := Nat.eq_of_beq_eq_true hk
            subst e
            have h1 := ha.2 t _ (XI hl)
            rw [h1]
            cases dq with
            | isTrue _ => simp only [SV.den]
            | isFalse hn => exact absurd hq hn
        exact ⟨hall.2, (Gi hp ha h hc hg').2⟩
      . exact Gi hp ha h hc hg
    all_goals
      unfold uwF at h
      exact Gi hp ha h hc hg
theorem QeV {q : Op} (h : QgK q = false) : ¬ ∃ t x y, q = .store t x y := fun ⟨t, x, y, e⟩ => by subst e; cases h
theorem QbJ (hT : T.ok P = true) (h : QbK T md N ops f m d n acc o = some (f', m', n', acc')) (hc : QP acc') (hW : WM ρ L0 w0 m d n Γ w) {Q : Exit -> Act -> World -> Prop} {rest : List Oper}
    (k : ∀ ρ' W, WM ρ' L0 w0 m' d n' Γ W -> WL P ops Q N rest (Qr ρ' f') W) : WL P ops Q N (o :: rest) (Qr ρ f) w := by
  unfold QbK at h
  split at h
  . rename_i hg
    have hw := (ZP (ρ := ρ)).1 hg
    split at h
    . rename_i v m1 n1 acc1 hm
      split at h
      . rename_i t ht
        split at h
        . rename_i hlt
          split at h
          . cases h
          . rename_i hs
            simp only [Option.some.injEq, Prod.mk.injEq] at h
            obtain ⟨rfl, rfl, rfl, rfl⟩ := h
            obtain ⟨_, h2⟩ := DO (N := N) hT hW hw (fun hst => absurd hst (QeV hs)) hm hc
            refine WL.get h2 ht (decide_eq_true (QA hlt)) fun u W hA => ?_
            obtain ⟨ρ', e1, e2, e3, e4⟩ := hA
            rcases e3 with e3 | e3
            . rw [ht] at e3; cases e3
            . subst e3
              rw [<- e2]
              exact k ρ' W e4
        . cases h
      . rename_i ht
        simp only [Option.some.injEq, Prod.mk.injEq] at h
        obtain ⟨rfl, rfl, rfl, rfl⟩ := h
        obtain ⟨_, h2⟩ := DO (N := N) hT hW hw (fun _ => ht) hm hc
        refine WL.do h2 ht fun u W hA => ?_
        obtain ⟨ρ', e1, e2, e3, e4⟩ := hA
        rw [<- e2]
        exact k ρ' W e4
    . cases h
  . rename_i hg
    have hw := (ZP (ρ := ρ)).2.1 hg
    split at h
    . rename_i t ht
      split at h
      . rename_i hlt
        simp only [Option.some.injEq, Prod.mk.injEq] at h
        obtain ⟨rfl, rfl, rfl, rfl⟩ := h
        refine WL.off hw ht (decide_eq_true (QA hlt)) ?_
        have := k ρ w hW
        simp only [Qr, SV.den] at this
        exact this
      . cases h
    . rename_i ht
      simp only [Option.some.injEq, Prod.mk.injEq] at h
      obtain ⟨rfl, rfl, rfl, rfl⟩ := h
      exact WL.offn hw ht (k ρ w hW)
  . rename_i p dp hg
    have hw := (ZP (ρ := ρ)).2.2 p dp hg
    split at h
    . rename_i t ht
      split at h
      . rename_i hlt
        split at h
        rename_i g cs hu
        split at h
        . rename_i p' dp' hg'
          split at h
          . rename_i v cs' hp
            simp only [Option.some.injEq, Prod.mk.injEq] at h
            obtain ⟨rfl, rfl, rfl, rfl⟩ := h
            obtain ⟨c1, c2, c3, c4⟩ := hc
            have hk := k ρ w hW
            by_cases hp0 : p
            . have hd : DV P ops o N (Qr ρ f) w (v.den ρ) := fun a ha => by
                obtain ⟨_, hfr⟩ := Gi (ρ := ρ) hp0 ha hu c3 ha
                have hw' := (ZP (ρ := ρ)).2.2 p' dp' hg'
                rw [decide_eq_true (c1 hp0)] at hw'
                exact (Js (N := N) (w := w) hT (fun hx => Qp hx) hw' hp (c2 hp0)).2 a hfr
              refine WL.val hd ht (decide_eq_true (QA hlt)) ?_
              have e : (SV.w p dp v).den ρ = v.den ρ := by
                cases dp with
                | isTrue _ => simp only [SV.den]
                | isFalse hn => exact absurd hp0 hn
              simp only [Qr, e] at hk
              exact hk
            . rw [decide_eq_false hp0] at hw
              refine WL.off hw ht (decide_eq_true (QA hlt)) ?_
              have e : (SV.w p dp v).den ρ = undef := by
                cases dp with
                | isTrue hn => exact absurd hn hp0
                | isFalse _ => simp only [SV.den]
              simp only [Qr, e] at hk
              exact hk
          . cases h
        . cases h
      . cases h
    . cases h
  . cases h
end
/-- What a function's walk is about. -/
structure Cx where
  P : Program
  T : TT
  N : Nat
  fn : Func
  R : Value -> World -> Prop
  w0 : World
  L0 : List Nat
  ok : T.ok P = true
/-- What is still to do: code, a block's end, operations of a region, a loop's next round. -/
inductive It where
  | c (x : Code)
  | b (id : Nat)
  | o (ops : Array Oper) (l : List Oper)
  | r (J : Act -> World -> Prop)
def QhT (c : Cx) : Exit -> Act -> World -> Prop
  | .ret, a, w => QgR c.P c.fn c.R c.w0 a w
  | .normal, a, w => QgR c.P c.fn c.R c.w0 a w
  | _, _, _ => False
def Kn (c : Cx) : List It -> Exit -> Act -> World -> Prop
  | [] => QhT c
  | .c x :: ks => Exit.then (fun a w => x.wp c.P (Kn c ks) a w) (Kn c ks)
  | .b id :: ks => Exit.inBlock id (Kn c ks)
  | .o ops l :: ks => Exit.then (fun a w => wpList c.P ops (Kn c ks) l a w) (Kn c ks)
  | .r J :: ks => Exit.then J (Kn c ks)
def S (c : Cx) (ks : List It) (f : SF) (m : SM) (d : SD) (n : Nat) (Γ : List Qv) : Prop := ∀ ρ a w, Fr c.N a (Qr ρ f) -> WM ρ c.L0 c.w0 m d n Γ w -> Kn c ks .normal a w
def Ui (id : Nat) : List It -> Option (List It)
  | [] => none
  | .b id' :: ks => match Nat.beq id id' with
    | true => some ks
    | false => Ui id ks
  | _ :: ks => Ui id ks
theorem Uh {c : Cx} {id : Nat} {a : Act} {w : World} : ∀ {ks ks' : List It}, Ui id ks = some ks' -> Kn c ks' .normal a w -> Kn c ks (.exit id) a w
  | [], _, h, _ => by cases h
  | x :: ks, ks', h, k => by
    cases x
    case b id' =>
      unfold Ui at h
      split at h
      . rename_i hb
        cases h
        have := Nat.eq_of_beq_eq_true hb
        subst this
        show (if id = id then Kn c _ .normal a w else _)
        rw [if_pos rfl]
        exact k
      . rename_i hb
        show (if id = id' then _ else Kn c _ (.exit id) a w)
        rw [if_neg (Nat.ne_of_beq_eq_false hb)]
        exact Uh (ks := ks) h k
    all_goals
      unfold Ui at h
      exact Uh (ks := ks) (c := c) h k
def Qfu {α : Type} : List Prop -> List Prop -> (List Prop -> α) -> α
  | [], b, K => K b
  | x :: l, b, K => Qfu l b fun r => K (x :: r)
theorem Ha {α : Type} : ∀ {a b : List Prop} {K : List Prop -> α}, Qfu a b K = K (a ++ b)
  | [], b, K => rfl
  | x :: l, b, K => by unfold Qfu; rw [Ha]; rfl
theorem He : ∀ {a b : List Prop}, QP (a ++ b) ↔ QP a /\ QP b
  | [], b => by simp [QP]
  | x :: l, b => by simp only [List.cons_append, QP, He (a := l) (b := b), and_assoc]
def run (T : TT) (md : Bool) (N : Nat) (d : SD) : Nat -> List It -> SF -> SM -> Nat -> List Prop -> List It × SF × SM × Nat × List Prop
  | 0, ks, f, m, n, acc => (ks, f, m, n, acc)
  | k + 1, ks, f, m, n, acc => match ks with
    | .c x :: l => match x with
      | .seq a b => run T md N d k (.c a :: .c b :: l) f m n acc
      | .skip => run T md N d k l f m n acc
      | .block id b => run T md N d k (.c b :: .b id :: l) f m n acc
      | .exit id => match Ui id l with
        | some l' => run T md N d k l' f m n acc
        | none => (.c (.exit id) :: l, f, m, n, acc)
      | .region _ ⟨os⟩ false => run T md N d k (.o ⟨os⟩ os :: l) f m n acc
      | .cond (.tmp t) a b => match lk f t with
        | some (.l true) => run T md N d k (.c a :: l) f m n acc
        | some (.l false) => run T md N d k (.c b :: l) f m n acc
        | _ => (.c (.cond (.tmp t) a b) :: l, f, m, n, acc)
      | x => (.c x :: l, f, m, n, acc)
    | .b _ :: l => run T md N d k l f m n acc
    | .o _ [] :: l => run T md N d k l f m n acc
    | .o ops (o :: r) :: l => match QbK T md N ops f m d n [] o with
      | some (f', m', n', cs) => Qfu cs acc fun acc' => run T md N d k (.o ops r :: l) f' m' n' acc'
      | none => (.o ops (o :: r) :: l, f, m, n, acc)
    | ks => (ks, f, m, n, acc)
theorem XH {T : TT} {N : Nat} {md : Bool} {d : SD} : ∀ {k : Nat} {ks ks' : List It} {f f' : SF} {m m' : SM} {n n' : Nat} {acc acc' : List Prop}, run T md N d k ks f m n acc = (ks', f', m', n', acc') -> QP acc' -> QP acc
  | 0, ks, ks', f, f', m, m', n, n', acc, acc', h, hc => by
    simp only [run, Prod.mk.injEq] at h
    obtain ⟨rfl, rfl, rfl, rfl, rfl⟩ := h
    exact hc
  | k + 1, ks, ks', f, f', m, m', n, n', acc, acc', h, hc => by
    have stop : ∀ {x y : List It × SF × SM × Nat × List Prop}, x = (ks', f', m', n', acc') -> x.2.2.2.2 = acc -> QP acc := fun e1 e2 => by
      rw [e1] at e2
      simp only at e2
      rw [<- e2]; exact hc
    unfold run at h
    split at h
    . split at h
      . exact XH h hc
      . exact XH h hc
      . exact XH h hc
      . split at h
        . exact XH h hc
        . exact stop (y := default) h rfl
      . exact XH h hc
      . split at h
        . exact XH h hc
        . exact XH h hc
        . exact stop (y := default) h rfl
      . exact stop (y := default) h rfl
    . exact XH h hc
    . exact XH h hc
    . split at h
      . rw [Ha] at h
        exact (He.1 (XH h hc)).2
      . exact stop (y := default) h rfl
    . exact stop (y := default) h rfl
theorem XP {c : Cx} {md : Bool} {d : SD} {Γ : List Qv} : ∀ {k : Nat} {ks ks' : List It} {f f' : SF} {m m' : SM} {n n' : Nat} {acc acc' : List Prop}, run c.T md c.N d k ks f m n acc = (ks', f', m', n', acc') -> QP acc' -> S c ks' f' m' d n' Γ -> S c ks f m d n Γ
  | 0, ks, ks', f, f', m, m', n, n', acc, acc', h, hc, hs => by
    simp only [run, Prod.mk.injEq] at h
    obtain ⟨rfl, rfl, rfl, rfl, rfl⟩ := h
    exact hs
  | k + 1, ks, ks', f, f', m, m', n, n', acc, acc', h, hc, hs => by
    have stop : ∀ {x}, x = (ks', f', m', n', acc') -> x = (ks, f, m, n, acc) -> S c ks f m d n Γ := fun e1 e2 => by
      rw [e1] at e2
      simp only [Prod.mk.injEq] at e2
      obtain ⟨rfl, rfl, rfl, rfl, rfl⟩ := e2
      exact hs
    unfold run at h
    split at h
    . split at h
      . exact fun ρ a w ha hW => wp_seq (XP h hc hs ρ a w ha hW)
      . exact fun ρ a w ha hW => wp_skip (XP h hc hs ρ a w ha hW)
      . exact fun ρ a w ha hW => wp_block (XP h hc hs ρ a w ha hW)
      . split at h
        . rename_i l' hu
          exact fun ρ a w ha hW => wp_exit (Uh hu (XP h hc hs ρ a w ha hW))
        . exact stop h rfl
      . exact fun ρ a w ha hW => wp_region_lit (XP h hc hs ρ a w ha hW)
      . split at h
        . rename_i hl
          exact fun ρ a w ha hW => wp_cond_true (by have := ha.2 _ _ (XI hl); simp only [SV.den] at this; exact this) (XP h hc hs ρ a w ha hW)
        . rename_i hl
          exact fun ρ a w ha hW => wp_cond_false (by have := ha.2 _ _ (XI hl); simp only [SV.den] at this; exact this) (XP h hc hs ρ a w ha hW)
        . exact stop h rfl
      . exact stop h rfl
    . exact fun ρ a w ha hW => XP h hc hs ρ a w ha hW
    . rename_i ops l
      exact fun ρ a w ha hW => wpList_nil (P := c.P) (ops := ops) (Q := Kn c l) (XP h hc hs ρ a w ha hW)
    . split at h
      . rename_i f1 m1 n1 cs hst
        rw [Ha] at h
        intro ρ a w ha hW
        have hall := (He.1 (XH h hc)).1
        exact QbJ c.ok hst hall hW (fun ρ' W hW' a' ha' => XP h hc hs ρ' a' W ha' hW') a ha
      . exact stop h rfl
    . exact stop h rfl
end Go.Proofs.YtbiboamaigedjaaDoor
namespace Go.Proofs.YtbiboamaigedjaaDoor
open Go.RowKit
set_option linter.unusedVariables false
set_option linter.constructorNameAsVariable false
set_option linter.unusedSimpArgs false

/-- A contract of a call: what it gives is one of these values, with these facts, and this holds. -/
def CX (P : Program) (F : FuncId) (args : List Value) (w : World) (L : List Nat) {α : Type} (sv : α -> SV) (fs : α -> List Qv) (pr : α -> Prop) : Prop := CV P F args w fun v W => ∃ x, v = (sv x).den Qu /\ Hs (fs x) L W /\ pr x
def val (ρ : Qy) : List SV -> Value
  | [v] => v.den ρ
  | l => .tuple (Qt ρ l).toArray
theorem X1 {x : SV} (h : x.wf 0 = true) (ρ ρ' : Qy) : x.den ρ = x.den ρ' := SV.den_upto (fun k hk => absurd hk (Nat.not_lt_zero k)) x h
section
variable {c : Cx} {ks ks' : List It} {f f' : SF} {m m' : SM} {d : SD} {n n' : Nat} {Γ : List Qv} {cs : List Prop}
theorem S.go (md : Bool) (h : run c.T md c.N d 5000 ks f m n [] = (ks', f', m', n', cs)) (hc : QP cs) (k : S c ks' f' m' d n' Γ) : S c ks f m d n Γ := XP h hc k
/-- The same, where what is asked follows from what is known. -/
theorem S.g (md : Bool) (h : run c.T md c.N d 5000 ks f m n [] = (ks', f', m', n', cs)) (k : S c ks' f' m' d n' Γ) (hc : QP cs := by repeat' (first | exact True.intro | exact fun h => h | refine And.intro ?_ ?_ | omega | exact rfl | (simp only [Int.reduceToNat, Int.reducePow]; omega) | intro _)) : S c ks f m d n Γ := XP h hc k
theorem S.cond {t : Nat} {a b : Code} {p : Prop} {dp : Decidable p} (hl : lk f t = some (.c p dp)) (ht : p -> S c (.c a :: ks) f m d n Γ) (hf : ¬ p -> S c (.c b :: ks) f m d n Γ) : S c (.c (.cond (.tmp t) a b) :: ks) f m d n Γ := fun ρ x w ha hW => by
  have h1 := ha.2 t _ (XI hl)
  simp only [SV.den] at h1
  by_cases hp : p
  . exact wp_cond_true (by rw [h1, decide_eq_true hp]) (ht hp ρ x w ha hW)
  . exact wp_cond_false (by rw [h1, decide_eq_false hp]) (hf hp ρ x w ha hW)
theorem S.condT {t : Nat} {a b : Code} {p : Prop} {dp : Decidable p} (hl : lk f t = some (.c p dp)) (hp : p) (k : S c (.c a :: ks) f m d n Γ) : S c (.c (.cond (.tmp t) a b) :: ks) f m d n Γ := S.cond hl (fun _ => k) fun h => absurd hp h
theorem S.condF {t : Nat} {a b : Code} {p : Prop} {dp : Decidable p} (hl : lk f t = some (.c p dp)) (hp : ¬ p) (k : S c (.c b :: ks) f m d n Γ) : S c (.c (.cond (.tmp t) a b) :: ks) f m d n Γ := S.cond hl (fun h => absurd h hp) fun _ => k
/-- A call. -/
theorem S.call {ops : Array Oper} {o : Oper} {r : List Oper} {t : Nat} {g : Operand} {xs : List Operand} {ts : Array TypeId} {F : FuncId} {caps vs : List SV} {fn : Func} {α : Type} {sv : α -> SV} {fs : α -> List Qv} {pr : α -> Prop} (ho : o.op = .call { callee := .value g, args := ⟨xs⟩, argTypes := ts }) (hg : Vt ops o f = some .on) (hF : Z6 f g = some (.f F caps)) (hx : GP f xs = some vs) (hd : o.dst = some t) (hlt : Nat.blt t c.N = true) (hf : c.P.funcs[F]? = some fn) (hn : (fn.name == "runtime.NumGoroutine") = false) (hb : fn.body.isNone = false)
    (hc : ∀ ρ w, WM ρ c.L0 c.w0 m d n Γ w -> CX c.P F (Qt ρ (vs ++ caps)) w (Xx ρ m c.L0) sv fs pr) (hwf : ∀ x, (sv x).wf 0 = true) (k : ∀ x, pr x -> S c (.o ops r :: ks) ((t, sv x) :: f) m d n (Γ ++ fs x)) : S c (.o ops (o :: r) :: ks) f m d n Γ := fun ρ a w ha hW => by
  have hw := (ZP (ρ := ρ)).1 hg
  have h1 := Qp (ρ := ρ) hF
  simp only [SV.den] at h1
  have hcc := hc ρ w hW
  unfold CX at hcc
  have e : Qt ρ (vs ++ caps) = Qt ρ vs ++ Qt ρ caps := JZ ρ vs caps
  rw [e] at hcc
  have hdr := EW (P := c.P) (ops := ops) (o := o) (N := c.N) (xs := xs) (cs := Qt ρ caps) (by rw [ho]) h1 hf hn hb (Zw hx) hcc hw
  refine (WL.get hdr hd (decide_eq_true (QA hlt)) (Q := Kn c ks) (rest := r) fun v W hv => ?_) a ha
  obtain ⟨⟨x, rfl, hfs, hp⟩, hbel⟩ := hv
  have hW' := hW.below hbel
  have hk := k x hp ρ
  rw [X1 (hwf x) Qu ρ]
  intro a' ha'
  refine hk a' W ha' ⟨hW'.mem, hW'.key, hW'.nod, hW'.low, hW'.bel, hW'.dat, hW'.dky, hW'.ll, hW'.hs.app hfs⟩
theorem QdQ : ∀ {ks : List It} {a : Act} {w : World}, QhT c .ret a w -> Kn c ks .ret a w
  | [], a, w, h => h
  | x :: ks, a, w, h => by
    cases x <;> exact QdQ (ks := ks) h
/-- What a result is. -/
def Qgh (T : TT) (f : SF) (m : SM) : ResultVar -> Option SV
  | .tmp t => lk f t
  | .cell t ty => match lk f t with
    | some (.p k o) => match T.get ty with
      | some i => match Xr m k with
        | some cc => match i.g with
          | true => match UI cc o with
            | some r => YF r i.s fun r => some (VQ i r)
            | none => none
          | false => EL cc o Fw
        | none => none
      | none => none
    | _ => none
def Et (T : TT) (f : SF) (m : SM) : List ResultVar -> Option (List SV)
  | [] => some []
  | r :: l => match Qgh T f m r with
    | some v => match Et T f m l with
      | some vs => some (v :: vs)
      | none => none
    | none => none
theorem Qeq {ρ : Qy} {w : World} (hW : WM ρ c.L0 c.w0 m d n Γ w) {r : ResultVar} {v : SV} (h : Qgh c.T f m r = some v) : RV c.P (Qr ρ f) w r (v.den ρ) := by
  cases r with
  | tmp t => exact .tmp (XI h)
  | cell t ty =>
    unfold Qgh at h
    simp only at h
    split at h
    . rename_i k o hl
      have h1 := XI (ρ := ρ) hl
      simp only [SV.den] at h1
      split at h
      . rename_i i hi
        split at h
        . rename_i cc hk
          obtain ⟨b1, b2⟩ := hW.cell hk
          split at h
          . rename_i hg
            split at h
            . rename_i r hr
              obtain ⟨q1, q2, q3⟩ := YV ρ b2 hr
              obtain ⟨r', g1, g2, g3, g4⟩ := YE ρ q1 h
              simp only [Option.some.injEq] at g1
              subst g1
              rw [Y3]
              refine .agg h1 (TT.agg c.ok hi hg) (cs := Qg ρ r') ?_ (by rw [QJ ρ g2, g4])
              have := b1.part o i.s
              rwa [<- q2, <- g3] at this
            . cases h
          . rename_i hg
            obtain ⟨y, j, g1, g2, g3, g4⟩ := VP ρ b2 h
            have g5 := g4 0 g2
            rw [Nat.add_zero, Nat.add_zero] at g5
            exact .one h1 (TT.one c.ok hi hg) (b1.cell (by rw [g5]; exact Fv g1 g3 g2))
        . cases h
      . cases h
    . cases h
theorem Dx {a : Act} {ρ : Qy} {w : World} (ha : Fr c.N a (Qr ρ f)) (hW : WM ρ c.L0 c.w0 m d n Γ w) : ∀ {rs : List ResultVar} {vs : List SV}, Et c.T f m rs = some vs -> (rs.mapM (Gt a.tmps)).run c.P w = .ok (Qt ρ vs) w
  | [], vs, h => by cases h; simp [Qt]
  | r :: l, vs, h => by
    unfold Et at h
    split at h
    . rename_i v hv
      split at h
      . rename_i us hu
        cases h
        have h1 := (Qeq hW hv).run ha
        have h2 := Dx ha hW hu
        simp only [List.mapM_cons, Sem.run_bind, h1, Result.andThen_ok, h2, Sem.run_pure, Qt]
      . cases h
    . cases h
theorem Qf4 (ρ : Qy) (vs : List SV) : (if h : (Qt ρ vs).toArray.size = 1 then (Qt ρ vs).toArray[0] else Value.tuple (Qt ρ vs).toArray) = val ρ vs := by
  match vs with
  | [] => simp [Qt, val]
  | [v] => simp [Qt, val]
  | v :: u :: l => simp [Qt, val]
theorem QgQ {rs : List ResultVar} {vs : List SV} (hr : c.fn.results = ⟨rs⟩) (hv : Et c.T f m rs = some vs) (post : ∀ ρ W, WM ρ c.L0 c.w0 m d n Γ W -> c.R (val ρ vs) W) {ρ : Qy} {a : Act} {w : World} (ha : Fr c.N a (Qr ρ f)) (hW : WM ρ c.L0 c.w0 m d n Γ w) : QgR c.P c.fn c.R c.w0 a w := by
  refine ⟨ha.1.2, val ρ vs, ?_, post ρ w hW, hW.bel⟩
  have h1 := Dx ha hW hv
  rw [Es, hr]
  simp only [List.mapM_toArray, Sem.run_bind, Sem.run_map, h1, Result.andThen_ok, Sem.run_pure]
  rw [<- Qf4 ρ vs]
theorem S.ret {rs : List ResultVar} {vs : List SV} (hr : c.fn.results = ⟨rs⟩) (hv : Et c.T f m rs = some vs) (post : ∀ ρ W, WM ρ c.L0 c.w0 m d n Γ W -> c.R (val ρ vs) W) : S c (.c .ret :: ks) f m d n Γ := fun ρ a w ha hW => wp_ret (QdQ (ks := ks) (QgQ hr hv post ha hW))
end
def Qbi : List SV -> Nat -> SF
  | [], _ => []
  | x :: l, k => (k, x) :: Qbi l (Nat.succ k)
theorem F2 (ρ : Qy) : ∀ (l : List SV) (k : Nat), Qr ρ (Qbi l k) = ((Qt ρ l).zipIdx k).map fun p => (p.2, p.1)
  | [], k => by simp [Qbi, Qr, Qt]
  | x :: l, k => by simp only [Qbi, Qr, Qt, List.zipIdx_cons, List.map_cons, F2 ρ l (Nat.succ k)]
theorem S.enter {P : Program} {T : TT} (ok : T.ok P = true) {F : FuncId} {fn : Func} {body : Code} {w : World} {L : List Nat} {R : Value -> World -> Prop} {N : Nat} {vs : List Value} (args : List SV) (Γ : List Qv) (hf : P.funcs[F]? = some fn) (hb : fn.body = some body) (hn : fn.ntmps = N) (hN : decide (vs.length <= N) = true) (ha : ∀ ρ, Qt ρ args = vs) (hL : LL L w) (hs : Hs Γ L w)
    (h : S ⟨P, T, N, fn, R, w, L, ok⟩ [.c body] (Qbi args 0) [] [] 0 Γ) : CV P F vs w R :=
  Qdz vs (Qr Qu (Qbi args 0)) hf hb hn hN (by rw [F2, ha]) fun a hfr => by
    have := h Qu a w hfr ⟨(fun x hx => by cases hx), (fun x hx => by cases hx), List.nodup_nil, (fun x hx => by cases hx), Below.refl _ _, (fun x hx => by cases hx), (fun x hx => by cases hx), hL, hs⟩
    refine wp_mono this fun e a w hq => ?_
    cases e <;> first
      | exact hq.elim
      | (obtain ⟨h1, v, h2, h3, h4⟩ := hq; exact ⟨h1, v, h2, v, rfl, h3, h4⟩)
/-- The values of what is kept, and of what is said anew, are the same. -/
def SV.eqv : SV -> SV -> Prop
  | .i K1 n1, .i K2 n2 => K1 = K2 /\ n1 = n2
  | .c p1 _, .c p2 _ => p1 ↔ p2
  | .s m1, .s m2 => m1 = m2
  | .y k1 o1 l1 e1, .y k2 o2 l2 e2 => k1 = k2 /\ o1 = o2 /\ l1 = l2 /\ e1 = e2
  | .x k1 o1 j1 n1, .x k2 o2 j2 n2 => k1 = k2 /\ o1 = o2 /\ j1 = j2 /\ n1 = n2
  | .x k1 o1 j1 n1, .p k2 o2 => k1 = k2 /\ o1 + n1.toNat * j1 = o2
  | .r k1 o1 j1 n1, .q k2 o2 => k1 = k2 /\ o1 + n1.toNat * j1 = o2
  | y1, y2 => y1 = y2
theorem D6 {x y : SV} (h : x.eqv y) (ρ : Qy) : x.den ρ = y.den ρ := by
  unfold SV.eqv at h
  split at h
  . obtain ⟨rfl, rfl⟩ := h; rfl
  . rename_i p dp q dq
    simp only [SV.den]
    by_cases hp : p
    . have hq : q := h.1 hp
      simp [hp, hq]
    . have hq : ¬ q := fun hq => hp (h.2 hq)
      simp [hp, hq]
  . subst h; rfl
  . obtain ⟨rfl, rfl, rfl, rfl⟩ := h; rfl
  . obtain ⟨rfl, rfl, rfl, rfl⟩ := h; rfl
  . obtain ⟨rfl, rfl⟩ := h; simp only [SV.den, SV.cs]
  . obtain ⟨rfl, rfl⟩ := h; simp only [SV.den, SV.cs]
  . subst h; rfl
def mF (f : SF) : SF -> Prop
  | [] => True
  | (t, v) :: l => (match lk f t with
    | some u => u.eqv v
    | none => False) /\ mF f l
theorem GH {ρ : Qy} {f : SF} : ∀ {g : SF}, mF f g -> Sub (Qr ρ g) (Qr ρ f)
  | [], _ => trivial
  | (t, v) :: l, h => by
    obtain ⟨h1, h2⟩ := h
    split at h1
    . rename_i u hu
      exact ⟨by rw [XI hu, D6 h1], GH h2⟩
    . exact h1.elim
def QgV : List SV -> List SV -> Prop
  | [], [] => True
  | x :: l, y :: l' => x.eqv y /\ y.ok /\ QgV l l'
  | _, _ => False
theorem QgU {x y : SV} (h : x.eqv y) (ρ : Qy) : x.cs (x.den ρ) = y.cs (y.den ρ) := by
  have hd := D6 h ρ
  unfold SV.eqv at h
  split at h
  . obtain ⟨rfl, rfl⟩ := h; rfl
  . simp only [SV.cs, hd]
  . subst h; rfl
  . obtain ⟨rfl, rfl, rfl, rfl⟩ := h; rfl
  . obtain ⟨rfl, rfl, rfl, rfl⟩ := h; rfl
  . obtain ⟨rfl, rfl⟩ := h; simp only [SV.den, SV.cs]
  . obtain ⟨rfl, rfl⟩ := h; simp only [SV.den, SV.cs]
  . subst h; rfl
theorem JU {ρ : Qy} : ∀ {l l' : List SV}, QgV l l' -> Qg ρ l = Qg ρ l' /\ X3 l'
  | [], [], _ => ⟨rfl, trivial⟩
  | x :: l, y :: l', h => by
    obtain ⟨h1, h2, h3⟩ := h
    obtain ⟨g1, g2⟩ := JU (ρ := ρ) h3
    exact ⟨by simp only [Qg, QgU h1, g1], h2, g2⟩
  | [], _ :: _, h => h.elim
  | _ :: _, [], h => h.elim
def mM (m : SM) : SM -> Prop
  | [] => True
  | (k, c) :: l => (match Xr m k with
    | some c' => QgV c' c
    | none => False) /\ mM m l
theorem KV {m : SM} {ρ : Qy} : ∀ {m' : SM}, mM m m' -> ∀ x ∈ m', ∃ c', (x.1, c') ∈ m /\ Qg ρ c' = Qg ρ x.2 /\ X3 x.2
  | [], _, x, hx => by cases hx
  | (k, c) :: l, h, x, hx => by
    obtain ⟨h1, h2⟩ := h
    cases hx with
    | head =>
      split at h1
      . rename_i c' hk
        exact ⟨c', XK hk, (JU (ρ := ρ) h1).1, (JU (ρ := ρ) h1).2⟩
      . exact h1.elim
    | tail _ hx => exact KV h2 x hx
def JM : SM -> Bool
  | [] => true
  | (k, _) :: l => match l.any fun x => Nat.beq x.1 k with
    | true => false
    | false => JM l
theorem UF : ∀ {m : SM}, JM m = true -> (m.map Prod.fst).Nodup
  | [], _ => List.nodup_nil
  | (k, c) :: l, h => by
    unfold JM at h
    split at h
    . cases h
    . rename_i hn
      rw [List.map_cons, List.nodup_cons]
      refine ⟨fun hk => ?_, UF h⟩
      obtain ⟨x, hx, e⟩ := List.mem_map.1 hk
      rw [Bool.eq_false_iff] at hn
      refine hn (List.any_eq_true.2 ⟨x, hx, ?_⟩)
      simp only [e]
      exact Nat.beq_refl k
/-- Less is kept in mind. -/
theorem WM.sub {ρ : Qy} {L0 : List Nat} {w0 w : World} {m m' : SM} {d d' : SD} {n n' : Nat} {Γ Γ' : List Qv} (h : WM ρ L0 w0 m d n Γ w) (hm : mM m m') (hk : JM m' = true) (hmn : Ku n' m' = true) (hd : ∀ x ∈ d', x ∈ d) (hdn : Kf n' d' = true) (hs : Hs Γ' (Xx ρ m L0) w) : WM ρ L0 w0 m' d' n' Γ' w := by
  have hsub : ∀ x ∈ Xx ρ m' L0, x ∈ Xx ρ m L0 := fun x hx => by
    rcases List.mem_append.1 hx with h1 | h1
    . obtain ⟨y, hy, rfl⟩ := List.mem_map.1 h1
      obtain ⟨c', hc, _⟩ := KV (ρ := ρ) hm y hy
      exact List.mem_append_left _ (List.mem_map.2 ⟨(y.1, c'), hc, rfl⟩)
    . exact List.mem_append_right _ h1
  refine ⟨fun x hx => ?_, fun x hx => (Ji hmn x hx).1, ?_, fun x hx => ?_, h.bel, fun x hx => ?_, fun x hx => (Gg hdn x hx).1, h.ll, hs.stp (Stp.refl _ _) fun x hx => .inl (hsub x hx)⟩
  . obtain ⟨c', hc, e1, e2⟩ := KV (ρ := ρ) hm x hx
    rw [<- e1]
    exact ⟨(h.mem _ hc).1, e2⟩
  . have hn := UF hk
    have : (m'.map fun x => ρ.b x.1) = (m'.map Prod.fst).map ρ.b := by simp
    rw [this]
    refine List.pairwise_map.2 (hn.imp_of_mem fun {a b} ha hb hne => ?_)
    obtain ⟨x, hx, rfl⟩ := List.mem_map.1 ha
    obtain ⟨y, hy, rfl⟩ := List.mem_map.1 hb
    obtain ⟨c1, hc1, _⟩ := KV (ρ := ρ) hm x hx
    obtain ⟨c2, hc2, _⟩ := KV (ρ := ρ) hm y hy
    exact VK (x := (x.1, c1)) (y := (y.1, c2)) h.nod hc1 hc2 hne
  . obtain ⟨c', hc, _⟩ := KV (ρ := ρ) hm x hx
    exact h.low (x.1, c') hc
  . obtain ⟨h1, h2⟩ := h.dat x (hd x hx)
    exact ⟨fun hx => h1 (hsub _ hx), h2⟩
/-- What a loop's round begins from. -/
def Hd (c : Cx) (f : SF) (m : SM) (d : SD) (n : Nat) (Γ : List Qv) (a : Act) (w : World) : Prop := ∃ ρ, Fr c.N a (Qr ρ f) /\ WM ρ c.L0 c.w0 m d n Γ w
def DW (f : SF) : List Nat -> Option SF
  | [] => some []
  | t :: l => match lk f t with
    | some v => match DW f l with
      | some r => some ((t, v) :: r)
      | none => none
    | none => none
theorem KX {ρ : Qy} {f : SF} : ∀ {l : List Nat} {g : SF}, DW f l = some g -> Sub (Qr ρ g) (Qr ρ f)
  | [], g, h => by cases h; trivial
  | t :: l, g, h => by
    unfold DW at h
    split at h
    . rename_i v hv
      split at h
      . rename_i r hr
        cases h
        exact ⟨XI hv, KX hr⟩
      . cases h
    . cases h
theorem Qar {f : Fl} : ∀ {a b : Fl}, Sub a f -> Sub b f -> Sub (a ++ b) f
  | [], b, _, h => h
  | (t, v) :: l, b, h, h' => ⟨h.1, Qar h.2 h'⟩
theorem FN (ρ : Qy) : ∀ a b : SF, Qr ρ (a ++ b) = Qr ρ a ++ Qr ρ b
  | [], b => rfl
  | (t, v) :: l, b => by simp only [List.cons_append, Qr, FN ρ l b]
section
variable {c : Cx} {ks ks' : List It} {f f' : SF} {m m' : SM} {d : SD} {n n' : Nat} {Γ : List Qv} {cs : List Prop}
/-- A loop: kp the slots that stay as they are, ch those that are said anew, mm the Xx blocks, Δ the facts that come and go. -/
theorem S.loop {α : Type} {body : Code} (kp : List Nat) (ch : α -> SF) (mm : α -> SM) (Δ : α -> List Qv) (I : α -> Prop) (μ : α -> Nat) (s0 : α) {fk : SF} (hk : DW f kp = some fk) (hkm : ∀ s, JM (mm s) = true) (hmn : ∀ s, Ku n (mm s) = true) (hdn : Kf n d = true)
    (h0 : mF f (ch s0)) (h1 : mM m (mm s0)) (h2 : ∀ ρ w, WM ρ c.L0 c.w0 m d n Γ w -> Hs (Δ s0) (Xx ρ m c.L0) w) (h3 : I s0)
    (round : ∀ (J : Act -> World -> Prop) s, I s -> (∀ s', I s' -> μ s' < μ s -> ∀ a w, Hd c (ch s' ++ fk) (mm s') d n (Γ ++ Δ s') a w -> J a w) -> S c (.c body :: .r J :: ks) (ch s ++ fk) (mm s) d n (Γ ++ Δ s)) : S c (.c (.loop body) :: ks) f m d n Γ := fun ρ a w ha hW => by
  refine wp_loop_ghost (fun k a w => ∃ s, μ s = k /\ I s /\ Hd c (ch s ++ fk) (mm s) d n (Γ ++ Δ s) a w) (μ s0) ⟨s0, rfl, h3, ρ, ?_, ?_⟩ fun k a w hI => ?_
  . rw [FN]
    exact ha.sub (Qar (GH h0) (KX hk))
  . exact hW.sub h1 (hkm s0) (hmn s0) (fun x hx => hx) hdn (hW.hs.app (h2 ρ w hW))
  . obtain ⟨s, rfl, hi, ρ', ha', hW'⟩ := hI
    exact round _ s hi (fun s' hi' hlt a w hd => ⟨μ s', hlt, s', rfl, hi', hd⟩) ρ' a w ha' hW'
theorem Hs.pre {L : List Nat} {w : World} : ∀ {Γ Δ : List Qv}, Hs (Γ ++ Δ) L w -> Hs Γ L w
  | [], _, _ => trivial
  | φ :: l, Δ, h => ⟨h.1, Hs.pre h.2⟩
/-- A round's end. -/
theorem S.again {J : Act -> World -> Prop} {g : SF} {mm : SM} {d' : SD} {n0 : Nat} {Γ' : List Qv} (hJ : ∀ a w, Hd c g mm d' n0 Γ' a w -> J a w) (h0 : mF f g) (h1 : mM m mm) (hk : JM mm = true) (hmn : Ku n0 mm = true) (hd : ∀ x ∈ d', x ∈ d) (hdn : Kf n0 d' = true) (hs : ∀ ρ w, WM ρ c.L0 c.w0 m d n Γ w -> Hs Γ' (Xx ρ m c.L0) w) : S c (.r J :: ks) f m d n Γ := fun ρ a w ha hW => hJ a w ⟨ρ, ha.sub (GH h0), hW.sub h1 hk hmn hd hdn (hs ρ w hW)⟩
end
end Go.Proofs.YtbiboamaigedjaaDoor
namespace Go.Proofs.YtbiboamaigedjaaDoor
open Go.RowKit
set_option linter.unusedVariables false
set_option linter.unusedSimpArgs false
set_option maxRecDepth 8000
set_option maxHeartbeats 2000000

def tt : TT := { M := 142, tr := (.t (.t (.t (.t (.t (.t (.t (.t .n (some { s := 1, g := false, z := some [.v .nilFunc] }) .n) (some { s := 1, g := false, y := 2, e := 69, z := some [.o none 0 0] }) .n) (some { s := 1, g := false, z := some [.v .nilFunc] }) (.t .n (some { s := 1, g := false, z := some [.v .nilFunc] }) .n)) (some { s := 1, g := false, z := some [.v (.pointer none)] }) (.t (.t .n (some { s := 1, g := false, z := some [.v .nilFunc] }) .n) (some { s := 1, g := false, z := some [.v .nilFunc] }) (.t .n (some { s := 1, g := false, z := some [.v .nilFunc] }) .n))) (some { s := 4, g := true, o := [(0, 1), (1, 1), (2, 1), (3, 1)], z := some [.i .i64 0, .i .i64 0, .l false, .i .u8 0] }) (.t (.t (.t (.t .n (some { s := 1, g := false, k := some .u8, z := some [.i .u8 0] }) .n) (some { s := 1, g := false, z := some [.v .nilFunc] }) .n) (some { s := 1, g := false, z := some [.v .nilFunc] }) (.t .n (some { s := 1, g := false, z := some [.v .nilFunc] }) .n)) (some { s := 1, g := false, y := 2, e := 5, z := some [.o none 0 0] }) (.t .n (some { s := 1, g := false, z := some [.v .nilFunc] }) (.t .n (some { s := 1, g := false, z := some [.v .nilFunc] }) .n)))) (some { s := 1, g := false, k := some .i64, z := some [.i .i64 0] }) (.t (.t (.t (.t .n (some { s := 10, g := true, o := [(0, 5), (5, 5)], z := some [.i .u64 0, .i .u64 0, .i .u64 0, .i .u64 0, .i .u64 0, .i .u64 0, .i .u64 0, .i .u64 0, .i .u64 0, .i .u64 0] }) .n) (some { s := 1, g := false, z := some [.v .nilFunc] }) (.t .n (some { s := 1, g := false, z := some [.v .nilFunc] }) .n)) (some { s := 1, g := true, o := [(0, 1)], z := some [.v (.pointer none)] }) (.t (.t .n (some { s := 1, g := false, z := some [.v .nilFunc] }) .n) none (.t .n (some { s := 1, g := false, z := some [.v .nilFunc] }) .n))) (some { s := 1, g := false, y := 1, z := some [.s ⟨#[]⟩] }) (.t (.t (.t (.t .n (some { s := 1, g := false, k := some .i32, z := some [.i .i32 0] }) .n) (some { s := 1, g := false, z := some [.v .nilFunc] }) .n) none (.t .n (some { s := 1, g := false, z := some [.v .nilFunc] }) .n)) (some { s := 64, g := true, n := 64, e := 5, q := 1, u := true, z := some [.a .u8 (List.replicate 64 0) 64] }) (.t (.t .n (some { s := 1, g := false, z := some [.v .nilFunc] }) .n) (some { s := 1, g := false, z := some [.v .nilFunc] }) (.t .n (some { s := 1, g := false, z := some [.v .nilFunc] }) .n))))) (some { s := 1, g := false, z := some [.v .nilFunc] }) (.t (.t (.t (.t (.t (.t .n (some { s := 4, g := true, o := [(0, 1), (1, 1), (2, 1), (3, 1)], z := some [.v (.pointer none), .v (.pointer none), .v (.pointer none), .s ⟨#[]⟩] }) .n) (some { s := 5, g := true, n := 5, e := 32, q := 1, u := true, z := some [.i .u64 0, .i .u64 0, .i .u64 0, .i .u64 0, .i .u64 0] }) .n) (some { s := 4, g := true, n := 4, e := 32, q := 1, u := true, z := some [.i .u64 0, .i .u64 0, .i .u64 0, .i .u64 0] }) (.t .n (some { s := 1, g := false, z := some [.v .nilFunc] }) .n)) (some { s := 1, g := false, z := some [.v (.pointer none)] }) (.t (.t .n (some { s := 14, g := true, o := [(0, 1), (1, 1), (2, 8), (10, 1), (11, 1), (12, 1), (13, 1)], z := some [.i .i64 0, .i .i64 0, .i .u64 0, .i .u64 0, .i .u64 0, .i .u64 0, .i .u64 0, .i .u64 0, .i .u64 0, .i .u64 0, .v .nilFunc, .v .nilFunc, .v .nilFunc, .v .nilFunc] }) .n) (some { s := 12, g := true, o := [(0, 4), (4, 4), (8, 4)], z := some [.i .u64 0, .i .u64 0, .i .u64 0, .i .u64 0, .i .u64 0, .i .u64 0, .i .u64 0, .i .u64 0, .i .u64 0, .i .u64 0, .i .u64 0, .i .u64 0] }) .n)) (some { s := 1, g := false, y := 1, z := some [.s ⟨#[]⟩] }) (.t (.t (.t (.t .n (some { s := 1, g := false, z := some [.v (.pointer none)] }) .n) (some { s := 1, g := false, z := some [.v .nilFunc] }) .n) (some { s := 1, g := false, z := some [.v .nilFunc] }) (.t .n (some { s := 1, g := false, z := some [.v (.pointer none)] }) .n)) (some { s := 1, g := false, z := some [.v .nilFunc] }) (.t (.t .n (some { s := 1, g := false, z := some [.v .nilFunc] }) .n) (some { s := 4, g := true, n := 4, e := 32, q := 1, u := true, z := some [.i .u64 0, .i .u64 0, .i .u64 0, .i .u64 0] }) (.t .n (some { s := 1, g := false, z := some [.v .nilFunc] }) .n)))) (some { s := 1, g := false, k := some .u8, z := some [.i .u8 0] }) (.t (.t (.t (.t (.t .n (some { s := 1, g := false, z := some [.v .nilFunc] }) .n) (some { s := 20, g := true, o := [(0, 10), (10, 5), (15, 5)], z := some [.i .u64 0, .i .u64 0, .i .u64 0, .i .u64 0, .i .u64 0, .i .u64 0, .i .u64 0, .i .u64 0, .i .u64 0, .i .u64 0, .i .u64 0, .i .u64 0, .i .u64 0, .i .u64 0, .i .u64 0, .i .u64 0, .i .u64 0, .i .u64 0, .i .u64 0, .i .u64 0] }) .n) none (.t .n (some { s := 320, g := true, n := 16, e := 69, q := 20, z := some [.a .u64 (List.replicate 320 0) 320] }) .n)) (some { s := 1, g := false, k := some .i32, z := some [.i .i32 0] }) (.t (.t .n (some { s := 1, g := false, z := some [.v .nilFunc] }) .n) (some { s := 1, g := false, z := some [.v .nilFunc] }) (.t .n (some { s := 2, g := true, o := [(0, 1), (1, 1)], z := some [.i .u64 0, .i .u64 0] }) .n))) (some { s := 2, g := true, o := [(0, 1), (1, 1)], z := some [.s ⟨#[]⟩, .i .u64 0] }) (.t (.t (.t (.t .n (some { s := 11, g := true, o := [(0, 1), (1, 1), (2, 1), (3, 1), (4, 1), (5, 1), (6, 1), (7, 1), (8, 1), (9, 1), (10, 1)], z := some [.i .u64 0, .i .u64 0, .i .u32 0, .i .u8 0, .i .u8 0, .i .u8 0, .i .u8 0, .v .nilFunc, .v (.pointer none), .i .i32 0, .i .i32 0] }) .n) (some { s := 8, g := true, n := 8, e := 32, q := 1, u := true, z := some [.i .u64 0, .i .u64 0, .i .u64 0, .i .u64 0, .i .u64 0, .i .u64 0, .i .u64 0, .i .u64 0] }) .n) (some { s := 1, g := false, z := some [.v .nilFunc] }) (.t .n (some { s := 1, g := false, z := some [.v .nilFunc] }) .n)) (some { s := 1, g := false, z := some [.v .nilFunc] }) (.t (.t .n (some { s := 1, g := false, z := some [.v .nilFunc] }) .n) (some { s := 1, g := false, z := some [.v .nilFunc] }) (.t .n (some { s := 1, g := false, z := some [.v .nilFunc] }) .n)))))) none (.t (.t (.t (.t (.t (.t (.t .n (some { s := 4, g := true, o := [(0, 1), (1, 1), (2, 1), (3, 1)], z := some [.v (.pointer none), .v (.pointer none), .v (.pointer none), .s ⟨#[]⟩] }) .n) (some { s := 5, g := true, n := 5, e := 32, q := 1, u := true, z := some [.i .u64 0, .i .u64 0, .i .u64 0, .i .u64 0, .i .u64 0] }) .n) (some { s := 1, g := false, k := some .u64, z := some [.i .u64 0] }) (.t .n (some { s := 1, g := false, z := some [.v .nilFunc] }) .n)) (some { s := 1, g := false, z := some [.v (.pointer none)] }) (.t (.t .n (some { s := 1, g := false, z := some [.v .nilFunc] }) .n) (some { s := 1, g := false, k := some .u64, z := some [.i .u64 0] }) (.t .n (some { s := 1, g := false, z := some [.v .nilFunc] }) .n))) (some { s := 4, g := true, o := [(0, 1), (1, 1), (2, 1), (3, 1)], z := some [.i .i64 0, .i .i64 0, .l false, .i .u8 0] }) (.t (.t (.t (.t .n (some { s := 1, g := false, z := some [.v .nilFunc] }) .n) (some { s := 1, g := false, z := some [.v .nilFunc] }) .n) (some { s := 1, g := false, z := some [.v .nilFunc] }) (.t .n (some { s := 1, g := false, z := some [.v .nilFunc] }) .n)) (some { s := 1, g := false, z := some [.v .nilFunc] }) (.t (.t .n (some { s := 1, g := false, z := some [.v .nilFunc] }) .n) (some { s := 1, g := false, z := some [.v .nilFunc] }) (.t .n (some { s := 1, g := false, z := some [.v .nilFunc] }) .n)))) (some { s := 1, g := false, y := 3, z := some [.l false] }) (.t (.t (.t (.t .n (some { s := 20, g := true, o := [(0, 10), (10, 5), (15, 5)], z := some [.i .u64 0, .i .u64 0, .i .u64 0, .i .u64 0, .i .u64 0, .i .u64 0, .i .u64 0, .i .u64 0, .i .u64 0, .i .u64 0, .i .u64 0, .i .u64 0, .i .u64 0, .i .u64 0, .i .u64 0, .i .u64 0, .i .u64 0, .i .u64 0, .i .u64 0, .i .u64 0] }) .n) (some { s := 1, g := false, k := some .i64, z := some [.i .i64 0] }) (.t .n (some { s := 1, g := false, y := 2, e := 101, z := some [.o none 0 0] }) .n)) none (.t (.t .n (some { s := 1, g := false, z := some [.v .nilFunc] }) .n) (some { s := 1, g := false, z := some [.v .nilFunc] }) (.t .n (some { s := 2, g := true, o := [(0, 1), (1, 1)], z := some [.i .u64 0, .i .u64 0] }) .n))) (some { s := 1, g := false, k := some .u64, z := some [.i .u64 0] }) (.t (.t (.t (.t .n (some { s := 11, g := true, o := [(0, 1), (1, 1), (2, 1), (3, 1), (4, 1), (5, 1), (6, 1), (7, 1), (8, 1), (9, 1), (10, 1)], z := some [.i .u64 0, .i .u64 0, .i .u32 0, .i .u8 0, .i .u8 0, .i .u8 0, .i .u8 0, .v .nilFunc, .v (.pointer none), .i .i32 0, .i .i32 0] }) .n) (some { s := 8, g := true, n := 8, e := 32, q := 1, u := true, z := some [.i .u64 0, .i .u64 0, .i .u64 0, .i .u64 0, .i .u64 0, .i .u64 0, .i .u64 0, .i .u64 0] }) .n) (some { s := 1, g := false, z := some [.v .nilFunc] }) (.t .n (some { s := 1, g := false, y := 2, e := 32, z := some [.o none 0 0] }) .n)) (some { s := 1, g := false, z := some [.v .nilFunc] }) (.t .n (some { s := 1, g := false, z := some [.v .nilFunc] }) (.t .n (some { s := 1, g := false, z := some [.v .nilFunc] }) .n))))) (some { s := 1, g := false, k := some .i64, z := some [.i .i64 0] }) (.t (.t (.t (.t (.t .n (some { s := 10, g := true, o := [(0, 5), (5, 5)], z := some [.i .u64 0, .i .u64 0, .i .u64 0, .i .u64 0, .i .u64 0, .i .u64 0, .i .u64 0, .i .u64 0, .i .u64 0, .i .u64 0] }) .n) (some { s := 4, g := true, n := 4, e := 32, q := 1, u := true, z := some [.i .u64 0, .i .u64 0, .i .u64 0, .i .u64 0] }) (.t .n (some { s := 1, g := false, k := some .u32, z := some [.i .u32 0] }) .n)) (some { s := 1, g := true, o := [(0, 1)], z := some [.v (.pointer none)] }) (.t (.t .n (some { s := 14, g := true, o := [(0, 1), (1, 1), (2, 8), (10, 1), (11, 1), (12, 1), (13, 1)], z := some [.i .i64 0, .i .i64 0, .i .u64 0, .i .u64 0, .i .u64 0, .i .u64 0, .i .u64 0, .i .u64 0, .i .u64 0, .i .u64 0, .v .nilFunc, .v .nilFunc, .v .nilFunc, .v .nilFunc] }) .n) (some { s := 12, g := true, o := [(0, 4), (4, 4), (8, 4)], z := some [.i .u64 0, .i .u64 0, .i .u64 0, .i .u64 0, .i .u64 0, .i .u64 0, .i .u64 0, .i .u64 0, .i .u64 0, .i .u64 0, .i .u64 0, .i .u64 0] }) (.t .n (some { s := 1, g := false, z := some [.v .nilFunc] }) .n))) (some { s := 1, g := false, y := 1, z := some [.s ⟨#[]⟩] }) (.t (.t (.t (.t .n (some { s := 1, g := false, k := some .i32, z := some [.i .i32 0] }) .n) (some { s := 1, g := false, y := 2, e := 22, z := some [.o none 0 0] }) .n) (some { s := 1, g := false, z := some [.v .nilFunc] }) (.t .n (some { s := 1, g := false, z := some [.v .nilFunc] }) .n)) (some { s := 1, g := false, z := some [.v .nilFunc] }) (.t (.t .n (some { s := 1, g := false, z := some [.v .nilFunc] }) .n) none (.t .n (some { s := 80, g := true, n := 80, e := 32, q := 1, u := true, z := some [.a .u64 (List.replicate 80 0) 80] }) .n)))) (some { s := 1, g := false, k := some .u8, z := some [.i .u8 0] }) (.t (.t (.t (.t (.t .n (some { s := 1, g := false, k := some .u8, z := some [.i .u8 0] }) .n) (some { s := 1, g := false, z := some [.v .nilFunc] }) .n) (some { s := 1, g := false, z := some [.v .nilFunc] }) (.t .n (some { s := 1, g := false, z := some [.v .nilFunc] }) .n)) (some { s := 32, g := true, n := 32, e := 5, q := 1, u := true, z := some [.a .u8 (List.replicate 32 0) 32] }) (.t (.t .n (some { s := 1, g := false, z := some [.v .nilFunc] }) .n) (some { s := 1, g := false, z := some [.v .nilFunc] }) (.t .n (some { s := 1, g := false, z := some [.v .nilFunc] }) .n))) (some { s := 2, g := true, o := [(0, 1), (1, 1)], z := some [.s ⟨#[]⟩, .i .u64 0] }) (.t (.t (.t .n (some { s := 1, g := false, y := 2, e := 23, z := some [.o none 0 0] }) .n) (some { s := 1, g := false, z := some [.v .nilFunc] }) .n) (some { s := 1, g := false, z := some [.v .nilFunc] }) (.t .n (some { s := 1, g := false, z := some [.v .nilFunc] }) (.t .n (some { s := 1, g := false, z := some [.v (.pointer none)] }) .n))))))) }
theorem Qh : TT.ok Tryd.prog tt = true := by kernel_rfl
section
variable {P : Program} {ops : Array Oper} {md : Region.Mode}
/-- As Gf, where G speaks of the values too; where what waits for one is not asked to bear it. G holds throughout, said of which operations have run; what is shown of an operation (F) bears what others do to the world (R). -/
theorem Ge {Q : Exit -> Act -> World -> Prop} (hb : Kk md ops = true) (a : Act) (G : (Nat -> Bool) -> (Nat -> Value) -> World -> Prop) (F : Qat) (R : Nat -> (Nat -> Value) -> World -> World -> Prop)
    (hF : ∀ i f w w' j g, R i f w w' -> j ≠ i -> i ∉ QY md ops j -> F j g w -> F j g w')
    (hstep : ∀ i o, ops[i]? = some o -> ∀ L f w, L i = false -> (∀ j, i ∈ QY md ops j -> L j = false) -> (∀ j ∈ Qq md o, L j = true) -> G L f w -> (∀ j ∈ Qq md o, F j (Zn f (j :: QY md ops j)) w) ->
      Qi P ops o (Q4 ops f (Qq md o) a) w fun v w' => R i (Zn f (Qq md o)) w w' /\ G (Zg L i true) (Zg f i v) w' /\ F i (Zn (Zg f i v) (i :: Qq md o)) w')
    (hend : ∀ L f w, (∀ j, L j = decide (j < ops.size)) -> G L f w -> (∀ j, j < ops.size -> F j (Zn f (j :: QY md ops j)) w) -> Q .normal (Q4 ops f (List.range ops.size) a) w) :
    ∀ (fuel : Nat) (listed : Array Bool) (f : Nat -> Value) (a' : Act) (w : World), listed.size = ops.size -> (listed.toList.countP (fun b => !b) <= fuel) ->
      (∀ j, listed.getD j false = true -> ∀ k ∈ QY md ops j, listed.getD k false = true) ->
      QG ops (fun j => listed.getD j false = true) f a a' -> G (fun j => listed.getD j false) f w -> (∀ j, listed.getD j false = true -> F j (Zn f (j :: QY md ops j)) w) -> wpAny P md ops Q fuel listed a' w := by
  have ho := Fe hb
  have fin : ∀ (listed : Array Bool) (f : Nat -> Value) (a' : Act) (w : World), listed.size = ops.size -> Region.ready md ops listed = [] ->
      QG ops (fun j => listed.getD j false = true) f a a' -> G (fun j => listed.getD j false) f w -> (∀ j, listed.getD j false = true -> F j (Zn f (j :: QY md ops j)) w) -> Q .normal a' w := by
    intro listed f a' w hsz hr hag hg hf
    have hl := Kc hb hsz hr
    have hout : ∀ j, listed.getD j false = true -> j < ops.size := by
      intro j h
      rcases Nat.lt_or_ge j ops.size with h' | h'
      . exact h'
      . simp [Array.getElem?_eq_none (by omega : listed.size <= j)] at h
    have e : a' = Q4 ops f (List.range ops.size) a := by
      refine hag.unique ((QG.of ho f a (List.range ops.size)).congr (fun j => ?_) (fun _ _ => rfl))
      rw [List.mem_range]
      exact ⟨hl j, hout j⟩
    rw [e]
    refine hend _ f w (fun j => ?_) hg fun j hj => hf j (hl j hj)
    by_cases hj : j < ops.size
    . rw [hl j hj]; simp [hj]
    . have : ¬ listed.getD j false = true := fun h => hj (hout j h)
      rw [Bool.not_eq_true] at this
      rw [this]; simp [hj]
  intro fuel
  induction fuel with
  | zero =>
    intro listed f a' w hsz hc hcl hag hg hf
    have hr : Region.ready md ops listed = [] := by
      rw [List.eq_nil_iff_forall_not_mem]
      intro j hj
      obtain ⟨h0, o, hoj, _⟩ := mem_ready.1 hj
      have hjs : j < ops.size := (Array.getElem?_eq_some_iff.1 hoj).1
      have hc0 : listed.toList.countP (fun b => !b) = 0 := by omega
      rw [List.countP_eq_zero] at hc0
      have h1 := hc0 listed[j] (by simp)
      rw [Array.getD_eq_getD_getElem?, Array.getElem?_eq_getElem (by omega)] at h0
      simp only [Option.getD_some] at h0
      rw [h0] at h1
      exact h1 rfl
    exact ⟨hr, fin listed f a' w hsz hr hag hg hf⟩
  | succ fuel ih =>
    intro listed f a' w hsz hc hcl hag hg hf
    refine ⟨fun hr => fin listed f a' w hsz hr hag hg hf, fun i hi => ?_⟩
    obtain ⟨h0, o, hoi, hdep⟩ := mem_ready.1 hi
    have his : i < ops.size := (Array.getElem?_eq_some_iff.1 hoi).1
    obtain ⟨hsel, hlt, hlook⟩ := Y1 hb hoi
    have hdl : ∀ j ∈ Qq md o, listed.getD j false = true := by
      intro j hj
      obtain ⟨e, he, rfl⟩ := List.mem_map.1 hj
      obtain ⟨he1, he2⟩ := List.mem_filter.1 he
      exact hdep e (by simpa using he1) he2
    have hun : ¬ listed.getD i false = true := by
      intro h
      rw [Array.getD_eq_getD_getElem?, Array.getElem?_eq_getElem (by omega)] at h0 h
      simp only [Option.getD_some] at h0 h
      rw [h0] at h
      cases h
    have hA := QG.of ho f a (Qq md o)
    have hdst : o.dst = QL ops i := by simp [QL, hoi]
    have hset : ∀ j, (listed.setIfInBounds i true).getD j false = Zg (fun j => listed.getD j false) i true j := by
      intro j
      unfold Zg
      by_cases e : j = i
      . subst e
        simp [Array.getD_eq_getD_getElem?, hsz, his]
      . rw [getD_set_ne false (fun h => e h.symm), if_neg e]
    refine Qi.wpOp hoi hsel (a := Q4 ops f (Qq md o) a) (by rw [hag.size, hA.size]) (fun t ht => ?_)
      (hstep i o hoi (fun j => listed.getD j false) f w (by simpa using hun) (fun j hj => by
        rw [<- Bool.not_eq_true]
        exact fun h => hun (hcl j h i hj)) hdl hg fun j hj => hf j (hdl j hj)) fun v w' hR => ?_
    . by_cases hts : t < a.tmps.size
      . by_cases e : ∃ j, QL ops j = some t
        . obtain ⟨j, hd⟩ := e
          have hj' : j < ops.size := by
            rcases Nat.lt_or_ge j ops.size with h | h
            . exact h
            . simp [QL, Array.getElem?_eq_none h] at hd
          have hl := hlook j t hj' hd
          by_cases hjd : j ∈ Qq md o
          . rw [hag.put j t (hdl j hjd) hd hts, hA.put j t hjd hd hts]
          . have hjl : ¬ listed.getD j false = true := by
              intro hjl
              rcases hl.1 ht with h | h | h
              . exact hun (h ▸ hjl)
              . exact hjd h
              . exact hun (hcl j hjl i h)
            rw [hag.same t (fun k hk hkd => hjl (ho k j t hkd hd ▸ hk)), hA.same t (fun k hk hkd => hjd (ho k j t hkd hd ▸ hk))]
        . have hn : ∀ j, QL ops j ≠ some t := fun j hj => e ⟨j, hj⟩
          rw [hag.same t (fun j _ => hn j), hA.same t (fun j _ => hn j)]
      . rw [Array.getElem?_eq_none (by rw [hag.size]; exact Nat.le_of_not_lt hts), Array.getElem?_eq_none (by rw [hA.size]; exact Nat.le_of_not_lt hts)]
    . obtain ⟨hR1, hR3, hR2⟩ := hR
      have hset' : ∀ j, (listed.setIfInBounds i true).getD j false = true ↔ (j = i \/ listed.getD j false = true) := by
        intro j
        rw [hset j]
        unfold Zg
        by_cases e : j = i <;> simp [e]
      rw [hdst]
      refine ih (listed.setIfInBounds i true) (Zg f i v) _ w' (by simp [hsz]) ?_ ?_ ?_ (by rw [show (fun j => (listed.setIfInBounds i true).getD j false) = Zg (fun j => listed.getD j false) i true from funext hset]; exact hR3) ?_
      . have hc2 : (listed.setIfInBounds i true).toList.countP (fun b => !b) + 1 <= listed.toList.countP (fun b => !b) := by
          rw [Array.toList_setIfInBounds]
          have hlen : i < listed.toList.length := by simpa [hsz] using his
          have hli : listed.toList[i] = false := by
            rw [Array.getD_eq_getD_getElem?, Array.getElem?_eq_getElem (by omega)] at h0
            simpa using h0
          rw [List.countP_set hlen, hli]
          have : 0 < listed.toList.countP (fun b => !b) := List.countP_pos_iff.2 ⟨false, by rw [<- hli]; exact List.getElem_mem _, rfl⟩
          simp only [Bool.not_false, Bool.not_true, if_true, Bool.false_eq_true, if_false]
          omega
        omega
      . intro j hj k hk
        rw [hset'] at hj ⊢
        rcases hj with rfl | hj
        . rw [Y7 hoi] at hk
          exact .inr (hdl k hk)
        . exact .inr (hcl j hj k hk)
      . exact hag.step ho i v hset' (fun j hji _ => by simp [Zg, hji]) (by simp [Zg])
      . intro j hj
        rw [hset'] at hj
        by_cases e : j = i
        . subst e
          rw [Y7 hoi]
          exact hR2
        . have hjl := hj.resolve_left e
          have hnc : (j :: QY md ops j).contains i = false := by
            rw [<- Bool.not_eq_true, List.contains_iff_mem, List.mem_cons]
            rintro (h | h)
            . exact e h.symm
            . exact hun (hcl j hjl i h)
          rw [KE hnc]
          exact hF i _ w w' j _ hR1 e (fun h => hun (hcl j hjl i h)) (hf j hjl)
end
end Go.Proofs.YtbiboamaigedjaaDoor
namespace Go.Proofs.YtbiboamaigedjaaDoor
open Go.RowKit
set_option linter.unusedVariables false
set_option linter.constructorNameAsVariable false
set_option linter.unusedSimpArgs false

mutual
/-- It does not name k. -/
def SV.av (k : Nat) : SV -> Bool
  | .p j _ => !Nat.beq j k
  | .x j _ _ _ => !Nat.beq j k
  | .q j _ => !Nat.beq j k
  | .y j _ _ _ => !Nat.beq j k
  | .z j _ _ _ => !Nat.beq j k
  | .r j _ _ _ => !Nat.beq j k
  | .t l => G8 k l
  | .g l => G8 k l
  | .f _ l => G8 k l
  | .w _ _ x => x.av k
  | .v _ => true
  | .i _ _ => true
  | .lit _ _ => true
  | .c _ _ => true
  | .l _ => true
  | .s _ => true
  | .o _ _ _ => true
  | .a _ _ _ => true
  | .u => true
def G8 (k : Nat) : List SV -> Bool
  | [] => true
  | x :: l => match x.av k with
    | true => G8 k l
    | false => false
end
/-- The same but at k. -/
def Qy.but (k : Nat) (ρ ρ' : Qy) : Prop := ∀ j, j ≠ k -> ρ.b j = ρ'.b j /\ ρ.d j = ρ'.d j
theorem K9 {j k : Nat} (h : (!Nat.beq j k) = true) : j ≠ k := by
  intro e; subst e; simp at h
mutual
theorem SV.den_but {k : Nat} {ρ ρ' : Qy} (h : Qy.but k ρ ρ') : ∀ x : SV, x.av k = true -> x.den ρ = x.den ρ'
  | .v x, _ => by simp only [SV.den]
  | .i K n, _ => by simp only [SV.den]
  | .lit K c, _ => by simp only [SV.den]
  | .c p d, _ => by simp only [SV.den]
  | .l b, _ => by simp only [SV.den]
  | .s x, _ => by simp only [SV.den]
  | .p j o, hw => by have := (h j (K9 (by simpa only [SV.av] using hw))).1; simp only [SV.den, this]
  | .o _ _ _, _ => by simp only [SV.den]
  | .x j o s n, hw => by have := (h j (K9 (by simpa only [SV.av] using hw))).1; simp only [SV.den, this]
  | .q j o, hw => by have := (h j (K9 (by simpa only [SV.av] using hw))).2; simp only [SV.den, this]
  | .y j _ _ _, hw => by have := (h j (K9 (by simpa only [SV.av] using hw))).1; simp only [SV.den, this]
  | .z j _ _ _, hw => by have := (h j (K9 (by simpa only [SV.av] using hw))).2; simp only [SV.den, this]
  | .r j _ _ _, hw => by have := (h j (K9 (by simpa only [SV.av] using hw))).2; simp only [SV.den, this]
  | .t l, hw => by simp only [SV.den, JY h l (by simpa only [SV.av] using hw)]
  | .g l, hw => by simp only [SV.den, V0 h l (by simpa only [SV.av] using hw)]
  | .a K zs _, _ => by simp only [SV.den]
  | .f F l, hw => by simp only [SV.den, JY h l (by simpa only [SV.av] using hw)]
  | .w p d x, hw => by
    have := SV.den_but h x (by simpa only [SV.av] using hw)
    cases d with
    | isTrue hp => simp only [SV.den, this]
    | isFalse hp => simp only [SV.den]
  | .u, _ => by simp only [SV.den]
theorem JY {k : Nat} {ρ ρ' : Qy} (h : Qy.but k ρ ρ') : ∀ l : List SV, G8 k l = true -> Qt ρ l = Qt ρ' l
  | [], _ => by simp only [Qt]
  | x :: l, hw => by
    unfold G8 at hw
    split at hw
    . rename_i hx
      simp only [Qt, SV.den_but h x hx, JY h l hw]
    . cases hw
theorem V0 {k : Nat} {ρ ρ' : Qy} (h : Qy.but k ρ ρ') : ∀ l : List SV, G8 k l = true -> Qg ρ l = Qg ρ' l
  | [], _ => by simp only [Qg]
  | x :: l, hw => by
    unfold G8 at hw
    split at hw
    . rename_i hx
      simp only [Qg, SV.den_but h x hx, V0 h l hw]
    . cases hw
end
def YL (k : Nat) (c : Cl) : SM -> SM
  | [] => [(k, c)]
  | (j, x) :: l => match Nat.beq j k with
    | true => (j, c) :: l
    | false => (j, x) :: YL k c l
def QbR {α : Type} (k : Nat) (c : Cl) : SM -> (SM -> α) -> α
  | [], K => K [(k, c)]
  | (j, x) :: l, K => match Nat.beq j k with
    | true => K ((j, c) :: l)
    | false => QbR k c l fun l' => K ((j, x) :: l')
theorem Gq {α : Type} {k : Nat} {c : Cl} : ∀ {m : SM} {K : SM -> α}, QbR k c m K = K (YL k c m)
  | [], K => rfl
  | (j, x) :: l, K => by
    unfold QbR YL
    cases hk : Nat.beq j k with
    | true => rfl
    | false => exact Gq
theorem Xj (k : Nat) : Nat.beq k k = true := Nat.beq_refl k
theorem Q3 {j k : Nat} (h : j ≠ k) : Nat.beq j k = false := by
  cases e : Nat.beq j k with
  | false => rfl
  | true => exact absurd (Nat.eq_of_beq_eq_true e) h
theorem J7 {k : Nat} {c : Cl} : ∀ {m : SM} {q : Nat}, Xr (YL k c m) q = if q = k then some c else Xr m q
  | [], q => by
    unfold YL Xr
    by_cases h : q = k
    . subst h; rw [Xj, if_pos rfl]
    . rw [Q3 (fun e => h e.symm), if_neg h]
      rfl
  | (j, x) :: l, q => by
    unfold YL
    cases hk : Nat.beq j k with
    | true =>
      have e := Nat.eq_of_beq_eq_true hk
      subst e
      by_cases h : q = j
      . subst h; simp only [Xr, Xj, if_true]
      . simp only [Xr, Q3 (fun e => h e.symm), if_neg h]
    | false =>
      have hne := Nat.ne_of_beq_eq_false hk
      by_cases h : q = j
      . subst h; simp only [Xr, Xj]; rw [if_neg hne]
      . simp only [Xr, Q3 (fun e => h e.symm)]; exact J7
theorem KH {k : Nat} {c : Cl} : ∀ {m : SM}, (m.map Prod.fst).Nodup -> ((YL k c m).map Prod.fst).Nodup /\ ∀ q, q ∈ (YL k c m).map Prod.fst -> q = k \/ q ∈ m.map Prod.fst
  | [], _ => by simp [YL]
  | (j, x) :: l, h => by
    simp only [List.map_cons, List.nodup_cons] at h
    unfold YL
    cases hk : Nat.beq j k with
    | true => exact ⟨by simp only [List.map_cons, List.nodup_cons]; exact h, fun q hq => .inr hq⟩
    | false =>
      obtain ⟨h1, h2⟩ := KH (k := k) (c := c) h.2
      simp only [List.map_cons, List.nodup_cons]
      refine ⟨⟨fun hm => ?_, h1⟩, fun q hq => ?_⟩
      . rcases h2 j hm with e | e
        . exact Nat.ne_of_beq_eq_false hk e
        . exact h.1 e
      . cases hq with
        | head => exact .inr (.head _)
        | tail _ hq => exact (h2 q hq).imp id fun e => .tail _ e
theorem X0 : ∀ {m : SM} {k : Nat} {c : Cl}, (m.map Prod.fst).Nodup -> (k, c) ∈ m -> Xr m k = some c
  | [], _, _, _, h => by cases h
  | (j, x) :: l, k, c, hn, h => by
    simp only [List.map_cons, List.nodup_cons] at hn
    cases h with
    | head => simp only [Xr, Xj]
    | tail _ h =>
      have : j ≠ k := fun e => hn.1 (e ▸ List.mem_map.2 ⟨(k, c), h, rfl⟩)
      simp only [Xr, Q3 this]
      exact X0 hn.2 h
theorem DE {ρ : Qy} {m : SM} {L0 : List Nat} {x : Nat} (hn : (m.map Prod.fst).Nodup) : x ∈ Xx ρ m L0 ↔ (∃ k c, Xr m k = some c /\ ρ.b k = x) \/ x ∈ L0 := by
  unfold Xx
  rw [List.mem_append, List.mem_map]
  refine or_congr ⟨fun ⟨y, hy, e⟩ => ⟨y.1, y.2, X0 hn hy, e⟩, fun ⟨k, c, hk, e⟩ => ⟨(k, c), XK hk, e⟩⟩ Iff.rfl
section
variable {ρ : Qy} {L0 : List Nat} {w0 w : World} {m m2 : SM} {d : SD} {n : Nat} {Γ : List Qv}
theorem GF {m : SM} (h1 : (m.map Prod.fst).Nodup) (h2 : ∀ k c k' c', Xr m k = some c -> Xr m k' = some c' -> k ≠ k' -> ρ.b k ≠ ρ.b k') : (m.map fun x => ρ.b x.1).Nodup := by
  have : (m.map fun x => ρ.b x.1) = (m.map Prod.fst).map ρ.b := by simp
  rw [this]
  refine List.pairwise_map.2 (h1.imp_of_mem fun {a b} ha hb hne => ?_)
  obtain ⟨x, hx, rfl⟩ := List.mem_map.1 ha
  obtain ⟨y, hy, rfl⟩ := List.mem_map.1 hb
  exact h2 _ _ _ _ (X0 h1 hx) (X0 h1 hy) hne
theorem WM.inj (h : WM ρ L0 w0 m d n Γ w) {k k' : Nat} {c c' : Cl} (hk : Xr m k = some c) (hk' : Xr m k' = some c') (hn : k ≠ k') : ρ.b k ≠ ρ.b k' := VK (x := (k, c)) (y := (k', c')) h.nod (XK hk) (XK hk') hn
/-- The Xx blocks in another order. -/
theorem WM.ext (h : WM ρ L0 w0 m d n Γ w) (he : ∀ k, Xr m2 k = Xr m k) (hn : (m2.map Prod.fst).Nodup) : WM ρ L0 w0 m2 d n Γ w := by
  have h1 := Xn h.nod
  have hown : ∀ x, x ∈ Xx ρ m2 L0 ↔ x ∈ Xx ρ m L0 := fun x => by rw [DE hn, DE h1]; simp only [he]
  have hmem : ∀ x ∈ m2, x ∈ m := fun x hx => XK (by rw [<- he]; exact X0 hn hx)
  exact ⟨fun x hx => h.mem x (hmem x hx), fun x hx => h.key x (hmem x hx), GF hn fun k c k' c' hk hk' hne => h.inj (by rw [<- he]; exact hk) (by rw [<- he]; exact hk') hne, fun x hx => h.low x (hmem x hx), h.bel, fun x hx => ⟨fun hx' => (h.dat x hx).1 ((hown _).1 hx'), (h.dat x hx).2⟩, h.dky, h.ll, h.hs.stp (Stp.refl _ _) fun x hx => .inl ((hown x).1 hx)⟩
theorem KG {k : Nat} {c c' : Cl} : ∀ {m : SM}, Xr m k = some c -> Vn k c' m = YL k c' m
  | [], h => by cases h
  | (j, x) :: l, h => by
    unfold Xr at h
    unfold Vn YL
    cases hk : Nat.beq j k with
    | true => rfl
    | false => rw [hk] at h; simp only; rw [KG h]
end
/-- What an operation of a drawn region does to Xx blocks. -/
inductive Ef where
  | no
  | wr (k : Nat) (c : Cl)
def QK : List Ef -> SM -> SM
  | [], m => m
  | .no :: l, m => QK l m
  | .wr k c :: l, m => QK l (YL k c m)
def XT (L : Nat -> Bool) : Nat -> List Ef -> List Ef
  | _, [] => []
  | k, e :: l => (match L k with
    | true => e
    | false => .no) :: XT L (k + 1) l
def Ef.on (q : Nat) : Ef -> Bool
  | .no => false
  | .wr k _ => Nat.beq k q
theorem XW : ∀ {l : List Ef} {m : SM}, (m.map Prod.fst).Nodup -> ((QK l m).map Prod.fst).Nodup
  | [], _, h => h
  | .no :: l, m, h => XW (l := l) h
  | .wr k c :: l, m, h => XW (l := l) (KH h).1
/-- The last that was written to q. -/
def Zv (q : Nat) : List Ef -> Option Cl -> Option Cl
  | [], c => c
  | .no :: l, c => Zv q l c
  | .wr k x :: l, c => Zv q l (if q = k then some x else c)
theorem Xi {q : Nat} : ∀ {l : List Ef} {m : SM}, Xr (QK l m) q = Zv q l (Xr m q)
  | [], m => rfl
  | .no :: l, m => Xi (l := l)
  | .wr k c :: l, m => by
    show Xr (QK l (YL k c m)) q = Zv q l (if q = k then some c else Xr m q)
    rw [Xi (l := l), J7]
theorem Zi {q : Nat} : ∀ {l : List Ef} {c : Option Cl}, (∀ e ∈ l, e.on q = false) -> Zv q l c = c
  | [], _, _ => rfl
  | .no :: l, c, h => Zi (l := l) fun e he => h e (.tail _ he)
  | .wr k x :: l, c, h => by
    have := h _ (.head _)
    simp only [Ef.on] at this
    show Zv q l (if q = k then some x else c) = c
    rw [if_neg (fun e => Nat.ne_of_beq_eq_false this e.symm)]
    exact Zi fun e he => h e (.tail _ he)
theorem Q7 {L : Nat -> Bool} : ∀ {l : List Ef} {k i : Nat}, (XT L k l)[i]? = (l[i]?).map fun e => match L (k + i) with
    | true => e
    | false => .no
  | [], k, i => by simp [XT]
  | e :: l, k, 0 => by simp only [XT, List.getElem?_cons_zero, Nat.add_zero, Option.map_some]
  | e :: l, k, i + 1 => by simp only [XT, List.getElem?_cons_succ]; rw [Q7 (l := l), show k + 1 + i = k + (i + 1) by omega]
/-- What two runs of effects leave at q, where they agree on those that touch it. -/
theorem Zu {q : Nat} : ∀ {l l' : List Ef} {c : Option Cl}, (∀ i : Nat, (l[i]?.map (Ef.on q)).getD false = (l'[i]?.map (Ef.on q)).getD false) -> (∀ (i : Nat) (e e' : Ef), l[i]? = some e -> l'[i]? = some e' -> Ef.on q e = true -> e = e') -> Zv q l c = Zv q l' c
  | [], l', c, h, _ => by
    rw [Zi (l := l') fun e he => ?_]
    . rfl
    . obtain ⟨i, hi⟩ := List.mem_iff_getElem?.1 he
      have := h i
      rw [hi] at this
      simpa using this.symm
  | l, [], c, h, _ => by
    rw [Zi (l := l) fun e he => ?_]
    . rfl
    . obtain ⟨i, hi⟩ := List.mem_iff_getElem?.1 he
      have := h i
      rw [hi] at this
      simpa using this
  | e :: l, e' :: l', c, h, he => by
    have h0 := h 0
    simp only [List.getElem?_cons_zero, Option.map_some, Option.getD_some] at h0
    have ih : ∀ c, Zv q l c = Zv q l' c := fun c => Zu (fun i => by simpa using h (i + 1)) fun i a b ha hb => he (i + 1) a b (by simpa using ha) (by simpa using hb)
    have one : ∀ (e : Ef) (l : List Ef), e.on q = false -> Zv q (e :: l) c = Zv q l c := fun e l h => by
      cases e with
      | no => rfl
      | wr k x =>
        simp only [Ef.on] at h
        show Zv q l (if q = k then some x else c) = _
        rw [if_neg (fun e => Nat.ne_of_beq_eq_false h e.symm)]
    cases ho : e.on q with
    | false => rw [one e l ho, one e' l' (by rw [<- h0]; exact ho)]; exact ih c
    | true =>
      have := he 0 e e' rfl rfl ho
      subst this
      cases e with
      | no => cases ho
      | wr k x => exact ih _
end Go.Proofs.YtbiboamaigedjaaDoor
namespace Go.Proofs.YtbiboamaigedjaaDoor
open Go.RowKit
set_option linter.unusedVariables false
set_option linter.constructorNameAsVariable false
set_option linter.unusedSimpArgs false

/-- A function of values: what it gives, where G holds. -/
structure PV (P : Program) (G : List Qv) (F : FuncId) (args : List SV) (v : SV) : Prop where
  fn : ∃ fn, P.funcs[F]? = some fn /\ (fn.name == "runtime.NumGoroutine") = false /\ fn.body.isNone = false
  wa : ZL 0 args = true
  wv : v.wf 0 = true
  h : ∀ w L, LL L w -> Hs G L w -> CX P F (Qt Qu args) w L (fun _ : Unit => v) (fun _ => []) (fun _ => True)
theorem PV.mk' {P : Program} {G : List Qv} {F : FuncId} {args : List SV} {v : SV} {fn : Func} (hf : P.funcs[F]? = some fn) (hn : (fn.name == "runtime.NumGoroutine") = false) (hb : fn.body.isNone = false) (wa : ZL 0 args = true) (wv : v.wf 0 = true) (h : ∀ w L, LL L w -> Hs G L w -> CX P F (Qt Qu args) w L (fun _ : Unit => v) (fun _ => []) (fun _ => True)) : PV P G F args v := ⟨⟨fn, hf, hn, hb⟩, wa, wv, h⟩
theorem VZ {l : List SV} (h : ZL 0 l = true) (ρ ρ' : Qy) : Qt ρ l = Qt ρ' l := Y8 (fun k hk => absurd hk (Nat.not_lt_zero k)) l h
theorem PV.at {P : Program} {G : List Qv} {F : FuncId} {args : List SV} {v : SV} (h : PV P G F args v) (ρ : Qy) {w : World} {L : List Nat} (hL : LL L w) (hG : Hs G L w) : CX P F (Qt ρ args) w L (fun _ : Unit => v) (fun _ => []) (fun _ => True) := by
  rw [VZ h.wa ρ Qu]
  exact h.h w L hL hG
/-- A block that stays, off all that is one's Xx. -/
def fG (B : Nat) (cs : List Value) : Qv := ⟨fun L w => B ∉ L /\ B < w.heap.size /\ w.rangeAt B 0 cs, fun {L L' w w'} h hs hl => ⟨fun hx => by
  rcases hl B hx with h1 | h1
  . exact h.1 h1
  . have := h.2.1; omega, Nat.lt_of_lt_of_le h.2.1 hs.size, ZF h.2.2 hs.agree h.1⟩⟩
/-- What a load of a block that stays gives. -/
structure GL (P : Program) (G : List Qv) (t g : Nat) (v : SV) : Prop where
  wv : v.wf 0 = true
  h : ∀ w L, LL L w -> Hs G L w -> ∀ (ops : Array Oper) (o : Oper) (N : Nat) (fl : Fl), o.op = .load t (.global g) -> Qj ops o fl = some true -> DV P ops o N fl w (v.den Qu)
theorem GL.of {P : Program} {T : TT} (hT : T.ok P = true) {G : List Qv} {t g : Nat} {v : SV} (cs : List SV) (hf : ∀ L w, Hs G L w -> g ∉ L /\ w.rangeAt g 0 (Qg Qu cs)) (hl : JI T [] [(0, cs)] [] t (.q 0 0) = some (v, [])) (hok : X3 cs) (hw : ZL 0 cs = true) (h0 : 0 < X2 cs) (wv : v.wf 0 = true) : GL P G t g v :=
  ⟨wv, fun w L hL hG ops o N fl ho hq => by
    have h1 := hf L w hG
    have e : Qg (Qu.setd 0 (g, 0)) cs = Qg Qu cs := Q1 (fun k hk => absurd hk (Nat.not_lt_zero k)) cs hw
    have hW : WM (Qu.setd 0 (g, 0)) L w [] [(0, cs)] 1 [] w := ⟨fun x hx => (by cases hx), fun x hx => (by cases hx), List.nodup_nil, fun x hx => (by cases hx), Below.refl _ _, fun x hx => (by
      cases hx with
      | head => exact ⟨h1.1, by rw [e]; exact h1.2, hok, h0⟩
      | tail _ hx => cases hx), fun x hx => (by
      cases hx with
      | head => exact Nat.zero_lt_one
      | tail _ hx => cases hx), hL, trivial⟩
    have := (JH (N := N) hT hW hq ho (show ev fl (.global g) = some ((SV.q 0 0).den (Qu.setd 0 (g, 0))) from by simp only [SV.den]; rfl) hl trivial).2
    have e2 : v.den (Qu.setd 0 (g, 0)) = v.den Qu := X1 wv _ _
    unfold Yl at this
    rw [e2] at this
    exact this⟩
/-- A function of values and of what some blocks hold. -/
structure PR (P : Program) (G : List Qv) (F : FuncId) (args : List SV) (mc : SM) (v : SV) : Prop where
  fn : ∃ fn, P.funcs[F]? = some fn /\ (fn.name == "runtime.NumGoroutine") = false /\ fn.body.isNone = false
  wv : v.wf 0 = true
  h : ∀ ρ w, (∃ L, Hs G L w) -> (∀ x ∈ mc, X8 w (ρ.b x.1) (Qg ρ x.2) /\ X3 x.2) -> CX P F (Qt ρ args) w [] (fun _ : Unit => v) (fun _ => []) (fun _ => True)
def Qdx (m : SM) : List Nat -> Option SM
  | [] => some []
  | k :: l => match Xr m k with
    | some c => match Qdx m l with
      | some r => some ((k, c) :: r)
      | none => none
    | none => none
theorem U8 {m : SM} : ∀ {l : List Nat} {r : SM}, Qdx m l = some r -> ∀ x ∈ r, x.1 ∈ l /\ Xr m x.1 = some x.2
  | [], r, h, x, hx => by cases h; cases hx
  | k :: l, r, h, x, hx => by
    unfold Qdx at h
    split at h
    . rename_i c hk
      split at h
      . rename_i r' hr
        cases h
        cases hx with
        | head => exact ⟨.head _, hk⟩
        | tail _ hx => exact ⟨.tail _ (U8 hr x hx).1, (U8 hr x hx).2⟩
      . cases h
    . cases h
theorem CX.any {P : Program} {F : FuncId} {args : List Value} {w : World} {L L' : List Nat} {v : SV} (h : CX P F args w L (fun _ : Unit => v) (fun _ => []) (fun _ => True)) : CX P F args w L' (fun _ : Unit => v) (fun _ => []) (fun _ => True) := h
theorem K5 {P : Program} {ops : Array Oper} {o : Oper} {N : Nat} {f : Fl} {w : World} {F : FuncId} {xs : List Operand} {ts : Array TypeId} {vs : List Value} {v : Value} {g : Operand} (ho : o.op = .call { callee := .value g, args := xs.toArray, argTypes := ts }) (hcv : ev f g = some (.func (.func F) #[] #[])) (hx : evl f xs = some vs) (hr : (callFunc F vs.toArray).run P w = .ok (.value v) w) (hw : Qj ops o f = some true) : DV P ops o N f w v := fun a ha => by
  have he := FG (ha.evl hx)
  have hc' := ha.ev hcv
  refine Qi.pure (Qe ha hw) _ ?_ ⟨rfl, rfl⟩
  unfold execOp
  simp only [ho, resolve, he, hc', Deferred.ofValue, Sem.run_bind, Sem.run_pure, Result.andThen_ok, invoke, Array.empty_append, Array.append_empty]
  rw [hr]
/-- A function without a body, of values. -/
structure PE (P : Program) (F : FuncId) (args : List SV) (v : SV) : Prop where
  wa : ZL 0 args = true
  wv : v.wf 0 = true
  h : ∀ w, (callFunc F (Qt Qu args).toArray).run P w = .ok (.value (v.den Qu)) w
def lkX : List Nat -> Nat -> Bool
  | [], _ => false
  | k :: l, i => match Nat.beq k i with
    | true => true
    | false => lkX l i
/-- The table, with what calls are known to give. -/
def TT.wo (T : TT) (P : Program) (G : List Qv) (pv : List (Nat × SV)) (rk : List (Nat × List Nat) := []) (xk : List Nat := []) : TT := { T with pq := PV P G, pl := GL P G, pv := pv, pr := PR P G, rk := rk, px := PE P, xk := xk }
def lkR : List (Nat × List Nat) -> Nat -> List Nat
  | [], _ => []
  | (k, x) :: l, i => match Nat.beq k i with
    | true => x
    | false => lkR l i
def lkP : List (Nat × SV) -> Nat -> Option SV
  | [], _ => none
  | (k, x) :: l, i => match Nat.beq k i with
    | true => some x
    | false => lkP l i
/-- What an operation yields that writes nothing. -/
def F8 (T : TT) (md : Bool) (f : SF) (m : SM) (d : SD) (acc : List Prop) : Op -> Option (SV × List Prop)
  | .load t x => match Z6 f x with
    | some sx => JI T m d acc t sx
    | none => none
  | .indexAddr t x y => QeY T f acc t x y
  | .index t x y => ixO T f acc t x y
  | .makeFunc fn first caps => Qe2 f acc fn first caps
  | .build t ps => G5 T f acc t ps
  | .slice t x lo hi none => Qeb T f acc t x lo hi
  | .sliceToArrayPointer t x => Qee T f acc t x
  | .move x => match Z6 f x with
    | some v => some (v, acc)
    | none => none
  | .assign x => match Z6 f x with
    | some v => some (v, acc)
    | none => none
  | op => HU T md (fun x => unN (Z6 f x)) acc op
def Qb5 (f : SF) : Op -> Option Nat
  | .load _ x => match Z6 f x with
    | some sx => VT sx
    | none => none
  | _ => none
theorem Fx {T : TT} {m m' : SM} {d : SD} {acc : List Prop} {t : Nat} {x : SV} (h : ∀ k, VT x = some k -> Xr m k = Xr m' k) : JI T m d acc t x = JI T m' d acc t x := by
  have hn : GE m d x = GE m' d x := by
    cases x
    case x k o s n => have := h k rfl; simp only [GE, this]
    all_goals rfl
  unfold JI
  rw [hn]
  have hk : ∀ k, VT (GE m' d x) = some k -> Xr m k = Xr m' k := fun k e => by
    refine h k ?_
    rw [<- e]
    unfold GE
    split
    . split
      . exact GC.symm
      . rfl
    . split
      . exact GC.symm
      . rfl
    . rfl
  generalize GE m' d x = y at hk
  cases y
  case p k o => have := hk k rfl; simp only [Up, Dg, Qbj, this]
  case x k o s n => have := hk k rfl; simp only [Up, Dg, Qbj, this]
  all_goals simp only [Up, Dg, Qbj]
theorem F7 {T : TT} {md : Bool} {f : SF} {m m' : SM} {d : SD} {acc : List Prop} {op : Op} (h : ∀ k, Qb5 f op = some k -> Xr m k = Xr m' k) : F8 T md f m d acc op = F8 T md f m' d acc op := by
  cases op
  case load t x =>
    simp only [F8]
    split
    . rename_i sx hx
      exact Fx fun k hk => h k (by simp only [Qb5, hx]; exact hk)
    . rfl
  case slice t x lo hi mx => cases mx <;> rfl
  all_goals rfl
section
variable {P : Program} {ops : Array Oper} {o : Oper} {N : Nat} {w w0 : World} {ρ : Qy} {T : TT} {acc acc' : List Prop} {L0 : List Nat} {m m' : SM} {d : SD} {n n' : Nat} {Γ : List Qv} {f : SF} {md : Bool}
theorem Qd0 (hT : T.ok P = true) (hW : WM ρ L0 w0 m d n Γ w) (hw : Qj ops o (Qr ρ f) = some true) {v : SV} (h : F8 T md f m d acc o.op = some (v, acc')) (hc : QP acc') : Yl P ops o N ρ (Qr ρ f) w v := by
  generalize hq : o.op = q at h
  unfold F8 at h
  split at h
  . split at h
    . rename_i sx hx
      exact (JH hT hW hw hq (Qp hx) h hc).2
    . cases h
  . exact (DY (N := N) (w := w) hT hw hq h hc).2
  . exact (Qc0 (N := N) (w := w) hT hw hq h hc).2
  . exact (D0 (P := P) (N := N) (w := w) hw hq h hc).2
  . exact (K8 (N := N) (w := w) hT hw hq h hc).2
  . exact (Dp (N := N) (w := w) hT hw hq h hc).2
  . exact (Dt (N := N) (w := w) hT hw hq h hc).2
  . split at h
    . rename_i v1 hx
      cases h
      exact GU hq (Qp hx) hw
    . cases h
  . split at h
    . rename_i v1 hx
      cases h
      exact Ut hq (Qp hx) hw
    . cases h
  . rw [<- hq] at h
    exact (Js (N := N) (w := w) hT (fun hx => Jm hx) hw h hc).2
end
abbrev VR := List (Nat × Option Nat × SV)
def YB : VR -> Nat -> Option (Option Nat × SV)
  | [], _ => none
  | (k, x) :: l, i => match Nat.beq k i with
    | true => some x
    | false => YB l i
def YA (V : VR) : List Nat -> SF -> Option SF
  | [], f => some f
  | i :: l, f => match YB V i with
    | some (some t, v) => YA V l ((t, v) :: f)
    | some (none, _) => YA V l f
    | none => none
def ZG : List (Nat × Nat) -> Nat -> Nat
  | [], _ => 0
  | (k, x) :: l, i => match Nat.beq k i with
    | true => x
    | false => ZG l i
def ZJ (A : List (Nat × Nat)) : List Nat -> Nat -> Nat
  | [], a => a
  | i :: l, a => ZJ A l (Nat.lor a (Nat.lor (Nat.pow 2 i) (ZG A i)))
def tb (m i : Nat) : Bool := Nat.beq (Nat.mod (Nat.div m (Nat.pow 2 i)) 2) 1
theorem Hu (m i : Nat) : tb m i = Nat.testBit m i := by
  rw [Nat.testBit_eq_decide_div_mod_eq]
  unfold tb
  show Nat.beq (m / 2 ^ i % 2) 1 = _
  by_cases h : m / 2 ^ i % 2 = 1
  . rw [h]; rfl
  . rw [Q3 h, decide_eq_false h]
theorem Dm (i : Nat) : tb 0 i = false := by rw [Hu]; simp
theorem QfG (a b i : Nat) : tb (Nat.lor a b) i = (tb a i || tb b i) := by
  rw [Hu, Hu, Hu]; exact Nat.testBit_or a b i
theorem Qf8 (a i : Nat) : tb (Nat.pow 2 a) i = decide (a = i) := by
  rw [Hu]; exact Nat.testBit_two_pow
theorem Kb {A : List (Nat × Nat)} {q : Nat} : ∀ {l : List Nat} {a : Nat}, tb (ZJ A l a) q = true -> tb a q = true \/ ∃ i ∈ l, i = q \/ tb (ZG A i) q = true
  | [], a, h => .inl h
  | i :: l, a, h => by
    unfold ZJ at h
    rcases Kb h with h1 | ⟨k, hk, h1⟩
    . rw [QfG, QfG, Qf8, Bool.or_eq_true, Bool.or_eq_true, decide_eq_true_eq] at h1
      rcases h1 with h1 | h1 | h1
      . exact .inl h1
      . exact .inr ⟨i, .head _, .inl h1⟩
      . exact .inr ⟨i, .head _, .inr h1⟩
    . exact .inr ⟨k, .tail _ hk, h1⟩
theorem E2 {T : TT} {f : SF} {m m' : SM} {acc : List Prop} {t : Nat} {x y : Operand} {r : Nat × Cl × Nat × Nat × List Prop} (hr : GZ T f m' acc t x y = some r) (h : ∀ k, k ∈ [r.1, r.2.2.2.1] -> Xr m k = Xr m' k) : GZ T f m acc t x y = GZ T f m' acc t x y := by
  have hr' := hr
  unfold GZ at hr ⊢
  split at hr
  . cases hr
  . split at hr
    . cases hr
    . split at hr
      . cases hr
      . split at hr
        . cases hr
        . split at hr
          . rename_i k1 o1 l c1 hx
            split at hr
            . rename_i k2 o2 l' c2 hy
              split at hr
              . rename_i K zs n hk1
                split at hr
                . rename_i K' ys n' hk2
                  simp only [Option.some.injEq] at hr
                  subst hr
                  have e1 := h k1 (.head _)
                  have e2 := h k2 (.tail _ (.head _))
                  rw [e1, e2]
                  simp only [hk1, hk2]
                . cases hr
              . cases hr
            . cases hr
          . cases hr
def QeC : Option Nat -> List Nat
  | none => []
  | some q => [q]
theorem Qcu {x : Option Nat} {q : Nat} : q ∈ QeC x ↔ x = some q := by
  cases x with
  | none => simp [QeC]
  | some y => simp [QeC]; exact eq_comm
def drS (T : TT) (md : Bool) (f : SF) (m : SM) (d : SD) (n k j : Nat) (sv : SV) (o : Oper) : Option (SV × Ef × List Prop × List Nat) := match Nat.beq k j with
  | true => some (sv, .no, [], [])
  | false => match lkP T.pv k with
    | some v => match o.op with
      | .call { callee := .value g, args := ⟨xs⟩, argTypes := _ } => match Z6 f g with
        | some (.f F caps) => match GP f xs with
          | some vs => match lkX T.xk k with
            | true => match caps with
              | [] => some (v, .no, [T.px F vs v], [])
              | _ => none
            | false => match lkR T.rk k with
              | [] => some (v, .no, [T.pq F (vs ++ caps) v], [])
              | q :: l => match Qdx m (q :: l) with
                | some mc => some (v, .no, [T.pr F (vs ++ caps) mc v], q :: l)
                | none => none
          | none => none
        | _ => none
      | .load t (.global g) => some (v, .no, [T.pl t g v], [])
      | _ => none
    | none => match o.op with
      | .store t px pv => match o.dst with
        | some _ => none
        | none => match Z6 f px with
          | some sx => match VT sx with
            | some q => match Xr m q with
              | some c => match Z6 f pv with
                | some v => match Ei T [] t sx v c with
                  | some (c', cs) => some (.u, .wr q c', cs, [q])
                  | none => none
                | none => none
              | none => none
            | none => none
          | none => none
      | .box _ x => match Z6 f x with
        | some sx => match Yt [] sx with
          | some (c, cs) => some (.p (Nat.add n k) 0, .wr (Nat.add n k) c, cs, [])
          | none => none
        | none => none
      | .alloc t => match T.get t with
        | some i => match i.z with
          | some c => some (.p (Nat.add n k) 0, .wr (Nat.add n k) c, [], [])
          | none => none
        | none => none
      | .buildSlice t len ⟨ps⟩ => match QeT T f [] t len ps with
        | some (c, cs) => some (.y (Nat.add n k) 0 len len, .wr (Nat.add n k) c, cs, [])
        | none => none
      | .call { callee := .builtin .copy, args := ⟨[x, y]⟩, argTypes := ⟨[t, _]⟩ } => match GZ T f m [] t x y with
        | some (q, c', z, q', cs) => some (.i .i64 (z : Int), .wr q c', cs, [q, q'])
        | none => none
      | op => match F8 T md f m d [] op with
        | some (v, cs) => some (v, .no, cs, QeC (Qb5 f op))
        | none => none
def Qhw {α : Type} (e : Ef) (m : SM) (K : SM -> α) : α := match e with
  | .no => K m
  | .wr k c => QbR k c m K
theorem Dq {α : Type} {e : Ef} {m : SM} {K : SM -> α} : Qhw e m K = K (QK [e] m) := by
  cases e with
  | no => rfl
  | wr k c => exact Gq
theorem JQ {e : Ef} {l : List Ef} {m : SM} : QK (e :: l) m = QK l (QK [e] m) := by cases e <;> rfl
def okD (N : Nat) (o : Oper) : Bool := match o.dst with
  | some t => Nat.blt t N
  | none => QgK o.op
def FP : Nat -> List Nat -> List (Nat × Nat) -> List (Nat × Nat)
  | _, [], l => l
  | k, q :: r, l => (k, q) :: FP k r l
/-- An operation, where it is known whether it runs. -/
def drG (T : TT) (md : Bool) (ops : Array Oper) (f : SF) (m : SM) (d : SD) (n k j : Nat) (sv : SV) (o : Oper) : Option (SV × Ef × List Prop × List Nat) := match Vt ops o f with
  | some .on => drS T md f m d n k j sv o
  | some .off => match Nat.beq k j with
    | true => none
    | false => some (.u, .no, [], [])
  | _ => none
def drx (T : TT) (md : Bool) (N : Nat) (d : SD) (n j : Nat) (sv : SV) (f : SF) (ops : Array Oper) : List Oper -> Nat -> VR -> SM -> List (Nat × Nat) -> Option (VR × List Ef × List (Nat × Nat) × List Prop × List Prop × List (Nat × Nat))
  | [], _, V, _, A => some (V, [], A, [], [], [])
  | o :: os, k, V, m, A => match true with
    | false => none
    | true => match YA V (Qq .any o) f with
      | none => none
      | some fk => match drG T md ops fk m d n k j sv o with
        | none => none
        | some (v, e, cs, fp) => match okD N o with
          | false => none
          | true => Uq (ZJ A (Qq .any o) 0) fun a => Qhw e m fun m' => match drx T md N d n j sv f ops os (Nat.succ k) ((k, o.dst, v) :: V) m' ((k, a) :: A) with
            | none => none
            | some (Vf, es, Af, cA, cB, fps) => match tb a j with
              | true => some (Vf, e :: es, Af, cA, QP cs :: cB, FP k fp fps)
              | false => some (Vf, e :: es, Af, QP cs :: cA, cB, FP k fp fps)
/-- What is known of the operation at a place. -/
structure Sp (T : TT) (md : Bool) (N : Nat) (d : SD) (n j : Nat) (sv : SV) (f : SF) (ops : Array Oper) (V : VR) (E : List Ef) (A : List (Nat × Nat)) (cA cB : List Prop) (fps : List (Nat × Nat)) (m : SM) (k i : Nat) (o : Oper) : Prop where
  sp : ∃ fk v e cs fp, True /\ YA V (Qq .any o) f = some fk /\ YB V (k + i) = some (o.dst, v) /\ E[i]? = some e /\ drG T md ops fk (QK (E.take i) m) d n (k + i) j sv o = some (v, e, cs, fp) /\ okD N o = true /\ ZG A (k + i) = ZJ A (Qq .any o) 0 /\ (tb (ZG A (k + i)) j = false -> QP cA -> QP cs) /\ (tb (ZG A (k + i)) j = true -> QP cB -> QP cs) /\ ∀ q, q ∈ fp -> (k + i, q) ∈ fps
theorem Zk {k : Nat} {l : List (Nat × Nat)} : ∀ {fp : List Nat}, (∀ x ∈ l, x ∈ FP k fp l) /\ ∀ q, q ∈ fp -> (k, q) ∈ FP k fp l
  | [] => ⟨fun x hx => hx, fun q h => by cases h⟩
  | p :: r => ⟨fun x hx => .tail _ (Zk.1 x hx), fun q h => by
    cases h with
    | head => exact .head _
    | tail _ h => exact .tail _ (Zk.2 q h)⟩
theorem DP {V : VR} {k i : Nat} {x : Option Nat × SV} (h : i ≠ k) : YB ((k, x) :: V) i = YB V i := by
  simp only [YB, Q3 fun e => h e.symm]
theorem JW {T : TT} {md : Bool} {N : Nat} {d : SD} {n j : Nat} {sv : SV} {f : SF} {ops : Array Oper} : ∀ {os : List Oper} {k : Nat} {V Vf : VR} {m : SM} {A Af : List (Nat × Nat)} {es : List Ef} {cA cB : List Prop} {fps : List (Nat × Nat)}, drx T md N d n j sv f ops os k V m A = some (Vf, es, Af, cA, cB, fps) -> (∀ i, i < k -> YB Vf i = YB V i /\ ZG Af i = ZG A i) /\ es.length = os.length
  | [], k, V, Vf, m, A, Af, es, cA, cB, fps, h => by
    simp only [drx, Option.some.injEq, Prod.mk.injEq] at h
    obtain ⟨rfl, rfl, rfl, _⟩ := h
    exact ⟨fun i _ => ⟨rfl, rfl⟩, rfl⟩
  | o :: os, k, V, Vf, m, A, Af, es, cA, cB, fps, h => by
    unfold drx at h
    split at h
    . rename_i hbad; cases hbad
    . split at h
      . cases h
      . split at h
        . cases h
        . split at h
          . cases h
          . rw [XV, Dq] at h
            split at h
            . cases h
            . rename_i hr
              obtain ⟨g1, g2⟩ := JW hr
              have key : ∀ i, i < k -> YB Vf i = YB V i /\ ZG Af i = ZG A i -> YB Vf i = YB V i /\ ZG Af i = ZG A i := fun _ _ h => h
              split at h <;>
              . simp only [Option.some.injEq, Prod.mk.injEq] at h
                obtain ⟨rfl, rfl, rfl, _⟩ := h
                refine ⟨fun i hi => ?_, by simp only [List.length_cons, g2]⟩
                have := g1 i (Nat.lt_succ_of_lt hi)
                rw [DP (by omega)] at this
                simp only [ZG, Q3 (show k ≠ i by omega)] at this
                exact this
theorem JX {V V' : VR} : ∀ {l : List Nat} {f : SF}, (∀ i ∈ l, YB V' i = YB V i) -> YA V' l f = YA V l f
  | [], f, _ => rfl
  | i :: l, f, h => by
    have h0 := h i (.head _)
    have ih : ∀ f, YA V' l f = YA V l f := fun f => JX fun i hi => h i (.tail _ hi)
    unfold YA
    rw [h0]
    split <;> first | exact ih _ | rfl
theorem UK {A A' : List (Nat × Nat)} : ∀ {l : List Nat} {a : Nat}, (∀ i ∈ l, ZG A' i = ZG A i) -> ZJ A' l a = ZJ A l a
  | [], a, _ => rfl
  | i :: l, a, h => by
    unfold ZJ
    rw [h i (.head _)]
    exact UK fun i hi => h i (.tail _ hi)
theorem Qdq {T : TT} {md : Bool} {N : Nat} {d : SD} {n j : Nat} {sv : SV} {f : SF} {ops : Array Oper} : ∀ {os : List Oper} {k : Nat} {V Vf : VR} {m : SM} {A Af : List (Nat × Nat)} {es : List Ef} {cA cB : List Prop} {fps : List (Nat × Nat)}, drx T md N d n j sv f ops os k V m A = some (Vf, es, Af, cA, cB, fps) -> (∀ i o, os[i]? = some o -> ∀ q ∈ Qq .any o, q < k + i) -> ∀ i o, os[i]? = some o -> Sp T md N d n j sv f ops Vf es Af cA cB fps m k i o
  | [], k, V, Vf, m, A, Af, es, cA, cB, fps, h, _, i, o, ho => by simp at ho
  | o :: os, k, V, Vf, m, A, Af, es, cA, cB, fps, h, hd, i, o', ho => by
    have h' := h
    unfold drx at h
    split at h
    . rename_i hbad; cases hbad
    . have hg : True := trivial
      split at h
      . cases h
      . rename_i fk hfk
        split at h
        . cases h
        . rename_i v e cs fp hs
          split at h
          . cases h
          . rename_i hok
            rw [XV, Dq] at h
            split at h
            . cases h
            . rename_i Vf1 es1 Af1 cA1 cB1 fps1 hr
              have hdk : ∀ q ∈ Qq .any o, q < k := fun q hq => by have := hd 0 o rfl q hq; omega
              obtain ⟨g1, g2⟩ := JW hr
              have hk := g1 k (Nat.lt_succ_self k)
              have hlow : ∀ q, q < k -> YB Vf1 q = YB V q /\ ZG Af1 q = ZG A q := fun q hq => by
                have := g1 q (Nat.lt_succ_of_lt hq)
                rw [DP (by omega)] at this
                simp only [ZG, Q3 (show k ≠ q by omega)] at this
                exact this
              have ha : ZG Af1 k = ZJ Af1 (Qq .any o) 0 := by
                rw [hk.2, UK (A := A) fun q hq => (hlow q (hdk q hq)).2]
                simp only [ZG, Xj]
              have hv : YB Vf1 k = some (o.dst, v) := by rw [hk.1]; simp only [YB, Xj]
              have hf : YA Vf1 (Qq .any o) f = some fk := by rw [JX (V := V) fun q hq => (hlow q (hdk q hq)).1]; exact hfk
              have hbit : tb (ZG Af1 k) j = tb (ZJ A (Qq .any o) 0) j := by rw [hk.2]; simp only [ZG, Xj]
              have ih := fun i o ho => (Qdq hr (fun i o ho q hq => by have := hd (i + 1) o (by simpa using ho) q hq; omega) i o ho).sp
              split at h
              . rename_i ht
                simp only [Option.some.injEq, Prod.mk.injEq] at h
                obtain ⟨rfl, rfl, rfl, rfl, rfl, rfl⟩ := h
                cases i with
                | zero =>
                  simp only [List.getElem?_cons_zero, Option.some.injEq] at ho
                  subst ho
                  refine ⟨⟨fk, v, e, cs, fp, ?_⟩⟩
                  rw [Nat.add_zero]
                  exact ⟨hg, hf, hv, rfl, hs, hok, ha, (fun h0 => by rw [hbit, ht] at h0; cases h0), (fun _ hc => hc.1), Zk.2⟩
                | succ i =>
                  obtain ⟨fk', v', e', cs', fp', q1, q2, q3, q4, q5, q6, q7, q8, q9, q10⟩ := ih i o' (by simpa using ho)
                  rw [show Nat.succ k + i = k + (i + 1) by omega] at q3 q5 q7 q8 q9 q10
                  exact ⟨⟨fk', v', e', cs', fp', q1, q2, q3, by simpa using q4, by rw [List.take_succ_cons, JQ]; exact q5, q6, q7, q8, (fun hb hc => q9 hb hc.2), fun q hq => Zk.1 _ (q10 q hq)⟩⟩
              . rename_i ht
                simp only [Option.some.injEq, Prod.mk.injEq] at h
                obtain ⟨rfl, rfl, rfl, rfl, rfl, rfl⟩ := h
                cases i with
                | zero =>
                  simp only [List.getElem?_cons_zero, Option.some.injEq] at ho
                  subst ho
                  refine ⟨⟨fk, v, e, cs, fp, ?_⟩⟩
                  rw [Nat.add_zero]
                  exact ⟨hg, hf, hv, rfl, hs, hok, ha, (fun _ hc => hc.1), (fun h0 => by rw [hbit, ht] at h0; cases h0), Zk.2⟩
                | succ i =>
                  obtain ⟨fk', v', e', cs', fp', q1, q2, q3, q4, q5, q6, q7, q8, q9, q10⟩ := ih i o' (by simpa using ho)
                  rw [show Nat.succ k + i = k + (i + 1) by omega] at q3 q5 q7 q8 q9 q10
                  exact ⟨⟨fk', v', e', cs', fp', q1, q2, q3, by simpa using q4, by rw [List.take_succ_cons, JQ]; exact q5, q6, q7, (fun hb hc => q8 hb hc.2), q9, fun q hq => Zk.1 _ (q10 q hq)⟩⟩
end Go.Proofs.YtbiboamaigedjaaDoor
