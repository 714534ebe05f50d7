/- The rounds of sha: take. -/
import Derived.Test.YtohnicmacmkapaaDoorShaC
namespace Go.Proofs.YtohnicmacmkapaaDoor
open Go.RowKit
set_option linter.unusedVariables false
set_option maxRecDepth 8000

theorem TabS.drewN {w : World} (h : TabS w) (n : Nat) : TabS (w.drewN n) := h.below (below_drewN (Below.refl _ _) n)
theorem grown_below {w w' : World} (h : Below w.heap.size w w') (B : Nat) : w.grownBy w' (some B) := ⟨h.os, h.tape, h.output, h.size, fun k hk _ => h.block k hk⟩
theorem grown_row (w : World) (g : Nat) (cs : Array Value) : w.grownBy (w.setRow g cs) (some g) := by
  refine ⟨rfl, rfl, rfl, by simp [World.setRow], fun k hk hne => ?_⟩
  rw [setRow_other w g k cs (by simpa using hne)]
theorem mod_in64 (x : Int) : In64 (x % 18446744073709551616) := by unfold In64; omega
structure Eight64 where
  (a b c d e f g h : Int)
def Eight64.ok (v : Eight64) : Prop := In64 v.a ∧ In64 v.b ∧ In64 v.c ∧ In64 v.d ∧ In64 v.e ∧ In64 v.f ∧ In64 v.g ∧ In64 v.h
def not64 (e : Int) : Int := bits BinOp.xor .u64 (if IntKind.u64.signed = true then -1 else IntKind.u64.max) e
def tt64 (m : List Int) (i : Nat) (v : Eight64) : Int := (v.h + bigB64 v.e + bits BinOp.xor .u64 (bits BinOp.and .u64 v.e v.f) (bits BinOp.and .u64 (not64 v.e) v.g) + at0 cubesL i + at0 m i) % 18446744073709551616
def uu64 (v : Eight64) : Int := (bigA64 v.a + bits BinOp.xor .u64 (bits BinOp.xor .u64 (bits BinOp.and .u64 v.a v.b) (bits BinOp.and .u64 v.a v.c)) (bits BinOp.and .u64 v.b v.c)) % 18446744073709551616
def round64 (m : List Int) (i : Nat) (v : Eight64) : Eight64 := ⟨(tt64 m i v + uu64 v) % 18446744073709551616, v.a, v.b, v.c, (v.d + tt64 m i v) % 18446744073709551616, v.e, v.f, v.g⟩
def rounds64 (m : List Int) (v : Eight64) : Nat → Eight64
  | 0 => v
  | i + 1 => round64 m i (rounds64 m v i)
theorem rounds64_ok {m : List Int} {v : Eight64} (h : v.ok) : ∀ i, (rounds64 m v i).ok
  | 0 => h
  | i + 1 => by
    obtain ⟨h0, h1, h2, h3, h4, h5, h6, h7⟩ := rounds64_ok (m := m) h i
    exact ⟨mod_in64 _, h0, h1, h2, mod_in64 _, h4, h5, h6⟩
def eight64 (st : List Int) : Eight64 := ⟨at0 st 0, at0 st 1, at0 st 2, at0 st 3, at0 st 4, at0 st 5, at0 st 6, at0 st 7⟩
def Eight64.list (v : Eight64) : List Int := [v.a, v.b, v.c, v.d, v.e, v.f, v.g, v.h]
/-- The state behind a block. -/
def take64 (st zs : List Int) : List Int := (List.range 8).map fun j => (at0 st j + at0 (rounds64 (sched64 zs 64) (eight64 st) 80).list j) % 18446744073709551616
set_option maxHeartbeats 4000000 in
theorem take64_v (w : World) (B : Nat) (st : List Int) (hr : RS64 w B st) (hT : TabS w) (hs : 0 ≠ B) (hc : 3 ≠ B) (v : Value) (zs : List Int) (hv : RdI .u8 w v zs) (hb : Bytes zs) (hl : zs.length = 128) :
    Calls Tryd.prog 43 #[.pointer (some ⟨B, 0, none⟩), v] w fun e w' => (∃ v, e = .returned v) ∧ RS64 w' B (take64 st zs) ∧ w.grownBy w' (some B) := by
  have hB := hr.lt
  have hml := sched64_len zs 64
  have hmi := sched64_in hb hl 64
  have HS := fun W (h : RS64 W B st) (hv : RdI .u8 W v zs) => schedule64_v W B st h v zs hv hb hl
  have htk : take64 st zs = (List.range 8).map fun j => (at0 st j + at0 (rounds64 (sched64 zs 64) (eight64 st) 80).list j) % 18446744073709551616 := rfl
  generalize sched64 zs 64 = ms at *
  have h8 : (eight64 st).ok := ⟨hr.stIn 0, hr.stIn 1, hr.stIn 2, hr.stIn 3, hr.stIn 4, hr.stIn 5, hr.stIn 6, hr.stIn 7⟩
  have he8 : eight64 st = ⟨at0 st 0, at0 st 1, at0 st 2, at0 st 3, at0 st 4, at0 st 5, at0 st 6, at0 st 7⟩ := rfl
  go_enter Tryd.func43, Tryd.ntmps43
  go_wp2_with (first
    | (go_at_call 47; (with_reducible refine (HS _ hr hv).mono ?_); rintro e w1 ⟨rfl, b1⟩)
    | (with_reducible refine at_n 4 ?_; refine wpList_allocI rfl 61 rfl .u64 80 zero_t64 ?_; intro w2 A2 s2 b2; have BB := below_then b1 b2; have hr2 := hr.below BB; have hT2 := hT.below BB)
    | (with_reducible refine at_op (o := ⟨_, .store 61 _ _, _, _, _, _⟩) ?_; refine wpList_storeI rfl 61 _ _ rfl 80 info_t64 w1.heap.size rfl .u64 _ _ rfl A2 (by simp) hml ?_; intro A3))
  have hs1 := b1.size
  have hr3 : RS64 (w2.setRow w1.heap.size (ms.map (Value.int .u64)).toArray) B st := hr2.but (grown_row _ _ _) (by simp; omega)
  have hT3 : TabS (w2.setRow w1.heap.size (ms.map (Value.int .u64)).toArray) := hT2.but (grown_row _ _ _) (by have := hT.lt.1; have := b1.size; omega) (by have := hT.lt.2; have := b1.size; omega)
  have BB3 := below_row BB (g := w1.heap.size) b1.size (ms.map (Value.int .u64)).toArray
  generalize w2.setRow w1.heap.size (ms.map (Value.int .u64)).toArray = w3 at *
  clear hr2 hT2 A2 BB HS
  have s0 : w3.cell? ⟨B, 2, none⟩ = some (.int .u64 (at0 st 0)) := (hr3.stAt (j := 0) (by decide)).1
  have s1 : w3.cell? ⟨B, 3, none⟩ = some (.int .u64 (at0 st 1)) := (hr3.stAt (j := 1) (by decide)).1
  have s2 : w3.cell? ⟨B, 4, none⟩ = some (.int .u64 (at0 st 2)) := (hr3.stAt (j := 2) (by decide)).1
  have s3 : w3.cell? ⟨B, 5, none⟩ = some (.int .u64 (at0 st 3)) := (hr3.stAt (j := 3) (by decide)).1
  have s4 : w3.cell? ⟨B, 6, none⟩ = some (.int .u64 (at0 st 4)) := (hr3.stAt (j := 4) (by decide)).1
  have s5 : w3.cell? ⟨B, 7, none⟩ = some (.int .u64 (at0 st 5)) := (hr3.stAt (j := 5) (by decide)).1
  have s6 : w3.cell? ⟨B, 8, none⟩ = some (.int .u64 (at0 st 6)) := (hr3.stAt (j := 6) (by decide)).1
  have s7 : w3.cell? ⟨B, 9, none⟩ = some (.int .u64 (at0 st 7)) := (hr3.stAt (j := 7) (by decide)).1
  have hct := hr3.count
  have hml' := hml
  go_quiet (fail)
  go_wp2
  go_quiet (fail)
  go_wp2
  have he : rounds64 ms (eight64 st) 0 = eight64 st := rfl
  generalize hv0 : eight64 st = v0 at *
  go_loopw [5, 6, 7, 8, 9, 10, 11, 12, 65] (fun a b c d e f g h i wr => ∃ (k : Nat), k ≤ 80 ∧ i = .int .i64 k ∧ a = .int .u64 (rounds64 ms v0 k).a ∧ b = .int .u64 (rounds64 ms v0 k).b ∧ c = .int .u64 (rounds64 ms v0 k).c ∧ d = .int .u64 (rounds64 ms v0 k).d ∧ e = .int .u64 (rounds64 ms v0 k).e ∧ f = .int .u64 (rounds64 ms v0 k).f ∧ g = .int .u64 (rounds64 ms v0 k).g ∧ h = .int .u64 (rounds64 ms v0 k).h ∧ RS64 wr B st ∧ TabS wr ∧ Arr .u64 wr w1.heap.size ms ∧ Below w.heap.size w wr) (fun _ _ _ _ _ _ _ _ i _ => 80 - (intOf i).toNat)
  case atStart =>
    refine ⟨0, by omega, rfl, ?_, ?_, ?_, ?_, ?_, ?_, ?_, ?_, hr3, hT3.drewN _, A3, below_drewN BB3 _⟩ <;> (rw [he, he8])
  case round =>
    clear hr3 hT3 A3 BB3 s0 s1 s2 s3 s4 s5 s6 s7 hct
    obtain ⟨k, hk, rfl, rfl, rfl, rfl, rfl, rfl, rfl, rfl, rfl, hr3, hT3, A3, BB3⟩ := hrel
    by_cases hlt : k < 80
    · have hok := rounds64_ok (m := ms) h8 k
      have hnx : rounds64 ms v0 (k + 1) = round64 ms k (rounds64 ms v0 k) := rfl
      rcases hv : rounds64 ms v0 k with ⟨a, b, c, d, e, f, g, h⟩
      rw [hv] at hok hnx
      obtain ⟨⟨a0, a1⟩, ⟨b0, b1'⟩, ⟨c0, c1⟩, ⟨d0, d1⟩, ⟨e0, e1⟩, ⟨f0, f1⟩, ⟨g0, g1⟩, ⟨h0, h1⟩⟩ := hok
      dsimp only at a0 a1 b0 b1' c0 c1 d0 d1 e0 e1 f0 f1 g0 g1 h0 h1
      have hcu := hT3.cu k (by omega)
      have hci := cubes_in k (by omega)
      have HC := fun W (h : RS64 W B st) => cut64_v (at0 cubesL k) W B st h hci
      have HB := fun W => bigB64_v e W ⟨e0, e1⟩
      have HA := fun W => bigA64_v a W ⟨a0, a1⟩
      have hms := A3.cell (k := k) (by omega)
      obtain ⟨f10, f11, f12, f13⟩ := hr3.fn
      have hk80 : (k : Int) < 80 := by omega
      replace hnx := Lib.hid hnx
      clear hv hmi htk he
      go_wp2
      go_quiet (first | (go_at_call 29; exact Calls.quiet_of_same (HB _)) | (go_at_call 42; exact Calls.quiet_of_same (HC _ hr3)))
      go_wp2_with (first
        | (go_at_call 27; (with_reducible refine (HA _).mono ?_); rintro e w9 ⟨rfl, rfl⟩))
      refine ⟨⟨k + 1, by omega, by go_num, ?_, congrArg (Value.int .u64) (congrArg Eight64.b hnx.out).symm, congrArg (Value.int .u64) (congrArg Eight64.c hnx.out).symm, congrArg (Value.int .u64) (congrArg Eight64.d hnx.out).symm, ?_, congrArg (Value.int .u64) (congrArg Eight64.f hnx.out).symm, congrArg (Value.int .u64) (congrArg Eight64.g hnx.out).symm, congrArg (Value.int .u64) (congrArg Eight64.h hnx.out).symm, hr3, hT3.drewN _, A3, below_drewN BB3 _⟩, by simp only [intOf]; omega⟩ <;> rw [hnx.out]
      · show _ = Value.int .u64 ((tt64 ms k ⟨a, b, c, d, e, f, g, h⟩ + uu64 ⟨a, b, c, d, e, f, g, h⟩) % 18446744073709551616)
        unfold tt64 uu64 not64
        first | rfl | (simp only [IntKind.wrap_u64, Int.emod_add_emod, Int.add_emod_emod])
      · show _ = Value.int .u64 ((d + tt64 ms k ⟨a, b, c, d, e, f, g, h⟩) % 18446744073709551616)
        unfold tt64 not64
        first | rfl | (simp only [IntKind.wrap_u64, Int.emod_add_emod, Int.add_emod_emod])
    · obtain rfl : k = 80 := by omega
      have hok := rounds64_ok (m := ms) h8 80
      rcases hv : rounds64 ms v0 80 with ⟨a, b, c, d, e, f, g, h⟩
      rw [hv] at hok htk
      obtain ⟨⟨a0, a1⟩, ⟨b0, b1'⟩, ⟨c0, c1⟩, ⟨d0, d1⟩, ⟨e0, e1⟩, ⟨f0, f1⟩, ⟨g0, g1⟩, ⟨h0, h1⟩⟩ := hok
      dsimp only at a0 a1 b0 b1' c0 c1 d0 d1 e0 e1 f0 f1 g0 g1 h0 h1
      have hg := grown_below BB3 B
      replace htk := Lib.hid htk
      clear hv hmi he
      go_wp2
      rw [show Value.agg #[.int .u64 a, .int .u64 b, .int .u64 c, .int .u64 d, .int .u64 e, .int .u64 f, .int .u64 g, .int .u64 h] = aggI .u64 [a, b, c, d, e, f, g, h] from rfl]
      have hls : ([a, b, c, d, e, f, g, h] : List Int).length = 8 := rfl
      have hlv : (Eight64.list ⟨a, b, c, d, e, f, g, h⟩) = [a, b, c, d, e, f, g, h] := rfl
      replace hlv := Lib.hid hlv
      generalize ([a, b, c, d, e, f, g, h] : List Int) = ls at *
      clear a0 a1 b0 b1' c0 c1 d0 d1 e0 e1 f0 f1 g0 g1 h0 h1 BB3 A3 hT3
      go_loopw [135] (fun i wr => ∃ (j : Nat) (su : List Int), j ≤ 8 ∧ i = .int .i64 j ∧ RS64 wr B su ∧ w.grownBy wr (some B) ∧ (∀ q, q < 8 → at0 su q = if q < j then (at0 st q + at0 ls q) % 18446744073709551616 else at0 st q)) (fun i _ => 8 - (intOf i).toNat)
      case atStart => exact ⟨0, st, by omega, rfl, hr3, hg, fun q hq => by rw [if_neg (by omega)]⟩
      case round =>
        clear hr3 hg
        obtain ⟨j, su, hj, rfl, hr3, hg, hsu⟩ := hrel
        by_cases hjl : j < 8
        · have hix : ∀ w, (Instr.index 52 (aggI .u64 ls) (.int .i64 (j : Int))).run Tryd.prog w = .ok (.int .u64 (at0 ls j)) w := fun w => by
            have h := run_indexI (w := w) (P := Tryd.prog) 52 8 49 Tryd.underlying52 _ Tryd.underlying49 rfl (by kernel_rfl) .u64 ls hls (j : Int) (by omega) (by omega)
            rwa [Int.toNat_natCast] at h
          obtain ⟨cj, fj⟩ := hr3.stAt hjl
          have hsj := hsu j hjl
          rw [if_neg (by omega)] at hsj
          rw [hsj] at cj
          have hjI : (j : Int) < 8 := by omega
          replace hsj := Lib.hid hsj
          replace hsu := Lib.hid hsu
          go_wp2
          go_still_tail 11, (by kernel_rfl)
          change wpList _ _ _ _ _ wr.drew
          go_wp2
          refine ⟨?_, ?_⟩
          · apply Exists.intro (α := Value)
            apply Exists.intro (α := Value)
            refine Exists.intro (Value.int .i64 ((j : Int) + 1)) ?_
            repeat apply Exists.intro (α := Value)
            refine ⟨⟨j + 1, su.set j ((at0 st j + at0 ls j) % 18446744073709551616), by omega, by go_num, ?_, ?_, fun q hq => ?_⟩, rfl⟩
            · try simp only [IntKind.wrap_u64]
              have h := hr3.set hjl (mod_in64 (at0 st j + at0 ls j))
              exact h
            · exact grown_drew (grown_set hg _ _)
            · rw [at0_set su j q _ (by rw [hr3.1]; exact hjl)]
              by_cases e : q = j
              · rw [if_pos e, if_pos (by omega), e]
              · rw [if_neg e, hsu.out q hq]
                by_cases e2 : q < j
                · rw [if_pos e2, if_pos (by omega)]
                · rw [if_neg e2, if_neg (by omega)]
          · show 8 - (intOf (Value.int .i64 ((j : Int) + 1))).toNat < 8 - (intOf (Value.int .i64 (j : Int))).toNat
            simp only [intOf]; omega
        · obtain rfl : j = 8 := by omega
          have e : su = take64 st zs := eq_of_all (by rw [hr3.1, htk.out]; simp) fun q hq => by
            rw [hr3.1] at hq
            rw [hsu q hq, if_pos hq, htk.out, hlv.out]
            simp [at0, hq]
          subst e
          go_wp2
          refine bodyPost_end (results_none rfl _ _ _) rfl ?_
          exact ⟨⟨_, rfl⟩, hr3, hg⟩
theorem mod_in32 (x : Int) : In32 (x % 4294967296) := by unfold In32; omega
structure Eight32 where
  (a b c d e f g h : Int)
def Eight32.ok (v : Eight32) : Prop := In32 v.a ∧ In32 v.b ∧ In32 v.c ∧ In32 v.d ∧ In32 v.e ∧ In32 v.f ∧ In32 v.g ∧ In32 v.h
def not32 (e : Int) : Int := bits BinOp.xor .u32 (if IntKind.u32.signed = true then -1 else IntKind.u32.max) e
def tt32 (m : List Int) (i : Nat) (v : Eight32) : Int := (v.h + bigB32 v.e + bits BinOp.xor .u32 (bits BinOp.and .u32 v.e v.f) (bits BinOp.and .u32 (not32 v.e) v.g) + at0 cubesL i / 4294967296 + at0 m i) % 4294967296
def uu32 (v : Eight32) : Int := (bigA32 v.a + bits BinOp.xor .u32 (bits BinOp.xor .u32 (bits BinOp.and .u32 v.a v.b) (bits BinOp.and .u32 v.a v.c)) (bits BinOp.and .u32 v.b v.c)) % 4294967296
def round32 (m : List Int) (i : Nat) (v : Eight32) : Eight32 := ⟨(tt32 m i v + uu32 v) % 4294967296, v.a, v.b, v.c, (v.d + tt32 m i v) % 4294967296, v.e, v.f, v.g⟩
def rounds32 (m : List Int) (v : Eight32) : Nat → Eight32
  | 0 => v
  | i + 1 => round32 m i (rounds32 m v i)
theorem rounds32_ok {m : List Int} {v : Eight32} (h : v.ok) : ∀ i, (rounds32 m v i).ok
  | 0 => h
  | i + 1 => by
    obtain ⟨h0, h1, h2, h3, h4, h5, h6, h7⟩ := rounds32_ok (m := m) h i
    exact ⟨mod_in32 _, h0, h1, h2, mod_in32 _, h4, h5, h6⟩
def eight32 (st : List Int) : Eight32 := ⟨at0 st 0, at0 st 1, at0 st 2, at0 st 3, at0 st 4, at0 st 5, at0 st 6, at0 st 7⟩
def Eight32.list (v : Eight32) : List Int := [v.a, v.b, v.c, v.d, v.e, v.f, v.g, v.h]
/-- The state behind a block. -/
def take32 (st zs : List Int) : List Int := (List.range 8).map fun j => (at0 st j + at0 (rounds32 (sched32 zs 48) (eight32 st) 64).list j) % 4294967296
set_option maxHeartbeats 4000000 in
theorem take32_v (w : World) (B : Nat) (st : List Int) (hr : RS32 w B st) (hT : TabS w) (hs : 0 ≠ B) (hc : 3 ≠ B) (v : Value) (zs : List Int) (hv : RdI .u8 w v zs) (hb : Bytes zs) (hl : zs.length = 64) :
    Calls Tryd.prog 38 #[.pointer (some ⟨B, 0, none⟩), v] w fun e w' => (∃ v, e = .returned v) ∧ RS32 w' B (take32 st zs) ∧ w.grownBy w' (some B) := by
  have hB := hr.lt
  have hml := sched32_len zs 48
  have hmi := sched32_in hb hl 48
  have HS := fun W (h : RS32 W B st) (hv : RdI .u8 W v zs) => schedule32_v W B st h v zs hv hb hl
  have htk : take32 st zs = (List.range 8).map fun j => (at0 st j + at0 (rounds32 (sched32 zs 48) (eight32 st) 64).list j) % 4294967296 := rfl
  generalize sched32 zs 48 = ms at *
  have h8 : (eight32 st).ok := ⟨hr.stIn 0, hr.stIn 1, hr.stIn 2, hr.stIn 3, hr.stIn 4, hr.stIn 5, hr.stIn 6, hr.stIn 7⟩
  have he8 : eight32 st = ⟨at0 st 0, at0 st 1, at0 st 2, at0 st 3, at0 st 4, at0 st 5, at0 st 6, at0 st 7⟩ := rfl
  go_enter Tryd.func38, Tryd.ntmps38
  go_wp2_with (first
    | (go_at_call 45; (with_reducible refine (HS _ hr hv).mono ?_); rintro e w1 ⟨rfl, b1⟩)
    | (with_reducible refine at_n 4 ?_; refine wpList_allocI rfl 64 rfl .u32 80 zero_t32 ?_; intro w2 A2 s2 b2; have BB := below_then b1 b2; have hr2 := hr.below BB; have hT2 := hT.below BB)
    | (with_reducible refine at_op (o := ⟨_, .store 64 _ _, _, _, _, _⟩) ?_; refine wpList_storeI rfl 64 _ _ rfl 80 info_t32 w1.heap.size rfl .u32 _ _ rfl A2 (by simp) hml ?_; intro A3))
  have hs1 := b1.size
  have hr3 : RS32 (w2.setRow w1.heap.size (ms.map (Value.int .u32)).toArray) B st := hr2.but (grown_row _ _ _) (by simp; omega)
  have hT3 : TabS (w2.setRow w1.heap.size (ms.map (Value.int .u32)).toArray) := hT2.but (grown_row _ _ _) (by have := hT.lt.1; have := b1.size; omega) (by have := hT.lt.2; have := b1.size; omega)
  have BB3 := below_row BB (g := w1.heap.size) b1.size (ms.map (Value.int .u32)).toArray
  generalize w2.setRow w1.heap.size (ms.map (Value.int .u32)).toArray = w3 at *
  clear hr2 hT2 A2 BB HS
  have s0 : w3.cell? ⟨B, 2, none⟩ = some (.int .u32 (at0 st 0)) := (hr3.stAt (j := 0) (by decide)).1
  have s1 : w3.cell? ⟨B, 3, none⟩ = some (.int .u32 (at0 st 1)) := (hr3.stAt (j := 1) (by decide)).1
  have s2 : w3.cell? ⟨B, 4, none⟩ = some (.int .u32 (at0 st 2)) := (hr3.stAt (j := 2) (by decide)).1
  have s3 : w3.cell? ⟨B, 5, none⟩ = some (.int .u32 (at0 st 3)) := (hr3.stAt (j := 3) (by decide)).1
  have s4 : w3.cell? ⟨B, 6, none⟩ = some (.int .u32 (at0 st 4)) := (hr3.stAt (j := 4) (by decide)).1
  have s5 : w3.cell? ⟨B, 7, none⟩ = some (.int .u32 (at0 st 5)) := (hr3.stAt (j := 5) (by decide)).1
  have s6 : w3.cell? ⟨B, 8, none⟩ = some (.int .u32 (at0 st 6)) := (hr3.stAt (j := 6) (by decide)).1
  have s7 : w3.cell? ⟨B, 9, none⟩ = some (.int .u32 (at0 st 7)) := (hr3.stAt (j := 7) (by decide)).1
  have hct := hr3.count
  have hml' := hml
  go_quiet (fail)
  go_wp2
  go_quiet (fail)
  go_wp2
  have he : rounds32 ms (eight32 st) 0 = eight32 st := rfl
  generalize hv0 : eight32 st = v0 at *
  go_loopw [5, 6, 7, 8, 9, 10, 11, 12, 65] (fun a b c d e f g h i wr => ∃ (k : Nat), k ≤ 64 ∧ i = .int .i64 k ∧ a = .int .u32 (rounds32 ms v0 k).a ∧ b = .int .u32 (rounds32 ms v0 k).b ∧ c = .int .u32 (rounds32 ms v0 k).c ∧ d = .int .u32 (rounds32 ms v0 k).d ∧ e = .int .u32 (rounds32 ms v0 k).e ∧ f = .int .u32 (rounds32 ms v0 k).f ∧ g = .int .u32 (rounds32 ms v0 k).g ∧ h = .int .u32 (rounds32 ms v0 k).h ∧ RS32 wr B st ∧ TabS wr ∧ Arr .u32 wr w1.heap.size ms ∧ Below w.heap.size w wr) (fun _ _ _ _ _ _ _ _ i _ => 64 - (intOf i).toNat)
  case atStart =>
    refine ⟨0, by omega, rfl, ?_, ?_, ?_, ?_, ?_, ?_, ?_, ?_, hr3, hT3.drewN _, A3, below_drewN BB3 _⟩ <;> (rw [he, he8])
  case round =>
    clear hr3 hT3 A3 BB3 s0 s1 s2 s3 s4 s5 s6 s7 hct
    obtain ⟨k, hk, rfl, rfl, rfl, rfl, rfl, rfl, rfl, rfl, rfl, hr3, hT3, A3, BB3⟩ := hrel
    by_cases hlt : k < 64
    · have hok := rounds32_ok (m := ms) h8 k
      have hnx : rounds32 ms v0 (k + 1) = round32 ms k (rounds32 ms v0 k) := rfl
      rcases hv : rounds32 ms v0 k with ⟨a, b, c, d, e, f, g, h⟩
      rw [hv] at hok hnx
      obtain ⟨⟨a0, a1⟩, ⟨b0, b1'⟩, ⟨c0, c1⟩, ⟨d0, d1⟩, ⟨e0, e1⟩, ⟨f0, f1⟩, ⟨g0, g1⟩, ⟨h0, h1⟩⟩ := hok
      dsimp only at a0 a1 b0 b1' c0 c1 d0 d1 e0 e1 f0 f1 g0 g1 h0 h1
      have hcu := hT3.cu k (by omega)
      have hci := cubes_in k (by omega)
      have HC := fun W (h : RS32 W B st) => cut32_v (at0 cubesL k) W B st h hci
      have HB := fun W => bigB32_v e W ⟨e0, e1⟩
      have HA := fun W => bigA32_v a W ⟨a0, a1⟩
      have hms := A3.cell (k := k) (by omega)
      obtain ⟨f10, f11, f12, f13⟩ := hr3.fn
      have hk80 : (k : Int) < 80 := by omega
      replace hnx := Lib.hid hnx
      clear hv hmi htk he
      go_wp2
      go_quiet (first | (go_at_call 20; exact Calls.quiet_of_same (HB _)) | (go_at_call 37; exact Calls.quiet_of_same (HC _ hr3)))
      go_wp2_with (first
        | (go_at_call 18; (with_reducible refine (HA _).mono ?_); rintro e w9 ⟨rfl, rfl⟩))
      refine ⟨⟨k + 1, by omega, by go_num, ?_, congrArg (Value.int .u32) (congrArg Eight32.b hnx.out).symm, congrArg (Value.int .u32) (congrArg Eight32.c hnx.out).symm, congrArg (Value.int .u32) (congrArg Eight32.d hnx.out).symm, ?_, congrArg (Value.int .u32) (congrArg Eight32.f hnx.out).symm, congrArg (Value.int .u32) (congrArg Eight32.g hnx.out).symm, congrArg (Value.int .u32) (congrArg Eight32.h hnx.out).symm, hr3, hT3.drewN _, A3, below_drewN BB3 _⟩, by simp only [intOf]; omega⟩ <;> rw [hnx.out]
      · show _ = Value.int .u32 ((tt32 ms k ⟨a, b, c, d, e, f, g, h⟩ + uu32 ⟨a, b, c, d, e, f, g, h⟩) % 4294967296)
        unfold tt32 uu32 not32
        first | rfl | (simp only [IntKind.wrap_u64, Int.emod_add_emod, Int.add_emod_emod])
      · show _ = Value.int .u32 ((d + tt32 ms k ⟨a, b, c, d, e, f, g, h⟩) % 4294967296)
        unfold tt32 not32
        first | rfl | (simp only [IntKind.wrap_u64, Int.emod_add_emod, Int.add_emod_emod])
    · obtain rfl : k = 64 := by omega
      have hok := rounds32_ok (m := ms) h8 64
      rcases hv : rounds32 ms v0 64 with ⟨a, b, c, d, e, f, g, h⟩
      rw [hv] at hok htk
      obtain ⟨⟨a0, a1⟩, ⟨b0, b1'⟩, ⟨c0, c1⟩, ⟨d0, d1⟩, ⟨e0, e1⟩, ⟨f0, f1⟩, ⟨g0, g1⟩, ⟨h0, h1⟩⟩ := hok
      dsimp only at a0 a1 b0 b1' c0 c1 d0 d1 e0 e1 f0 f1 g0 g1 h0 h1
      have hg := grown_below BB3 B
      replace htk := Lib.hid htk
      clear hv hmi he
      go_wp2
      rw [show Value.agg #[.int .u32 a, .int .u32 b, .int .u32 c, .int .u32 d, .int .u32 e, .int .u32 f, .int .u32 g, .int .u32 h] = aggI .u32 [a, b, c, d, e, f, g, h] from rfl]
      have hls : ([a, b, c, d, e, f, g, h] : List Int).length = 8 := rfl
      have hlv : (Eight32.list ⟨a, b, c, d, e, f, g, h⟩) = [a, b, c, d, e, f, g, h] := rfl
      replace hlv := Lib.hid hlv
      generalize ([a, b, c, d, e, f, g, h] : List Int) = ls at *
      clear a0 a1 b0 b1' c0 c1 d0 d1 e0 e1 f0 f1 g0 g1 h0 h1 BB3 A3 hT3
      go_loopw [135] (fun i wr => ∃ (j : Nat) (su : List Int), j ≤ 8 ∧ i = .int .i64 j ∧ RS32 wr B su ∧ w.grownBy wr (some B) ∧ (∀ q, q < 8 → at0 su q = if q < j then (at0 st q + at0 ls q) % 4294967296 else at0 st q)) (fun i _ => 8 - (intOf i).toNat)
      case atStart => exact ⟨0, st, by omega, rfl, hr3, hg, fun q hq => by rw [if_neg (by omega)]⟩
      case round =>
        clear hr3 hg
        obtain ⟨j, su, hj, rfl, hr3, hg, hsu⟩ := hrel
        by_cases hjl : j < 8
        · have hix : ∀ w, (Instr.index 43 (aggI .u32 ls) (.int .i64 (j : Int))).run Tryd.prog w = .ok (.int .u32 (at0 ls j)) w := fun w => by
            have h := run_indexI (w := w) (P := Tryd.prog) 43 8 39 Tryd.underlying43 _ Tryd.underlying39 rfl (by kernel_rfl) .u32 ls hls (j : Int) (by omega) (by omega)
            rwa [Int.toNat_natCast] at h
          obtain ⟨cj, fj⟩ := hr3.stAt hjl
          have hsj := hsu j hjl
          rw [if_neg (by omega)] at hsj
          rw [hsj] at cj
          have hjI : (j : Int) < 8 := by omega
          replace hsj := Lib.hid hsj
          replace hsu := Lib.hid hsu
          go_wp2
          go_still_tail 11, (by kernel_rfl)
          change wpList _ _ _ _ _ wr.drew
          go_wp2
          refine ⟨?_, ?_⟩
          · apply Exists.intro (α := Value)
            apply Exists.intro (α := Value)
            refine Exists.intro (Value.int .i64 ((j : Int) + 1)) ?_
            repeat apply Exists.intro (α := Value)
            refine ⟨⟨j + 1, su.set j ((at0 st j + at0 ls j) % 4294967296), by omega, by go_num, ?_, ?_, fun q hq => ?_⟩, rfl⟩
            · try simp only [IntKind.wrap_u64]
              have h := hr3.set hjl (mod_in32 (at0 st j + at0 ls j))
              exact h
            · exact grown_drew (grown_set hg _ _)
            · rw [at0_set su j q _ (by rw [hr3.1]; exact hjl)]
              by_cases e : q = j
              · rw [if_pos e, if_pos (by omega), e]
              · rw [if_neg e, hsu.out q hq]
                by_cases e2 : q < j
                · rw [if_pos e2, if_pos (by omega)]
                · rw [if_neg e2, if_neg (by omega)]
          · show 8 - (intOf (Value.int .i64 ((j : Int) + 1))).toNat < 8 - (intOf (Value.int .i64 (j : Int))).toNat
            simp only [intOf]; omega
        · obtain rfl : j = 8 := by omega
          have e : su = take32 st zs := eq_of_all (by rw [hr3.1, htk.out]; simp) fun q hq => by
            rw [hr3.1] at hq
            rw [hsu q hq, if_pos hq, htk.out, hlv.out]
            simp [at0, hq]
          subst e
          go_wp2
          refine bodyPost_end (results_none rfl _ _ _) rfl ?_
          exact ⟨⟨_, rfl⟩, hr3, hg⟩
end Go.Proofs.YtohnicmacmkapaaDoor
