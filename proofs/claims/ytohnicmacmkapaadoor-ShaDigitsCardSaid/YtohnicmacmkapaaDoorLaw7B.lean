/- ShaDigits. -/
import Derived.Test.YtohnicmacmkapaaDoorLaw7A
import Derived.Test.YtohnicmacmkapaaDoorLaws
namespace Go.Proofs.YtohnicmacmkapaaDoor
open Go.RowKit
set_option linter.unusedVariables false
set_option maxRecDepth 8000

theorem reads_ofS {K : IntKind} {w : World} {a : Option Addr} {n c : Nat} {zs : List Int} (h : RdI K w (.slice a n c) zs) : Reads w a n (zs.map (Value.int K)) ∧ (a = none → c = 0) := by
  obtain ⟨a', cap, he, h1, h2, h3, h4⟩ := h
  cases he
  exact ⟨reads_rd h3, h4⟩
theorem Reads.belowS {w w' : World} {a : Option Addr} {m : Nat} {xs : List Value} (h : Reads w a m xs) (hb : Below w.heap.size w w') : Reads w' a m xs := by
  refine ⟨h.1, fun j hj => ?_⟩
  obtain ⟨x, o, rfl, hc⟩ := h.2 j hj
  have hj' : j < xs.length := by rw [h.1]; exact hj
  rw [List.getElem?_eq_getElem hj'] at hc
  exact ⟨x, o, rfl, by rw [hb.cell (World.block_lt_of_cell? w _ hc), hc, List.getElem?_eq_getElem hj']⟩
theorem hexL_append (a b : List Int) : hexL (a ++ b) = hexL a ++ hexL b := by simp [hexL]
theorem strOfNums_app (a b : List Int) : strOfNums (a ++ b) = strOfNums a ++ strOfNums b := by
  apply ByteArray.ext
  simp [strOfNums, List.map_append]
set_option maxHeartbeats 1000000 in
theorem digits_v (va vb : Value) (a b : List Int) (w : World) (hT : TabS w) (ra : RdI .u8 w va a) (rb : RdI .u8 w vb b) (ha : Bytes a) (hb : Bytes b) :
    Calls Tryd.prog 6 #[va, vb] w fun e w' => e = .returned (.bool true) ∧ Below w.heap.size w w' := by
  obtain ⟨j0, hj, hy0, hy1, hy2⟩ := infoB32
  have ra0 := ra
  have rb0 := rb
  obtain ⟨aa, ca, rfl, hla, hma, -, -⟩ := ra0
  obtain ⟨ab, cb, rfl, hlb, hmb, -, -⟩ := rb0
  unfold maxLen at hma hmb
  by_cases h1 : a.length ≤ 2000
  case neg =>
    go_enter Tryd.func6, Tryd.ntmps6
    go_wp2_with (first
      | (go_at_call 7; (with_reducible refine (alive_v w hT).mono ?_); rintro e w2 ⟨rfl, B⟩))
    all_goals go_ret
    all_goals first | exact ⟨rfl, B⟩ | omega
  by_cases h2 : b.length ≤ 2000
  case neg =>
    go_enter Tryd.func6, Tryd.ntmps6
    go_wp2_with (first
      | (go_at_call 7; (with_reducible refine (alive_v w hT).mono ?_); rintro e w2 ⟨rfl, B⟩))
    all_goals go_ret
    all_goals first | exact ⟨rfl, B⟩ | omega
  have hcat := hexL_append a b
  have hlen := hexL_len a
  have ju := str_eq_yes (show strOfNums (hexL (a ++ b)) = strOfNums (hexL a) ++ strOfNums (hexL b) by rw [hcat, strOfNums_app])
  have z1 : (strOfNums (hexL a)).size = 2 * a.length := by rw [strOfNums_size]; exact hlen
  have z2 : (strOfNums (hexL b)).size = 2 * b.length := by rw [strOfNums_size]; exact hexL_len b
  clear hcat hlen
  have hX := fun W V r => hex_v V (a ++ b) W r (ha.append hb) (by simp; omega)
  have hA := fun W V r => hex_v V a W r ha (by omega)
  have hB := fun W V r => hex_v V b W r hb (by omega)
  generalize strOfNums (hexL (a ++ b)) = SX at *
  generalize strOfNums (hexL a) = SA at *
  generalize strOfNums (hexL b) = SB at *
  replace hX := Lib.hid hX
  replace hA := Lib.hid hA
  replace hB := Lib.hid hB
  go_enter Tryd.func6, Tryd.ntmps6
  go_wp2_with (first
    | (go_at_call 7; (with_reducible refine (alive_v w hT).mono ?_); rintro e w2 ⟨rfl, B⟩; replace ra := ra.below B; replace rb := rb.below B; obtain ⟨q1, n1⟩ := reads_ofS ra; obtain ⟨q2, n2⟩ := reads_ofS rb; have N1 := Lib.hid n1; clear n1; have N2 := Lib.hid n2; clear n2; have hal : Below w2.heap.size w2 (w2.alloc (.cells #[] 5)) := (Below.refl _ _).alloc (Nat.le_refl _) _; have q1' := q1.belowS hal)
    | (at_builtin; refine wpList_append_rd rfl (.tmp 18) (.tmp 19) 25 rfl w2.heap.size 5 j0 (.int .u8 0) 1 Tryd.underlying25 hj hy0 hy1 hy2 rfl _ _ _ rfl hown7 _ _ _ _ rfl q2' (by simp [Value.oneCell']) (by unfold maxLen; omega) (by omega) (by omega) N2.out ?_; intro v8 w8 hown8 hgr8 hb8)
    | (at_builtin; refine wpList_append_rd rfl (.tmp 16) (.tmp 17) 25 rfl w2.heap.size 5 j0 (.int .u8 0) 1 Tryd.underlying25 hj hy0 hy1 hy2 rfl _ _ _ rfl (World.ownsRow_made w2 #[] 0 (Nat.le_refl _) (Nat.zero_le _) rfl) _ _ _ _ rfl q1' (by simp [Value.oneCell']) (by unfold maxLen; omega) (by omega) (by simp) N1.out ?_; intro v7 w7 hown7 hgr7 hb7; have q2' := q2.belowS (hal.trans hb7); have hs7 := hb7.size; simp only [World.size_alloc] at hs7; simp only [Nat.zero_add, List.nil_append] at hown7))
  all_goals trace_state
  have rfin : RdI .u8 w8 v8 (a ++ b) := RdI.of_own (by simpa using hown8)
  have h68 := (hal.trans hb7).trans hb8
  replace ra := ra.below h68
  replace rb := rb.below h68
  replace B := below_then B h68
  clear hgr7 hgr8 hown7 hown8 q1 q2 q1' q2' hb7 hb8 h68 hal
  go_wp2_with fail
  refine (hX.out _ _ rfin).mono ?_
  rintro e w9 ⟨rfl, b9⟩
  replace ra := ra.below b9
  replace rb := rb.below b9
  replace B := below_then B b9
  clear b9
  go_wp2_with fail
  refine (hA.out _ _ ra).mono ?_
  rintro e wa ⟨rfl, b9⟩
  replace ra := ra.below b9
  replace rb := rb.below b9
  replace B := below_then B b9
  clear b9
  go_wp2_with fail
  refine (hB.out _ _ rb).mono ?_
  rintro e wb ⟨rfl, b9⟩
  replace ra := ra.below b9
  replace rb := rb.below b9
  replace B := below_then B b9
  clear b9
  go_wp2_with fail
  refine (hA.out _ _ ra).mono ?_
  rintro e wc ⟨rfl, b9⟩
  replace B := below_then B b9
  go_wp2
  all_goals go_ret
  exact ⟨rfl, B⟩
end Go.Proofs.YtohnicmacmkapaaDoor
