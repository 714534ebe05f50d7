/- Merged: Several points so many times, together. Several points so many times, together: by the group. -/
import Derived.Test.YtelppapkffjmpaaDoorQMJ
section
namespace Go.Proofs.YtelppapkffjmpaaDoor
open Go.RowKit Go.Shelf
set_option linter.unusedVariables false
set_option maxRecDepth 8000

section
variable {P : Program} {ops : Array Oper} {o : Oper} {a : Act} {w : World}
theorem wpList_storeM {rest : List Oper} {Q : Exit → Act → World → Prop} (hgd : Region.wanted o (yielded ops a.tmps) = true) (ty : TypeId) (x y : Operand) (ho : o.op = .store ty x y) (n : Nat) (hi : (P.info? ty).map (·.size) = some n)
    (B o0 : Nat) (hx : a.eval x = .pointer (some ⟨B, o0, none⟩)) (K : IntKind) (zs ys : List Int) (hy : a.eval y = aggI K ys) (hz : Arr K w B zs) (hm : ys.length = n) (hl : o0 + n ≤ zs.length)
    (h : Arr K (w.setRow B ((pt zs o0 ys).map (Value.int K)).toArray) B (pt zs o0 ys) → wpList P ops Q rest (a.put o.dst undef) (w.setRow B ((pt zs o0 ys).map (Value.int K)).toArray)) : wpList P ops Q (o :: rest) a w :=
  wpList_does (R := fun v' w' => v' = undef ∧ w' = w.setRow B ((pt zs o0 ys).map (Value.int K)).toArray ∧ Arr K w' B (pt zs o0 ys)) (Does.storeM hgd ty x y ho n hi B o0 hx K zs ys hy hz hm hl fun A => ⟨rfl, rfl, A⟩) fun v' w' h' => by
    obtain ⟨rfl, rfl, hA⟩ := h'
    exact h hA
end
/-- The tables, behind so many of them. -/
def contT (n : Nat) (ts : Nat → List Int) : Nat → List Int
  | 0 => List.replicate (n * 320) 0
  | j + 1 => pt (contT n ts j) (320 * j) (ts j)
theorem contT_len {n : Nat} {ts : Nat → List Int} (h : ∀ j, j < n → (ts j).length = 320) : ∀ j, j ≤ n → (contT n ts j).length = n * 320
  | 0, _ => by simp [contT]
  | j + 1, hj => by
    have ih := contT_len h j (by omega)
    have hl := h j (by omega)
    show (pt (contT n ts j) (320 * j) (ts j)).length = n * 320
    rw [pt_length (by omega)]; exact ih
theorem contT_sl {n : Nat} {ts : Nat → List Int} (h : ∀ j, j < n → (ts j).length = 320) : ∀ j, j ≤ n → ∀ i, i < j → sl (contT n ts j) (320 * i) 320 = ts i
  | 0, _, i, hi => by omega
  | j + 1, hj, i, hi => by
    have ih := contT_sl h j (by omega)
    have hl := h j (by omega)
    have hc := contT_len h j (by omega)
    show sl (pt (contT n ts j) (320 * j) (ts j)) (320 * i) 320 = ts i
    by_cases e : i = j
    · subst e
      exact sl_pt_same (by omega) hl
    · rw [sl_pt_before (by omega) (by omega)]
      exact ih i (by omega)
theorem u8_and_15 {x : Int} (h : 0 ≤ x ∧ x ≤ 255) : bits BinOp.and IntKind.u8 x 15 = x % 16 := byte_of (p := fun y => bits BinOp.and IntKind.u8 y 15 = y % 16) (by decide +kernel) h
set_option maxHeartbeats 8000000 in
theorem many_walk (n : Nat) (tms pts ns : List Int) (ts f : Nat → List Int) (w : World) (Bt Bp ct cp : Nat) (hT : TabC w) (hn1 : 1 ≤ n) (hn2 : n ≤ 2) (AT : Arr .u8 w Bt tms) (AP : Arr .u64 w Bp pts) (ltm : tms.length = 32 * n) (lpt : pts.length = 20 * n) (hby : Bytes tms)
  (hf0 : f 0 = ns) (hns : ns.length = 20) (hfl : RowKit.Hid (∀ i, i ≤ 64 → (f i).length = 20)) (hst : RowKit.Hid (∀ i, StepT n tms ts i (f i) (f (i + 1)))) (hts : RowKit.Hid (∀ j, j < n → (ts j).length = 320))
  (hmul : RowKit.Hid (∀ j, j < n → ∀ w, TabC w → Calls Tryd.prog 71 #[aggI .u64 (sl pts (20 * j) 20)] w fun e w' => e = .returned (aggI .u64 (ts j)) ∧ Below w.heap.size w w'))
  (hz : ∀ w, Calls Tryd.prog 72 #[] w fun e w' => e = .returned (aggI .u64 ns) ∧ Below w.heap.size w w') :
  Calls Tryd.prog 38 #[.slice (some ⟨Bt, 0, none⟩) n ct, .slice (some ⟨Bp, 0, none⟩) n cp] w fun e w' => e = .returned (aggI .u64 (f 64)) ∧ Below w.heap.size w w' := by
 have kt := AT.lt
 have kp := AP.lt
 go_enter Tryd.func38, Tryd.ntmps38
 go_wp2_with (first
  | (with_reducible refine at_n 4 ?_; refine wpList_allocI rfl 46 rfl .u64 20 zero_point ?_; intro w1 AR s1 b1; replace AT := AT.below b1; replace AP := AP.below b1)
  | (with_reducible refine at_n 14 ?_; go_loud (refine wpList_makeI rfl 88 89 _ _ rfl Tryd.underlying88 .u64 320 2560 zero_table info_table (by kernel_rfl) (by decide) n rfl rfl (by omega) (by omega) ?_); intro w2 AT5 s2 b2; have k1 := AR.lt; replace AT := AT.below b2; replace AP := AP.below b2; replace AR := AR.below b2; have BB := below_then b1 b2))
 go_loopw [17] (fun i wr => ∃ (k : Nat), k ≤ n ∧ i = .int .i64 k ∧ Arr .u8 wr Bt tms ∧ Arr .u64 wr Bp pts ∧ Arr .u64 wr w.heap.size (List.replicate 20 0) ∧ Arr .u64 wr w1.heap.size (contT n ts k) ∧ Below w.heap.size w wr) (fun i _ => n - (intOf i).toNat)
 case atStart => exact ⟨0, by omega, rfl, AT, AP, AR, AT5, BB⟩
 case round =>
  clear AT AP AR AT5 BB
  obtain ⟨k, hk, rfl, AT, AP, AR, AT5, BB⟩ := hrel
  have htab := contT_len hts.out k hk
  by_cases hlt : k < n
  ·
   have l_t := hts.out k hlt
   have hmk := hmul.out k hlt
   obtain ⟨pk, hpk⟩ : ∃ x, sl pts (20 * k) 20 = x := ⟨_, rfl⟩
   have l_pk : pk.length = 20 := by rw [← hpk]; exact sl_length (by omega)
   rw [hpk] at hmk
   have HPT : contT n ts (k + 1) = pt (contT n ts k) (320 * k) (ts k) := rfl
   have HPT := Lib.hid HPT
   generalize hc : contT n ts k = tab at *
   generalize ts k = tk at *
   clear hc
   have hmk : ∀ W, TabC W → Calls Tryd.prog 71 #[aggI .u64 pk] W fun e w' => e = .returned (aggI .u64 tk) ∧ Below W.heap.size W w' := hmk
   go_wp2_with (first
  | (with_reducible refine at_n 20 ?_; refine wpList_val' (fun Q hQ => Does.indexS rfl 40 _ _ rfl (n := n) (s := 20) Tryd.underlying40 info_point Bp 0 rfl .i64 (k : Int) rfl (by omega) (by omega) (o1 := 20 * k) (by omega) hQ) ?_)
  | (with_reducible refine at_n 21 ?_; refine wpList_val' (fun Q hQ => Does.loadM rfl 46 _ rfl 20 _ Tryd.underlying46 rfl info_point Bp (20 * k) rfl .u64 pts AP (by omega) hpk hQ) ?_)
  | (with_reducible refine at_n 7 ?_; refine wpList_allocI rfl 46 rfl .u64 20 zero_point ?_; intro w7 A7 s7 b7; have k7t := AT.lt; have k7p := AP.lt; have k7r := AR.lt; have k7a := AT5.lt; replace AT := AT.below b7; replace AP := AP.below b7; replace AR := AR.below b7; replace AT5 := AT5.below b7; replace BB := below_then BB b7; have z7 := BB.size)
  | (with_reducible refine at_op (o := ⟨_, .store 46 (.tmp 7) _, _, _, _, _⟩) ?_; refine wpList_storeI rfl 46 _ _ rfl 20 info_point (wr.heap.size) rfl .u64 _ (pk) rfl (A7) (by simp) (l_pk) ?_; intro D7; replace AT := AT.rowOther (B' := wr.heap.size) (by omega) ((pk).map (Value.int .u64)).toArray; replace AP := AP.rowOther (B' := wr.heap.size) (by omega) ((pk).map (Value.int .u64)).toArray; replace AR := AR.rowOther (B' := wr.heap.size) (by omega) ((pk).map (Value.int .u64)).toArray; replace AT5 := AT5.rowOther (B' := wr.heap.size) (by omega) ((pk).map (Value.int .u64)).toArray; replace BB := Below.setRow BB (g := wr.heap.size) (by omega) ((pk).map (Value.int .u64)).toArray)
  | (with_reducible refine at_n 24 ?_; refine wpList_val' (fun Q hQ => Does.loadM rfl 46 _ rfl 20 _ Tryd.underlying46 rfl info_point (wr.heap.size) 0 rfl .u64 pk D7 (by omega) (sl_all l_pk) hQ) ?_)
  | (go_at_call 71; (with_reducible refine (hmk _ (hT.below BB)).mono ?_); rintro e w8 ⟨rfl, b8⟩; replace AT := AT.below b8; replace AP := AP.below b8; replace AR := AR.below b8; replace AT5 := AT5.below b8; replace BB := below_then BB b8)
  | (with_reducible refine at_n 26 ?_; refine wpList_val' (fun Q hQ => Does.indexS rfl 88 _ _ rfl (n := n) (s := 320) Tryd.underlying88 info_table (w1.heap.size) 0 rfl .i64 (k : Int) rfl (by omega) (by omega) (o1 := 320 * k) (by omega) hQ) ?_)
  | (with_reducible refine at_op (o := ⟨_, .store 89 (.tmp 26) _, _, _, _, _⟩) ?_; go_loud (refine wpList_storeM rfl 89 _ _ rfl 320 info_table (w1.heap.size) (320 * k) rfl .u64 tab tk rfl AT5 l_t (by omega) ?_); intro D5; replace AT := AT.rowOther (B' := w1.heap.size) (by omega) ((pt tab (320 * k) tk).map (Value.int .u64)).toArray; replace AP := AP.rowOther (B' := w1.heap.size) (by omega) ((pt tab (320 * k) tk).map (Value.int .u64)).toArray; replace AR := AR.rowOther (B' := w1.heap.size) (by omega) ((pt tab (320 * k) tk).map (Value.int .u64)).toArray; replace BB := Below.setRow BB (g := w1.heap.size) (by omega) ((pt tab (320 * k) tk).map (Value.int .u64)).toArray))
   exact ⟨⟨k + 1, by omega, by go_num, AT, AP, AR, by rw [HPT.out]; exact D5, BB⟩, by simp only [intOf]; omega⟩
  ·
   obtain rfl : k = n := by omega
   have hsl := Lib.hid (contT_sl hts.out k (Nat.le_refl _))
   generalize contT k ts k = tab at *
   clear hlt hk
   go_wp2_with (first
  | (go_at_call 72; refine (hz _).mono ?_; rintro e w9 ⟨rfl, b9⟩; replace AT := AT.below b9; replace AP := AP.below b9; replace AR := AR.below b9; replace AT5 := AT5.below b9; replace BB := below_then BB b9)
  | (with_reducible refine at_n 8 ?_; refine wpList_allocI rfl 46 rfl .u64 20 zero_point ?_; intro w10 A8 s10 b10; have k8t := AT.lt; have k8p := AP.lt; have k8r := AR.lt; have k8a := AT5.lt; replace AT := AT.below b10; replace AP := AP.below b10; replace AR := AR.below b10; replace AT5 := AT5.below b10; replace BB := below_then BB b10)
  | (with_reducible refine at_op (o := ⟨_, .store 46 (.tmp 8) _, _, _, _, _⟩) ?_; refine wpList_storeI rfl 46 _ _ rfl 20 info_point (w9.heap.size) rfl .u64 _ (ns) rfl (A8) (by simp) (hns) ?_; intro D8; replace AT := AT.rowOther (B' := w9.heap.size) (by omega) ((ns).map (Value.int .u64)).toArray; replace AP := AP.rowOther (B' := w9.heap.size) (by omega) ((ns).map (Value.int .u64)).toArray; replace AR := AR.rowOther (B' := w9.heap.size) (by omega) ((ns).map (Value.int .u64)).toArray; replace AT5 := AT5.rowOther (B' := w9.heap.size) (by omega) ((ns).map (Value.int .u64)).toArray; replace BB := Below.setRow BB (g := w9.heap.size) (by omega) ((ns).map (Value.int .u64)).toArray))
   clear A8 s10 b10 b9
   generalize w9.heap.size = B8 at *
   go_loopw [29] (fun i wr => ∃ (i' : Nat), i' ≤ 64 ∧ i = .int .i64 i' ∧ Arr .u8 wr Bt tms ∧ Arr .u64 wr Bp pts ∧ Arr .u64 wr w.heap.size (List.replicate 20 0) ∧ Arr .u64 wr w1.heap.size tab ∧ Arr .u64 wr B8 (f i') ∧ Below w.heap.size w wr) (fun i _ => 64 - (intOf i).toNat)
   case atStart => exact ⟨0, by omega, rfl, AT, AP, AR, AT5, by rw [hf0]; exact D8, BB⟩
   case round =>
    clear AT AP AR AT5 D8 BB
    obtain ⟨i, hi, rfl, AT, AP, AR, AT5, A8, BB⟩ := hrel
    by_cases hil : i < 64
    ·
     obtain ⟨at_, hat, hatn⟩ : ∃ at_ : Nat, (63 : Int) - (i : Int) = (at_ : Int) ∧ 63 - i = at_ := ⟨63 - i, by omega, rfl⟩
     obtain ⟨d, a, hd0, ha0, hy, hdl, hal, hdc, hac⟩ := hst.out i hil
     rw [hatn] at hac
     have HY := Lib.hid hy
     have HD0 := Lib.hid hd0
     have HA0 := Lib.hid ha0
     have HDL := Lib.hid hdl
     have HAL := Lib.hid hal
     have HDC := Lib.hid hdc
     have HAC := Lib.hid hac
     clear hy hd0 ha0 hdl hal hdc hac
     go_wp2
     go_loopw [34] (fun c wr => ∃ (c' : Nat), c' ≤ 4 ∧ c = .int .i64 c' ∧ Arr .u8 wr Bt tms ∧ Arr .u64 wr Bp pts ∧ Arr .u64 wr w.heap.size (List.replicate 20 0) ∧ Arr .u64 wr w1.heap.size tab ∧ Arr .u64 wr B8 (d c') ∧ Below w.heap.size w wr) (fun c _ => 4 - (intOf c).toNat)
     case atStart => exact ⟨0, by omega, rfl, AT, AP, AR, AT5, by rw [HD0.out]; exact A8, BB⟩
     case round =>
      clear AT AP AR AT5 A8 BB
      obtain ⟨c, hc, rfl, AT, AP, AR, AT5, A8, BB⟩ := hrel
      by_cases hcl : c < 4
      ·
       have l1 := HDL.out c hc
       have l2 := HDL.out (c + 1) (by omega)
       have hcc := HDC.out c hcl
       generalize hx1 : d c = x1 at *
       generalize hx2 : d (c + 1) = x2 at *
       have HX2 := Lib.hid hx2
       clear hx1 hx2
       go_wp2_with (first
  | (with_reducible refine at_n 36 ?_; refine wpList_val' (fun Q hQ => Does.loadM rfl 46 _ rfl 20 _ Tryd.underlying46 rfl info_point (B8) 0 rfl .u64 (x1) A8 (by omega) (sl_all l1) hQ) ?_)
  | (go_at_call 73; (with_reducible refine (hcc _).mono ?_); rintro e w11 ⟨rfl, b11⟩; replace AT := AT.below b11; replace AP := AP.below b11; replace AR := AR.below b11; replace AT5 := AT5.below b11; replace A8 := A8.below b11; replace BB := below_then BB b11)
  | (with_reducible refine at_op (o := ⟨_, .store 46 (.tmp 8) _, _, _, _, _⟩) ?_; refine wpList_storeI rfl 46 _ _ rfl 20 info_point (B8) rfl .u64 _ (x2) rfl (A8) (l1) (l2) ?_; intro D11; replace AT := AT.rowOther (B' := B8) (by omega) ((x2).map (Value.int .u64)).toArray; replace AP := AP.rowOther (B' := B8) (by omega) ((x2).map (Value.int .u64)).toArray; replace AR := AR.rowOther (B' := B8) (by omega) ((x2).map (Value.int .u64)).toArray; replace AT5 := AT5.rowOther (B' := B8) (by omega) ((x2).map (Value.int .u64)).toArray; replace BB := Below.setRow BB (g := B8) (by omega) ((x2).map (Value.int .u64)).toArray; clear A8; have A8 := D11))
       exact ⟨⟨.int .i64 ((c : Int) + 1), .bool true, aggI .u64 x1, aggI .u64 x2, .int .i64 ((c : Int) + 1), ⟨c + 1, by omega, by go_num, AT, AP, AR, AT5, by rw [HX2.out]; exact A8, BB⟩, by rw [show decide ((i : Int) < 64) = true from decide_eq_true (by omega)]⟩, by show 4 - ((c : Int) + 1).toNat < 4 - (c : Int).toNat; omega⟩
      ·
       obtain rfl : c = 4 := by omega
       rw [← HA0.out] at A8
       clear hcl hc
       go_wp2
       go_loopw [41] (fun c wr => ∃ (j : Nat), j ≤ k ∧ c = .int .i64 j ∧ Arr .u8 wr Bt tms ∧ Arr .u64 wr Bp pts ∧ Arr .u64 wr w.heap.size (List.replicate 20 0) ∧ Arr .u64 wr w1.heap.size tab ∧ Arr .u64 wr B8 (a j) ∧ Below w.heap.size w wr) (fun c _ => k - (intOf c).toNat)
       case atStart => exact ⟨0, by omega, rfl, AT, AP, AR, AT5, A8, BB⟩
       case round =>
        clear AT AP AR AT5 A8 BB
        obtain ⟨j, hj, rfl, AT, AP, AR, AT5, A8, BB⟩ := hrel
        by_cases hjl : j < k
        ·
         have l_aj := HAL.out j hj
         have l_ak := HAL.out (j + 1) (by omega)
         have HW := HAC.out j hjl
         have hnb := nib_ok (sl tms (32 * j) 32) at_
         obtain ⟨xb, hxb⟩ : ∃ x, at0 tms (32 * j + at_ / 2) = x := ⟨_, rfl⟩
         have hxr := hby.at (32 * j + at_ / 2)
         rw [hxb] at hxr
         have hnv : nib (sl tms (32 * j) 32) at_ = xb / 2 ^ (4 * (at_ % 2)) % 16 := by
          unfold nib
          rw [sl_at _ _ _ _ (by omega), hxb]
         have hej : sl tab (320 * j + 20 * (nib (sl tms (32 * j) 32) at_).toNat) 20 = sl (ts j) (20 * (nib (sl tms (32 * j) 32) at_).toNat) 20 := by
          rw [← hsl.out j hjl, sl_sl _ _ _ _ _ (by omega)]
         have l_ej : (sl tab (320 * j + 20 * (nib (sl tms (32 * j) 32) at_).toNat) 20).length = 20 := sl_length (by omega)
         rw [← hej] at HW
         clear hej
         generalize nib (sl tms (32 * j) 32) at_ = v at *
         generalize hej : sl tab (320 * j + 20 * v.toNat) 20 = ej at *
         generalize hx1 : a j = aj at *
         generalize hx2 : a (j + 1) = ak at *
         have HX2 := Lib.hid hx2
         clear hx1 hx2
         have hp01 : at_ % 2 = 0 ∨ at_ % 2 = 1 := by omega
         have hat2 : at_ < 64 := by omega
         have HX2' := HX2
         rcases hp01 with hp | hp
         ·
          rw [hp] at hnv
          have e55 : (at_ : Int) % 2 = 0 := by omega
          obtain ⟨ys, hys⟩ : ∃ ys, xb = ys := ⟨_, rfl⟩
          have hyr : 0 ≤ ys ∧ ys ≤ 255 := by omega
          have hand := u8_and_15 hyr
          have hv0 : ys % 16 = v := by rw [hnv, ← hys]; simp
          rw [hv0] at hand
          clear hnv hv0
          have hw2 : IntKind.i64.wrap ((at_ : Int) / 2) = (at_ : Int) / 2 := wrap_i64_small (by omega) (by omega)
          have htm : (at_ : Int).tmod 2 = 0 := by rw [Int.tmod_eq_emod_of_nonneg (by omega)]; omega
          have hw0 : IntKind.i64.wrap 0 = 0 := rfl
          have hw1 : IntKind.i64.wrap 0 = 0 := rfl
          go_wp2
          have k61_0 := AT.lt
          have k61_1 := AP.lt
          have k61_2 := AR.lt
          have k61_3 := AT5.lt
          have k61_4 := A8.lt
          refine wp_region_ord [[], [], [], [], [], [], [5], [3, 4], [7, 6], [8], [], [10], [11], [9, 12], [13], [1, 2], [15, 14], [16], [0, 17], [18, 18, 0, 1, 2, 3, 4, 5, 6, 7, 8, 9, 10, 11, 12, 13, 14, 15, 16, 17, 18]] [some 44, some 45, some 46, some 47, some 48, some 49, some 50, some 51, some 52, some 53, some 54, some 55, some 56, some 57, some 58, some 59, some 60, some 61, some 62, none] 19 (fun b w' => Arr .u8 w' (Bt) tms ∧ Arr .u64 w' (Bp) pts ∧ Arr .u64 w' (w.heap.size) (List.replicate 20 0) ∧ Arr .u64 w' (w1.heap.size) tab ∧ Arr .u64 w' (B8) (if b then ak else aj) ∧ Below w.heap.size w w') (fun opn f _ => match opn with | 0 => f 0 = aggI .u64 aj | 1 => f 1 = .slice (some ⟨w1.heap.size, 0, none⟩) k k | 2 => f 2 = .int .i64 ((j : Int)) | 3 => f 3 = .slice (some ⟨Bt, 0, none⟩) k ct | 4 => f 4 = .int .i64 ((j : Int)) | 5 => f 5 = .int .i64 ((at_ : Int)) | 6 => f 6 = .int .i64 (((at_ : Int) / 2)) | 7 => f 7 = .pointer (some ⟨Bt, 32 * j, none⟩) | 8 => f 8 = .pointer (some ⟨Bt, 32 * j + at_ / 2, none⟩) | 9 => f 9 = .int .u8 xb | 10 => f 10 = .int .i64 ((at_ : Int)) | 11 => f 11 = .int .i64 0 | 12 => f 12 = .int .i64 0 | 13 => f 13 = .int .u8 ys | 14 => f 14 = .int .u8 v | 15 => f 15 = .pointer (some ⟨w1.heap.size, 320 * j, none⟩) | 16 => f 16 = .pointer (some ⟨w1.heap.size, 320 * j + 20 * v.toNat, none⟩) | 17 => f 17 = aggI .u64 ej | 18 => f 18 = aggI .u64 ak | 19 => f 19 = undef | _ => True) (fun _ v v' => ∃ cs, v' = v.setRow (B8) cs) (by kernel_rfl) (by kernel_rfl) (by kernel_rfl) (by kernel_rfl) (fun b v v' hb h => ⟨h.1.below hb, h.2.1.below hb, h.2.2.1.below hb, h.2.2.2.1.below hb, h.2.2.2.2.1.below hb, below_then h.2.2.2.2.2 hb⟩) (fun _ _ _ _ _ h => h) (fun _ _ _ _ _ _ _ h => h) ⟨AT.drew, AP.drew, AR.drew, AT5.drew, A8.drew, BB.drew⟩ ?_ ?_
          ·
           refine StepL.other (k := 0) rfl (fun b f W hb hG hH => ?_) ?_
           ·
            obtain rfl := hb rfl
            clear hH
            generalize hA : putL _ _ _ _ = A
            have q8 : A.eval (.tmp 8) = .pointer (some ⟨B8, 0, none⟩) := putLn hA 8 rfl rfl rfl
            clear hA
            exact Does.loadM rfl 46 _ rfl 20 _ Tryd.underlying46 rfl info_point (B8) (0) q8 .u64 (aj) (hG.2.2.2.2.1) (by omega) (sl_all l_aj) ⟨Below.refl _ _, rfl⟩
           refine StepL.other (k := 1) rfl (fun b f W hb hG hH => ?_) ?_
           ·
            obtain rfl := hb rfl
            clear hH
            generalize hA : putL _ _ _ _ = A
            have q5 : A.eval (.tmp 5) = .slice (some ⟨w1.heap.size, 0, none⟩) k k := putLn hA 5 rfl rfl rfl
            have r5 := slot_get q5
            clear hA
            refine Does.pure rfl (.slice (some ⟨w1.heap.size, 0, none⟩) k k) ?_ ⟨Below.refl _ _, rfl⟩
            go_simp
           refine StepL.other (k := 2) rfl (fun b f W hb hG hH => ?_) ?_
           ·
            obtain rfl := hb rfl
            clear hH
            generalize hA : putL _ _ _ _ = A
            have q11 : A.eval (.tmp 11) = .int .i64 ((j : Int)) := putLn hA 11 rfl rfl rfl
            have r11 := slot_get q11
            clear hA
            refine Does.pure rfl (.int .i64 ((j : Int))) ?_ ⟨Below.refl _ _, rfl⟩
            go_simp
           refine StepL.other (k := 3) rfl (fun b f W hb hG hH => ?_) ?_
           ·
            obtain rfl := hb rfl
            clear hH
            generalize hA : putL _ _ _ _ = A
            have q0 : A.eval (.tmp 0) = .slice (some ⟨Bt, 0, none⟩) k ct := putLn hA 0 rfl rfl rfl
            have r0 := slot_get q0
            clear hA
            refine Does.pure rfl (.slice (some ⟨Bt, 0, none⟩) k ct) ?_ ⟨Below.refl _ _, rfl⟩
            go_simp
           refine StepL.other (k := 4) rfl (fun b f W hb hG hH => ?_) ?_
           ·
            obtain rfl := hb rfl
            clear hH
            generalize hA : putL _ _ _ _ = A
            have q11 : A.eval (.tmp 11) = .int .i64 ((j : Int)) := putLn hA 11 rfl rfl rfl
            have r11 := slot_get q11
            clear hA
            refine Does.pure rfl (.int .i64 ((j : Int))) ?_ ⟨Below.refl _ _, rfl⟩
            go_simp
           refine StepL.other (k := 5) rfl (fun b f W hb hG hH => ?_) ?_
           ·
            obtain rfl := hb rfl
            clear hH
            generalize hA : putL _ _ _ _ = A
            have q10 : A.eval (.tmp 10) = .int .i64 ((at_ : Int)) := putLn hA 10 rfl rfl rfl
            have r10 := slot_get q10
            clear hA
            refine Does.pure rfl (.int .i64 ((at_ : Int))) ?_ ⟨Below.refl _ _, rfl⟩
            go_simp
           refine StepL.other (k := 6) rfl (fun b f W hb hG hH => ?_) ?_
           ·
            obtain rfl := hb rfl
            obtain ⟨d5, -⟩ := hH
            generalize hA : putL _ _ _ _ = A
            have q49 := putLl hA 49 d5 rfl rfl
            have r49 := slot_get q49
            clear hA
            refine Does.pure rfl (.int .i64 (((at_ : Int) / 2))) ?_ ⟨Below.refl _ _, rfl⟩
            go_simp
           refine StepL.other (k := 7) rfl (fun b f W hb hG hH => ?_) ?_
           ·
            obtain rfl := hb rfl
            obtain ⟨d3, d4, -⟩ := hH
            generalize hA : putL _ _ _ _ = A
            have q47 := putLl hA 47 d3 rfl rfl
            have q48 := putLl hA 48 d4 rfl rfl
            clear hA
            exact Does.indexS rfl 61 _ _ rfl (n := k) (s := 32) Tryd.underlying61 info_a32 Bt 0 q47 .i64 (j : Int) q48 (by omega) (by omega) (o1 := 32 * j) (by omega) ⟨Below.refl _ _, rfl⟩
           refine StepL.other (k := 8) rfl (fun b f W hb hG hH => ?_) ?_
           ·
            obtain rfl := hb rfl
            obtain ⟨d7, d6, -⟩ := hH
            generalize hA : putL _ _ _ _ = A
            have q51 := putLl hA 51 d7 rfl rfl
            have q50 := putLl hA 50 d6 rfl rfl
            clear hA
            exact Does.indexA rfl 22 _ _ rfl (n := 32) (s := 1) und_a32 (by kernel_rfl) Bt (32 * j) q51 .i64 ((at_ : Int) / 2) q50 (by omega) (by omega) (o1 := 32 * j + at_ / 2) (by omega) ⟨Below.refl _ _, rfl⟩
           refine StepL.other (k := 9) rfl (fun b f W hb hG hH => ?_) ?_
           ·
            obtain rfl := hb rfl
            obtain ⟨d8, -⟩ := hH
            generalize hA : putL _ _ _ _ = A
            have q52 := putLl hA 52 d8 rfl rfl
            clear hA
            exact Does.loadC rfl 5 _ rfl _ Tryd.underlying5 rfl Bt (32 * j + at_ / 2) q52 .u8 tms hG.1 (by omega) hxb ⟨Below.refl _ _, rfl⟩
           refine StepL.other (k := 10) rfl (fun b f W hb hG hH => ?_) ?_
           ·
            obtain rfl := hb rfl
            clear hH
            generalize hA : putL _ _ _ _ = A
            have q10 : A.eval (.tmp 10) = .int .i64 ((at_ : Int)) := putLn hA 10 rfl rfl rfl
            have r10 := slot_get q10
            clear hA
            refine Does.pure rfl (.int .i64 ((at_ : Int))) ?_ ⟨Below.refl _ _, rfl⟩
            go_simp
           refine StepL.other (k := 11) rfl (fun b f W hb hG hH => ?_) ?_
           ·
            obtain rfl := hb rfl
            obtain ⟨d10, -⟩ := hH
            generalize hA : putL _ _ _ _ = A
            have q54 := putLl hA 54 d10 rfl rfl
            have r54 := slot_get q54
            clear hA
            refine Does.pure rfl (.int .i64 0) ?_ ⟨Below.refl _ _, rfl⟩
            go_simp
           refine StepL.other (k := 12) rfl (fun b f W hb hG hH => ?_) ?_
           ·
            obtain rfl := hb rfl
            obtain ⟨d11, -⟩ := hH
            generalize hA : putL _ _ _ _ = A
            have q55 := putLl hA 55 d11 rfl rfl
            have r55 := slot_get q55
            clear hA
            refine Does.pure rfl (.int .i64 0) ?_ ⟨Below.refl _ _, rfl⟩
            go_simp
           refine StepL.other (k := 13) rfl (fun b f W hb hG hH => ?_) ?_
           ·
            obtain rfl := hb rfl
            obtain ⟨d9, d12, -⟩ := hH
            generalize hA : putL _ _ _ _ = A
            have q53 := putLl hA 53 d9 rfl rfl
            have r53 := slot_get q53
            have q56 := putLl hA 56 d12 rfl rfl
            have r56 := slot_get q56
            clear hA
            refine Does.pure rfl (.int .u8 ys) ?_ ⟨Below.refl _ _, rfl⟩
            go_simp
           refine StepL.other (k := 14) rfl (fun b f W hb hG hH => ?_) ?_
           ·
            obtain rfl := hb rfl
            obtain ⟨d13, -⟩ := hH
            generalize hA : putL _ _ _ _ = A
            have q57 := putLl hA 57 d13 rfl rfl
            have r57 := slot_get q57
            clear hA
            refine Does.pure rfl (.int .u8 v) ?_ ⟨Below.refl _ _, rfl⟩
            go_simp
           refine StepL.other (k := 15) rfl (fun b f W hb hG hH => ?_) ?_
           ·
            obtain rfl := hb rfl
            obtain ⟨d1, d2, -⟩ := hH
            generalize hA : putL _ _ _ _ = A
            have q45 := putLl hA 45 d1 rfl rfl
            have q46 := putLl hA 46 d2 rfl rfl
            clear hA
            exact Does.indexS rfl 88 _ _ rfl (n := k) (s := 320) Tryd.underlying88 info_table (w1.heap.size) 0 q45 .i64 (j : Int) q46 (by omega) (by omega) (o1 := 320 * j) (by omega) ⟨Below.refl _ _, rfl⟩
           refine StepL.other (k := 16) rfl (fun b f W hb hG hH => ?_) ?_
           ·
            obtain rfl := hb rfl
            obtain ⟨d15, d14, -⟩ := hH
            generalize hA : putL _ _ _ _ = A
            have q59 := putLl hA 59 d15 rfl rfl
            have q58 := putLl hA 58 d14 rfl rfl
            clear hA
            exact Does.indexA rfl 89 _ _ rfl (n := 16) (s := 20) Tryd.underlying89 info_point (w1.heap.size) (320 * j) q59 .u8 v q58 (by omega) (by omega) (o1 := 320 * j + 20 * v.toNat) (by omega) ⟨Below.refl _ _, rfl⟩
           refine StepL.other (k := 17) rfl (fun b f W hb hG hH => ?_) ?_
           ·
            obtain rfl := hb rfl
            obtain ⟨d16, -⟩ := hH
            generalize hA : putL _ _ _ _ = A
            have q60 := putLl hA 60 d16 rfl rfl
            clear hA
            exact Does.loadM rfl 46 _ rfl 20 _ Tryd.underlying46 rfl info_point (w1.heap.size) (320 * j + 20 * v.toNat) q60 .u64 (tab) (hG.2.2.2.1) (by omega) (hej) ⟨Below.refl _ _, rfl⟩
           refine StepL.other (k := 18) rfl (fun b f W hb hG hH => ?_) ?_
           ·
            obtain rfl := hb rfl
            obtain ⟨d0, d17, -⟩ := hH
            generalize hA : putL _ _ _ _ = A
            have q44 := putLl hA 44 d0 rfl rfl
            have r44 := slot_get q44
            have q61 := putLl hA 61 d17 rfl rfl
            have r61 := slot_get q61
            clear hA
            refine Does.call rfl _ _ (by go_simp) ((HW W (hT.below (hG.2.2.2.2.2))).mono ?_)
            rintro e w' ⟨rfl, hb'⟩
            exact ⟨_, rfl, hb', rfl⟩
           refine StepL.self (k := 19) rfl (fun f W hG hH => ?_) ?_
           ·
            obtain ⟨d18, -, d0, d1, d2, d3, d4, d5, d6, d7, d8, d9, d10, d11, d12, d13, d14, d15, d16, d17, -, -⟩ := hH
            generalize hA : putL _ _ _ _ = A
            have q8 : A.eval (.tmp 8) = .pointer (some ⟨B8, 0, none⟩) := putLn hA 8 rfl rfl rfl
            have r8 := slot_get q8
            have q62 := putLl hA 62 d18 rfl rfl
            have r62 := slot_get q62
            clear hA
            have hZ : Arr .u64 W (B8) aj := hG.2.2.2.2.1
            refine Does.storeI rfl 46 _ _ rfl 20 info_point (B8) q8 .u64 _ (ak) q62 hZ (l_aj) (l_ak) ?_
            intro A9
            exact ⟨⟨_, rfl⟩, ⟨hG.1.rowOther (by omega) _, hG.2.1.rowOther (by omega) _, hG.2.2.1.rowOther (by omega) _, hG.2.2.2.1.rowOther (by omega) _, A9, Below.setRow hG.2.2.2.2.2 (by omega) _⟩, rfl⟩
           exact trivial
          ·
           intro f V61 hG hH
           obtain ⟨d0, d1, d2, d3, d4, d5, d6, d7, d8, d9, d10, d11, d12, d13, d14, d15, d16, d17, d18, d19, -⟩ : (f 0 = aggI .u64 aj) ∧ (f 1 = .slice (some ⟨w1.heap.size, 0, none⟩) k k) ∧ (f 2 = .int .i64 ((j : Int))) ∧ (f 3 = .slice (some ⟨Bt, 0, none⟩) k ct) ∧ (f 4 = .int .i64 ((j : Int))) ∧ (f 5 = .int .i64 ((at_ : Int))) ∧ (f 6 = .int .i64 (((at_ : Int) / 2))) ∧ (f 7 = .pointer (some ⟨Bt, 32 * j, none⟩)) ∧ (f 8 = .pointer (some ⟨Bt, 32 * j + at_ / 2, none⟩)) ∧ (f 9 = .int .u8 xb) ∧ (f 10 = .int .i64 ((at_ : Int))) ∧ (f 11 = .int .i64 0) ∧ (f 12 = .int .i64 0) ∧ (f 13 = .int .u8 ys) ∧ (f 14 = .int .u8 v) ∧ (f 15 = .pointer (some ⟨w1.heap.size, 320 * j, none⟩)) ∧ (f 16 = .pointer (some ⟨w1.heap.size, 320 * j + 20 * v.toNat, none⟩)) ∧ (f 17 = aggI .u64 ej) ∧ (f 18 = aggI .u64 ak) ∧ (f 19 = undef) ∧ True := hH
           rw [show List.range (List.length [[], [], [], [], [], [], [5], [3, 4], [7, 6], [8], [], [10], [11], [9, 12], [13], [1, 2], [15, 14], [16], [0, 17], [18, 18, 0, 1, 2, 3, 4, 5, 6, 7, 8, 9, 10, 11, 12, 13, 14, 15, 16, 17, 18]]) = [0, 1, 2, 3, 4, 5, 6, 7, 8, 9, 10, 11, 12, 13, 14, 15, 16, 17, 18, 19] from rfl]
           simp only [putL, List.getElem?_cons_zero, List.getElem?_cons_succ, Option.join, Option.bind_some, id_eq, Act.put, List.setIfInBounds_toArray, List.set_cons_zero, List.set_cons_succ, d0, d1, d2, d3, d4, d5, d6, d7, d8, d9, d10, d11, d12, d13, d14, d15, d16, d17, d18]
           clear d0 d1 d2 d3 d4 d5 d6 d7 d8 d9 d10 d11 d12 d13 d14 d15 d16 d17 d18 d19
           clear AT AP AR AT5 A8
           obtain ⟨AT, AP, AR, AT5, A8, BV⟩ := hG
           have A8 : Arr .u64 V61 (B8) ak := A8
           clear BB
           have BB := BV
           clear BV
           have zz61 := BB.size
           go_wp2
           exact ⟨⟨j + 1, by omega, by go_num, AT, AP, AR, AT5, by rw [HX2.out]; exact A8, BB⟩, by simp only [intOf]; omega⟩
         ·
          rw [hp] at hnv
          have e55 : (at_ : Int) % 2 = 1 := by omega
          obtain ⟨ys, hys⟩ : ∃ ys, xb / 16 = ys := ⟨_, rfl⟩
          have hyr : 0 ≤ ys ∧ ys ≤ 255 := by omega
          have hand := u8_and_15 hyr
          have hv0 : ys % 16 = v := by rw [hnv, ← hys]; rfl
          rw [hv0] at hand
          clear hnv hv0
          have hw2 : IntKind.i64.wrap ((at_ : Int) / 2) = (at_ : Int) / 2 := wrap_i64_small (by omega) (by omega)
          have htm : (at_ : Int).tmod 2 = 1 := by rw [Int.tmod_eq_emod_of_nonneg (by omega)]; omega
          have hw0 : IntKind.i64.wrap 4 = 4 := rfl
          have hw1 : IntKind.i64.wrap 1 = 1 := rfl
          go_wp2
          have k61_0 := AT.lt
          have k61_1 := AP.lt
          have k61_2 := AR.lt
          have k61_3 := AT5.lt
          have k61_4 := A8.lt
          refine wp_region_ord [[], [], [], [], [], [], [5], [3, 4], [7, 6], [8], [], [10], [11], [9, 12], [13], [1, 2], [15, 14], [16], [0, 17], [18, 18, 0, 1, 2, 3, 4, 5, 6, 7, 8, 9, 10, 11, 12, 13, 14, 15, 16, 17, 18]] [some 44, some 45, some 46, some 47, some 48, some 49, some 50, some 51, some 52, some 53, some 54, some 55, some 56, some 57, some 58, some 59, some 60, some 61, some 62, none] 19 (fun b w' => Arr .u8 w' (Bt) tms ∧ Arr .u64 w' (Bp) pts ∧ Arr .u64 w' (w.heap.size) (List.replicate 20 0) ∧ Arr .u64 w' (w1.heap.size) tab ∧ Arr .u64 w' (B8) (if b then ak else aj) ∧ Below w.heap.size w w') (fun opn f _ => match opn with | 0 => f 0 = aggI .u64 aj | 1 => f 1 = .slice (some ⟨w1.heap.size, 0, none⟩) k k | 2 => f 2 = .int .i64 ((j : Int)) | 3 => f 3 = .slice (some ⟨Bt, 0, none⟩) k ct | 4 => f 4 = .int .i64 ((j : Int)) | 5 => f 5 = .int .i64 ((at_ : Int)) | 6 => f 6 = .int .i64 (((at_ : Int) / 2)) | 7 => f 7 = .pointer (some ⟨Bt, 32 * j, none⟩) | 8 => f 8 = .pointer (some ⟨Bt, 32 * j + at_ / 2, none⟩) | 9 => f 9 = .int .u8 xb | 10 => f 10 = .int .i64 ((at_ : Int)) | 11 => f 11 = .int .i64 1 | 12 => f 12 = .int .i64 4 | 13 => f 13 = .int .u8 ys | 14 => f 14 = .int .u8 v | 15 => f 15 = .pointer (some ⟨w1.heap.size, 320 * j, none⟩) | 16 => f 16 = .pointer (some ⟨w1.heap.size, 320 * j + 20 * v.toNat, none⟩) | 17 => f 17 = aggI .u64 ej | 18 => f 18 = aggI .u64 ak | 19 => f 19 = undef | _ => True) (fun _ v v' => ∃ cs, v' = v.setRow (B8) cs) (by kernel_rfl) (by kernel_rfl) (by kernel_rfl) (by kernel_rfl) (fun b v v' hb h => ⟨h.1.below hb, h.2.1.below hb, h.2.2.1.below hb, h.2.2.2.1.below hb, h.2.2.2.2.1.below hb, below_then h.2.2.2.2.2 hb⟩) (fun _ _ _ _ _ h => h) (fun _ _ _ _ _ _ _ h => h) ⟨AT.drew, AP.drew, AR.drew, AT5.drew, A8.drew, BB.drew⟩ ?_ ?_
          ·
           refine StepL.other (k := 0) rfl (fun b f W hb hG hH => ?_) ?_
           ·
            obtain rfl := hb rfl
            clear hH
            generalize hA : putL _ _ _ _ = A
            have q8 : A.eval (.tmp 8) = .pointer (some ⟨B8, 0, none⟩) := putLn hA 8 rfl rfl rfl
            clear hA
            exact Does.loadM rfl 46 _ rfl 20 _ Tryd.underlying46 rfl info_point (B8) (0) q8 .u64 (aj) (hG.2.2.2.2.1) (by omega) (sl_all l_aj) ⟨Below.refl _ _, rfl⟩
           refine StepL.other (k := 1) rfl (fun b f W hb hG hH => ?_) ?_
           ·
            obtain rfl := hb rfl
            clear hH
            generalize hA : putL _ _ _ _ = A
            have q5 : A.eval (.tmp 5) = .slice (some ⟨w1.heap.size, 0, none⟩) k k := putLn hA 5 rfl rfl rfl
            have r5 := slot_get q5
            clear hA
            refine Does.pure rfl (.slice (some ⟨w1.heap.size, 0, none⟩) k k) ?_ ⟨Below.refl _ _, rfl⟩
            go_simp
           refine StepL.other (k := 2) rfl (fun b f W hb hG hH => ?_) ?_
           ·
            obtain rfl := hb rfl
            clear hH
            generalize hA : putL _ _ _ _ = A
            have q11 : A.eval (.tmp 11) = .int .i64 ((j : Int)) := putLn hA 11 rfl rfl rfl
            have r11 := slot_get q11
            clear hA
            refine Does.pure rfl (.int .i64 ((j : Int))) ?_ ⟨Below.refl _ _, rfl⟩
            go_simp
           refine StepL.other (k := 3) rfl (fun b f W hb hG hH => ?_) ?_
           ·
            obtain rfl := hb rfl
            clear hH
            generalize hA : putL _ _ _ _ = A
            have q0 : A.eval (.tmp 0) = .slice (some ⟨Bt, 0, none⟩) k ct := putLn hA 0 rfl rfl rfl
            have r0 := slot_get q0
            clear hA
            refine Does.pure rfl (.slice (some ⟨Bt, 0, none⟩) k ct) ?_ ⟨Below.refl _ _, rfl⟩
            go_simp
           refine StepL.other (k := 4) rfl (fun b f W hb hG hH => ?_) ?_
           ·
            obtain rfl := hb rfl
            clear hH
            generalize hA : putL _ _ _ _ = A
            have q11 : A.eval (.tmp 11) = .int .i64 ((j : Int)) := putLn hA 11 rfl rfl rfl
            have r11 := slot_get q11
            clear hA
            refine Does.pure rfl (.int .i64 ((j : Int))) ?_ ⟨Below.refl _ _, rfl⟩
            go_simp
           refine StepL.other (k := 5) rfl (fun b f W hb hG hH => ?_) ?_
           ·
            obtain rfl := hb rfl
            clear hH
            generalize hA : putL _ _ _ _ = A
            have q10 : A.eval (.tmp 10) = .int .i64 ((at_ : Int)) := putLn hA 10 rfl rfl rfl
            have r10 := slot_get q10
            clear hA
            refine Does.pure rfl (.int .i64 ((at_ : Int))) ?_ ⟨Below.refl _ _, rfl⟩
            go_simp
           refine StepL.other (k := 6) rfl (fun b f W hb hG hH => ?_) ?_
           ·
            obtain rfl := hb rfl
            obtain ⟨d5, -⟩ := hH
            generalize hA : putL _ _ _ _ = A
            have q49 := putLl hA 49 d5 rfl rfl
            have r49 := slot_get q49
            clear hA
            refine Does.pure rfl (.int .i64 (((at_ : Int) / 2))) ?_ ⟨Below.refl _ _, rfl⟩
            go_simp
           refine StepL.other (k := 7) rfl (fun b f W hb hG hH => ?_) ?_
           ·
            obtain rfl := hb rfl
            obtain ⟨d3, d4, -⟩ := hH
            generalize hA : putL _ _ _ _ = A
            have q47 := putLl hA 47 d3 rfl rfl
            have q48 := putLl hA 48 d4 rfl rfl
            clear hA
            exact Does.indexS rfl 61 _ _ rfl (n := k) (s := 32) Tryd.underlying61 info_a32 Bt 0 q47 .i64 (j : Int) q48 (by omega) (by omega) (o1 := 32 * j) (by omega) ⟨Below.refl _ _, rfl⟩
           refine StepL.other (k := 8) rfl (fun b f W hb hG hH => ?_) ?_
           ·
            obtain rfl := hb rfl
            obtain ⟨d7, d6, -⟩ := hH
            generalize hA : putL _ _ _ _ = A
            have q51 := putLl hA 51 d7 rfl rfl
            have q50 := putLl hA 50 d6 rfl rfl
            clear hA
            exact Does.indexA rfl 22 _ _ rfl (n := 32) (s := 1) und_a32 (by kernel_rfl) Bt (32 * j) q51 .i64 ((at_ : Int) / 2) q50 (by omega) (by omega) (o1 := 32 * j + at_ / 2) (by omega) ⟨Below.refl _ _, rfl⟩
           refine StepL.other (k := 9) rfl (fun b f W hb hG hH => ?_) ?_
           ·
            obtain rfl := hb rfl
            obtain ⟨d8, -⟩ := hH
            generalize hA : putL _ _ _ _ = A
            have q52 := putLl hA 52 d8 rfl rfl
            clear hA
            exact Does.loadC rfl 5 _ rfl _ Tryd.underlying5 rfl Bt (32 * j + at_ / 2) q52 .u8 tms hG.1 (by omega) hxb ⟨Below.refl _ _, rfl⟩
           refine StepL.other (k := 10) rfl (fun b f W hb hG hH => ?_) ?_
           ·
            obtain rfl := hb rfl
            clear hH
            generalize hA : putL _ _ _ _ = A
            have q10 : A.eval (.tmp 10) = .int .i64 ((at_ : Int)) := putLn hA 10 rfl rfl rfl
            have r10 := slot_get q10
            clear hA
            refine Does.pure rfl (.int .i64 ((at_ : Int))) ?_ ⟨Below.refl _ _, rfl⟩
            go_simp
           refine StepL.other (k := 11) rfl (fun b f W hb hG hH => ?_) ?_
           ·
            obtain rfl := hb rfl
            obtain ⟨d10, -⟩ := hH
            generalize hA : putL _ _ _ _ = A
            have q54 := putLl hA 54 d10 rfl rfl
            have r54 := slot_get q54
            clear hA
            refine Does.pure rfl (.int .i64 1) ?_ ⟨Below.refl _ _, rfl⟩
            go_simp
           refine StepL.other (k := 12) rfl (fun b f W hb hG hH => ?_) ?_
           ·
            obtain rfl := hb rfl
            obtain ⟨d11, -⟩ := hH
            generalize hA : putL _ _ _ _ = A
            have q55 := putLl hA 55 d11 rfl rfl
            have r55 := slot_get q55
            clear hA
            refine Does.pure rfl (.int .i64 4) ?_ ⟨Below.refl _ _, rfl⟩
            go_simp
           refine StepL.other (k := 13) rfl (fun b f W hb hG hH => ?_) ?_
           ·
            obtain rfl := hb rfl
            obtain ⟨d9, d12, -⟩ := hH
            generalize hA : putL _ _ _ _ = A
            have q53 := putLl hA 53 d9 rfl rfl
            have r53 := slot_get q53
            have q56 := putLl hA 56 d12 rfl rfl
            have r56 := slot_get q56
            clear hA
            refine Does.pure rfl (.int .u8 ys) ?_ ⟨Below.refl _ _, rfl⟩
            go_simp
           refine StepL.other (k := 14) rfl (fun b f W hb hG hH => ?_) ?_
           ·
            obtain rfl := hb rfl
            obtain ⟨d13, -⟩ := hH
            generalize hA : putL _ _ _ _ = A
            have q57 := putLl hA 57 d13 rfl rfl
            have r57 := slot_get q57
            clear hA
            refine Does.pure rfl (.int .u8 v) ?_ ⟨Below.refl _ _, rfl⟩
            go_simp
           refine StepL.other (k := 15) rfl (fun b f W hb hG hH => ?_) ?_
           ·
            obtain rfl := hb rfl
            obtain ⟨d1, d2, -⟩ := hH
            generalize hA : putL _ _ _ _ = A
            have q45 := putLl hA 45 d1 rfl rfl
            have q46 := putLl hA 46 d2 rfl rfl
            clear hA
            exact Does.indexS rfl 88 _ _ rfl (n := k) (s := 320) Tryd.underlying88 info_table (w1.heap.size) 0 q45 .i64 (j : Int) q46 (by omega) (by omega) (o1 := 320 * j) (by omega) ⟨Below.refl _ _, rfl⟩
           refine StepL.other (k := 16) rfl (fun b f W hb hG hH => ?_) ?_
           ·
            obtain rfl := hb rfl
            obtain ⟨d15, d14, -⟩ := hH
            generalize hA : putL _ _ _ _ = A
            have q59 := putLl hA 59 d15 rfl rfl
            have q58 := putLl hA 58 d14 rfl rfl
            clear hA
            exact Does.indexA rfl 89 _ _ rfl (n := 16) (s := 20) Tryd.underlying89 info_point (w1.heap.size) (320 * j) q59 .u8 v q58 (by omega) (by omega) (o1 := 320 * j + 20 * v.toNat) (by omega) ⟨Below.refl _ _, rfl⟩
           refine StepL.other (k := 17) rfl (fun b f W hb hG hH => ?_) ?_
           ·
            obtain rfl := hb rfl
            obtain ⟨d16, -⟩ := hH
            generalize hA : putL _ _ _ _ = A
            have q60 := putLl hA 60 d16 rfl rfl
            clear hA
            exact Does.loadM rfl 46 _ rfl 20 _ Tryd.underlying46 rfl info_point (w1.heap.size) (320 * j + 20 * v.toNat) q60 .u64 (tab) (hG.2.2.2.1) (by omega) (hej) ⟨Below.refl _ _, rfl⟩
           refine StepL.other (k := 18) rfl (fun b f W hb hG hH => ?_) ?_
           ·
            obtain rfl := hb rfl
            obtain ⟨d0, d17, -⟩ := hH
            generalize hA : putL _ _ _ _ = A
            have q44 := putLl hA 44 d0 rfl rfl
            have r44 := slot_get q44
            have q61 := putLl hA 61 d17 rfl rfl
            have r61 := slot_get q61
            clear hA
            refine Does.call rfl _ _ (by go_simp) ((HW W (hT.below (hG.2.2.2.2.2))).mono ?_)
            rintro e w' ⟨rfl, hb'⟩
            exact ⟨_, rfl, hb', rfl⟩
           refine StepL.self (k := 19) rfl (fun f W hG hH => ?_) ?_
           ·
            obtain ⟨d18, -, d0, d1, d2, d3, d4, d5, d6, d7, d8, d9, d10, d11, d12, d13, d14, d15, d16, d17, -, -⟩ := hH
            generalize hA : putL _ _ _ _ = A
            have q8 : A.eval (.tmp 8) = .pointer (some ⟨B8, 0, none⟩) := putLn hA 8 rfl rfl rfl
            have r8 := slot_get q8
            have q62 := putLl hA 62 d18 rfl rfl
            have r62 := slot_get q62
            clear hA
            have hZ : Arr .u64 W (B8) aj := hG.2.2.2.2.1
            refine Does.storeI rfl 46 _ _ rfl 20 info_point (B8) q8 .u64 _ (ak) q62 hZ (l_aj) (l_ak) ?_
            intro A9
            exact ⟨⟨_, rfl⟩, ⟨hG.1.rowOther (by omega) _, hG.2.1.rowOther (by omega) _, hG.2.2.1.rowOther (by omega) _, hG.2.2.2.1.rowOther (by omega) _, A9, Below.setRow hG.2.2.2.2.2 (by omega) _⟩, rfl⟩
           exact trivial
          ·
           intro f V61 hG hH
           obtain ⟨d0, d1, d2, d3, d4, d5, d6, d7, d8, d9, d10, d11, d12, d13, d14, d15, d16, d17, d18, d19, -⟩ : (f 0 = aggI .u64 aj) ∧ (f 1 = .slice (some ⟨w1.heap.size, 0, none⟩) k k) ∧ (f 2 = .int .i64 ((j : Int))) ∧ (f 3 = .slice (some ⟨Bt, 0, none⟩) k ct) ∧ (f 4 = .int .i64 ((j : Int))) ∧ (f 5 = .int .i64 ((at_ : Int))) ∧ (f 6 = .int .i64 (((at_ : Int) / 2))) ∧ (f 7 = .pointer (some ⟨Bt, 32 * j, none⟩)) ∧ (f 8 = .pointer (some ⟨Bt, 32 * j + at_ / 2, none⟩)) ∧ (f 9 = .int .u8 xb) ∧ (f 10 = .int .i64 ((at_ : Int))) ∧ (f 11 = .int .i64 1) ∧ (f 12 = .int .i64 4) ∧ (f 13 = .int .u8 ys) ∧ (f 14 = .int .u8 v) ∧ (f 15 = .pointer (some ⟨w1.heap.size, 320 * j, none⟩)) ∧ (f 16 = .pointer (some ⟨w1.heap.size, 320 * j + 20 * v.toNat, none⟩)) ∧ (f 17 = aggI .u64 ej) ∧ (f 18 = aggI .u64 ak) ∧ (f 19 = undef) ∧ True := hH
           rw [show List.range (List.length [[], [], [], [], [], [], [5], [3, 4], [7, 6], [8], [], [10], [11], [9, 12], [13], [1, 2], [15, 14], [16], [0, 17], [18, 18, 0, 1, 2, 3, 4, 5, 6, 7, 8, 9, 10, 11, 12, 13, 14, 15, 16, 17, 18]]) = [0, 1, 2, 3, 4, 5, 6, 7, 8, 9, 10, 11, 12, 13, 14, 15, 16, 17, 18, 19] from rfl]
           simp only [putL, List.getElem?_cons_zero, List.getElem?_cons_succ, Option.join, Option.bind_some, id_eq, Act.put, List.setIfInBounds_toArray, List.set_cons_zero, List.set_cons_succ, d0, d1, d2, d3, d4, d5, d6, d7, d8, d9, d10, d11, d12, d13, d14, d15, d16, d17, d18]
           clear d0 d1 d2 d3 d4 d5 d6 d7 d8 d9 d10 d11 d12 d13 d14 d15 d16 d17 d18 d19
           clear AT AP AR AT5 A8
           obtain ⟨AT, AP, AR, AT5, A8, BV⟩ := hG
           have A8 : Arr .u64 V61 (B8) ak := A8
           clear BB
           have BB := BV
           clear BV
           have zz61 := BB.size
           go_wp2
           exact ⟨⟨j + 1, by omega, by go_num, AT, AP, AR, AT5, by rw [HX2.out]; exact A8, BB⟩, by simp only [intOf]; omega⟩
        ·
         obtain rfl : j = k := by omega
         rw [← HY.out] at A8
         clear hjl hj
         go_wp2
         exact ⟨⟨i + 1, by omega, by go_num, AT, AP, AR, AT5, A8, BB⟩, by simp only [intOf]; omega⟩
    ·
     obtain rfl : i = 64 := by omega
     have hl := hfl.out 64 (by omega)
     obtain ⟨rr, hr⟩ : ∃ rr, f 64 = rr := ⟨_, rfl⟩
     rw [hr] at A8 hl
     have HR := Lib.hid hr
     clear hr hil hi
     go_wp2_with (first
  | (with_reducible refine at_n 65 ?_; refine wpList_val' (fun Q hQ => Does.loadM rfl 46 _ rfl 20 _ Tryd.underlying46 rfl info_point (B8) 0 rfl .u64 (rr) A8 (by omega) (sl_all hl) hQ) ?_)
  | (with_reducible refine at_op (o := ⟨_, .store 46 (.tmp 4) _, _, _, _, _⟩) ?_; refine wpList_storeI rfl 46 _ _ rfl 20 info_point (w.heap.size) rfl .u64 _ (rr) rfl (AR) (by simp) (hl) ?_; intro A9))
     refine bodyPost_ret (results_cellM rfl _ 20 _ Tryd.underlying46 rfl info_point (w.heap.size) rfl .u64 _ A9 hl) rfl ?_
     exact ⟨by rw [HR.out], Below.setRow BB (by omega) _⟩
end Go.Proofs.YtelppapkffjmpaaDoor
end
section
namespace Go.Proofs.YtelppapkffjmpaaDoor
open Go.RowKit Go.Shelf
set_option linter.unusedVariables false
set_option maxRecDepth 8000

theorem many_r {n : Nat} {tms pts : List Int} {P : Nat → Pt} (hn1 : 1 ≤ n) (hn2 : n ≤ 2) (hby : Bytes tms) (ltm : tms.length = 32 * n) (lpt : pts.length = 20 * n) (hP : ∀ j, j < n → RepP (sl pts (20 * j) 20) (P j)) :
    ∃ rs, RepP rs (sumP n fun j => smul (kB (sl tms (32 * j) 32)) (P j)) ∧ ∀ w Bt Bp ct cp, TabC w → Arr .u8 w Bt tms → Arr .u64 w Bp pts →
      Calls Tryd.prog 38 #[.slice (some ⟨Bt, 0, none⟩) n ct, .slice (some ⟨Bp, 0, none⟩) n cp] w fun e w' => e = .returned (aggI .u64 rs) ∧ Below w.heap.size w w' := by
  obtain ⟨ns, hns, cns⟩ := nothing_r
  have hts : ∃ ts : Nat → List Int, ∀ j, j < n → TabP (ts j) 15 (P j) ∧ ∀ w, TabC w → Calls Tryd.prog 71 #[aggI .u64 (sl pts (20 * j) 20)] w fun e w' => e = .returned (aggI .u64 (ts j)) ∧ Below w.heap.size w w' := by
    refine ⟨fun j => if h : j < n then Classical.choose (multiples_r (hP j h)) else [], fun j hj => ?_⟩
    simp only [dif_pos hj]
    exact Classical.choose_spec (multiples_r (hP j hj))
  obtain ⟨ts, hts⟩ := hts
  have hb : ∀ j, j < n → Bytes (sl tms (32 * j) 32) := fun j hj x hx => hby x (List.mem_of_mem_drop (List.mem_of_mem_take hx))
  obtain ⟨f, hf0, hf⟩ := many_chain (fun j hj => (hts j hj).1) hb ns hns
  refine ⟨f 64, ?_, fun w Bt Bp ct cp hT AT AP => many_walk n tms pts ns ts f w Bt Bp ct cp hT hn1 hn2 AT AP ltm lpt hby hf0 hns.len (Lib.hid fun i hi => ((hf i).1 hi).len) (Lib.hid fun i => (hf i).2) (Lib.hid fun j hj => (hts j hj).1.1) (Lib.hid fun j hj => (hts j hj).2) cns⟩
  have h := (hf 64).1 (Nat.le_refl _)
  rw [Nat.sub_self, Nat.pow_zero] at h
  rw [sumP_congr (G := fun j => smul (kB (sl tms (32 * j) 32) / 1) (P j)) n (fun j hj => by rw [Nat.div_one])]
  exact h
end Go.Proofs.YtelppapkffjmpaaDoor
end
