/- The digits of bytes, by the program. -/
import Derived.Test.YtohnicmacmkapaaDoorShaG
import Derived.Test.YtohnicmacmkapaaDoorRow
import Derived.Deep.AppendLies
import Derived.Deep.RegionLaw
namespace Go.Proofs.YtohnicmacmkapaaDoor
open Go.RowKit
set_option linter.unusedVariables false
set_option maxRecDepth 8000

theorem idx_strK {P : Program} (t : TypeId) (ht : P.underlying t = some .string) (L : ByteArray) (K : IntKind) (e : Int) (h0 : 0 ≤ e) (h1 : e < L.size) (w : World) :
    (Instr.index t (.string L) (.int K e)).run P w = .ok (.int .u8 (at0 (sb L) e.toNat)) w := by
  obtain ⟨k, rfl⟩ := Int.eq_ofNat_of_zero_le h0
  have hk : k < L.size := by omega
  rw [Int.toNat_natCast, at0_sb L k hk]
  simp [Instr.index, run_underlying ht, asIntOf, hk]
/-- The digits. -/
def hexS : ByteArray := ⟨#[48, 49, 50, 51, 52, 53, 54, 55, 56, 57, 97, 98, 99, 100, 101, 102]⟩
def hexL (zs : List Int) : List Int := zs.flatMap fun c => [at0 (sb hexS) (c / 16).toNat, at0 (sb hexS) (c % 16).toNat]
theorem hexL_len : ∀ zs, (hexL zs).length = 2 * zs.length
  | [] => rfl
  | c :: zs => by
    have := hexL_len zs
    simp only [hexL, List.flatMap_cons, List.length_append, List.length_cons, List.length_nil] at this ⊢
    omega
theorem hexL_snoc (zs : List Int) (c : Int) : hexL (zs ++ [c]) = hexL zs ++ [at0 (sb hexS) (c / 16).toNat, at0 (sb hexS) (c % 16).toNat] := by simp [hexL]
theorem u8_shr4 {c : Int} (h : 0 ≤ c ∧ c ≤ 255) : 0 ≤ c / 16 ∧ c / 16 < 16 := by omega
theorem u8_and15' {c : Int} (h : 0 ≤ c ∧ c ≤ 255) : bits BinOp.and IntKind.u8 c 15 = c % 16 := by
  have : ∀ n : Nat, n < 256 → bits BinOp.and IntKind.u8 (n : Int) 15 = (n : Int) % 16 := by decide +kernel
  have h2 := this c.toNat (by omega)
  rwa [Int.toNat_of_nonneg h.1] at h2
theorem dig_in (k : Int) (h : 0 ≤ k ∧ k < 16) : 0 ≤ at0 (sb hexS) k.toNat ∧ at0 (sb hexS) k.toNat ≤ 255 := by
  have h2 : ∀ n : Nat, n < 16 → 0 ≤ at0 (sb hexS) n ∧ at0 (sb hexS) n ≤ 255 := by decide +kernel
  exact h2 k.toNat (by omega)
theorem own_ad {w : World} {base e size : Nat} {v : Value} {n : Nat} {xs : List Value} (h : w.ownsRow base e size v n xs) (o : Obj) : (w.alloc o).drew.ownsRow base e size v n xs := h.alloc o
theorem new_two (w : World) (a b : Value) (t : TypeId) : ∀ j u, ([a, b] : List Value)[j]? = some u → (w.alloc (.cells #[a, b] t)).drew.cell? ((⟨w.heap.size, 0, none⟩ : Addr).add j) = some u := by
  intro j u h
  have hh : (w.alloc (.cells #[a, b] t)).drew.heap[w.heap.size]? = some (.cells #[a, b] t) := heap_alloc_new w _
  rw [Addr.add_lit]
  simp only [World.cell?, hh, Nat.zero_add]
  rcases j with _ | _ | j
  · simpa using h
  · simpa using h
  · simp at h
theorem own_ge {w : World} {base e size : Nat} {v : Value} {n : Nat} {xs : List Value} (h : w.ownsRow base e size v n xs) : ∀ j, v.ownBlock = some j → base ≤ j := by
  intro j hj
  obtain ⟨-, h2⟩ := h
  rcases h2 with ⟨rfl, -⟩ | ⟨g, cap, cur, rfl, hb, -⟩
  · cases hj
  · cases hj; exact hb
theorem one_two (a b : Int) : ∀ u ∈ ([.int .u8 a, .int .u8 b] : List Value), u.oneCell' = true := by
  intro u hu
  simp only [List.mem_cons, List.not_mem_nil, or_false] at hu
  rcases hu with rfl | rfl <;> rfl
theorem hex_v (v : Value) (zs : List Int) (w : World) (hv : RdI .u8 w v zs) (hb : Bytes zs) (hlen : zs.length ≤ 1000000) :
    Calls Tryd.prog 16 #[v] w fun e w' => e = .returned (.string (strOfNums (hexL zs))) ∧ Below w.heap.size w w' := by
  obtain ⟨j0, hj, hy0, hy1, hy2⟩ := infoB32
  obtain ⟨a, ca, rfl, hla, hma, ha, -⟩ := hv
  replace ha := Lib.hid ha
  have hS : hexS.size = 16 := rfl
  go_enter Tryd.func16, Tryd.ntmps16
  go_wp2_with (first
    | (with_reducible refine at_n 9 ?_; refine wpList_make_own _ rfl _ _ 25 rfl w.heap.size 5 j0 (.int .u8 0) 1 Tryd.underlying25 hj hy0 hy1 .i64 .i64 (2 * (zs.length : Int)) (2 * zs.length) rfl rfl (by omega) (by rw [hy2]; omega) (by unfold maxLen; omega) (Nat.le_refl _) ?_; intro w1 hown1 hgr1))
  have hb1 : Below w.heap.size w w1 := (Below.refl _ _).grown hgr1 (Nat.le_refl _) (fun k hk => by cases hk)
  clear hgr1
  rw [show (⟨#[48, 49, 50, 51, 52, 53, 54, 55, 56, 57, 97, 98, 99, 100, 101, 102]⟩ : ByteArray) = hexS from rfl]
  have hdig := dig_in
  have hidx := fun K e h0 h1 W => idx_strK (P := Tryd.prog) 9 Tryd.underlying9 hexS K e h0 h1 W
  have hsn := hexL_snoc
  have hhl := hexL_len
  replace hsn := Lib.hid hsn
  replace hhl := Lib.hid hhl
  replace hidx := Lib.hid hidx
  replace hdig := Lib.hid hdig
  go_loopw [3, 12] (fun v3 i wr => ∃ (k : Nat), k ≤ zs.length ∧ i = .int .i64 k ∧ wr.ownsRow w.heap.size 5 1 v3 (2 * k) ((hexL (zs.take k)).map (Value.int .u8)) ∧ Below w.heap.size w wr) (fun _ i _ => zs.length - (intOf i).toNat)
  case atStart => exact ⟨0, by omega, rfl, by rw [List.take_zero]; exact hown1, hb1⟩
  case round =>
    clear hown1 hb1
    obtain ⟨k, hk, rfl, hown, hbel⟩ := hrel
    by_cases hlt : k < zs.length
    · obtain ⟨x, o, rfl, hc0⟩ := ha.out k hlt
      have hc := (hbel.cell (p := ⟨x, o + k, none⟩) (World.block_lt_of_cell? w _ hc0)).trans hc0
      clear hc0
      have htk := take_snoc zs k hlt
      have hcb := hb.at k
      generalize at0 zs k = c at *
      obtain ⟨c0, c1⟩ := hcb
      have i1 := fun W => hidx.out .u8 (c / 16) (by omega) (by rw [hS]; omega) W
      have i2 := fun W => hidx.out .u8 (c % 16) (by omega) (by rw [hS]; omega) W
      have e15 := u8_and15' ⟨c0, c1⟩
      obtain ⟨d0, d1⟩ := hdig.out (c / 16) (by omega)
      obtain ⟨d2, d3⟩ := hdig.out (c % 16) (by omega)
      replace htk := Lib.hid htk
      have hsn2 := hsn.out (zs.take k) c
      generalize at0 (sb hexS) (c / 16).toNat = x1 at *
      generalize at0 (sb hexS) (c % 16).toNat = x2 at *
      replace hsn2 := Lib.hid hsn2
      have hkI : (k : Int) < (zs.length : Int) := by omega
      generalize hLs : hexS = LS at *
      replace hLs := Lib.hid hLs
      go_wp2
      have hb2 := Lib.hid ((hbel.alloc hbel.size (.cells #[.int .u8 x1, .int .u8 x2] 5)).drew)
      have hs2 := Lib.hid hb2.out.size
      go_region_law (refine step_append_lies _ rfl _ _ _ rfl w.heap.size 5 j0 (.int .u8 0) 1 1 Tryd.underlying25 hj hy0 hy1 hy2 rfl (by decide) _ (2 * k) _ rfl (hown.alloc _) ⟨wr.heap.size, 0, none⟩ 2 2 [.int .u8 x1, .int .u8 x2] rfl rfl (new_two wr _ _ _) (one_two _ _) (by decide) (by unfold maxLen; omega) (by omega) (by show w.heap.size ≤ ((wr.alloc _).drew).heap.size; exact (hbel.alloc hbel.size _).size) _ rfl ?_; intro g cap w2 hown2 hg2 hat2 hlt2)
      all_goals
        have hb3 : Below w.heap.size w w2 := hb2.out.grown hg2 hs2.out (own_ge hown)
        go_wp2
        refine ⟨⟨k + 1, by omega, by go_num, ?_, hb3⟩, by simp only [intOf]; omega⟩
        rw [htk.out, hsn2.out, List.map_append, show 2 * (k + 1) = 2 * k + 2 by omega]
        exact hown2
    · obtain rfl : k = zs.length := by omega
      rw [List.take_length] at hown
      have hrd := RdI.of_own hown
      have hcv := run_conv_bs (P := Tryd.prog) (w := wr) 25 9 5 Tryd.underlying25 Tryd.underlying9 Tryd.underlying5 _ _ hrd
      clear hown
      go_wp2
      go_ret
      exact ⟨rfl, hbel⟩
end Go.Proofs.YtohnicmacmkapaaDoor
