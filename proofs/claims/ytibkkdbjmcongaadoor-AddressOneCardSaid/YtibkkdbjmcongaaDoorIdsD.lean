/- Layer 5 (ids): the parts of names, a name of a sum; that the law's own fixed fact holds. -/
import Derived.Test.YtibkkdbjmcongaaDoorIdsC
namespace Go.Proofs.YtibkkdbjmcongaaDoor
open Go.RowKit
set_option linter.unusedVariables false

set_option maxHeartbeats 400000 in
theorem split_no (s : ByteArray) (w : World) (hm : MaxC w) (hs : s.size ≤ 1000000) (hu : userL (sb s) = false) (hr : roomL (sb s) = false) :
    Calls Tryd.prog 13 #[.string s] w fun e w' => e = .returned (.tuple #[.string ⟨#[]⟩, .string ⟨#[]⟩, .int .i64 2]) ∧ Below w.heap.size w w' := by
  have HU := user_any s w hm hs
  rw [hu] at HU
  have HR := fun w1 (h : MaxC w1) => room_any s w1 h hs
  rw [hr] at HR
  clear hu hr
  go_enter Tryd.func13, Tryd.ntmps13
  go_wp2_with fail
  refine HU.mono ?_
  rintro e w1 ⟨rfl, hb1⟩
  have hm1 := hm.below hb1
  go_wp2_with fail
  refine (HR _ hm1).mono ?_
  rintro e w2 ⟨rfl, hb2⟩
  go_wp2
  go_ret3
  exact ⟨rfl, below_then hb1 hb2⟩
def SplitOk (l : List Int) (B : Nat) (w : World) (e : Ending) (w' : World) : Prop :=
  ∃ a b : ByteArray, (sb a = (l.drop 1).take (colI (l.drop 1)) ∧ sb b = (l.drop 1).drop (colI (l.drop 1) + 1)) ∧ e = .returned (.tuple #[.string a, .string b, .int .i64 0]) ∧ Below B w w'
set_option maxHeartbeats 400000 in
theorem split_user (s : ByteArray) (w : World) (hm : MaxC w) (hs : s.size ≤ 1000000) (hne : 0 < s.size) (hu : userL (sb s) = true) :
    Calls Tryd.prog 13 #[.string s] w (SplitOk (sb s) w.heap.size w) := by
  have HU := user_any s w hm hs
  rw [hu] at HU
  clear hu
  have hne' : (1 : Int) ≤ s.size := by omega
  go_enter Tryd.func13, Tryd.ntmps13
  go_wp2_with fail
  refine HU.mono ?_
  rintro e w1 ⟨rfl, hb1⟩
  have hm1 := hm.below hb1
  go_wp2_with fail
  have ht := sb_tail s 1
  have st := size_of_sb (n := 1000000) ht (by rw [List.length_drop, sb_length]; omega)
  generalize s.extract 1 s.size = t at *
  have HT := Lib.hid ht; clear ht
  refine (cut_any t _ hm1 st).mono ?_
  rintro e w2 ⟨a, b, hab, rfl, hb2⟩
  have HAB := Lib.hid hab; clear hab
  go_wp2
  go_ret3
  exact ⟨a, b, by rw [← HT.out]; exact HAB.out, rfl, below_then hb1 hb2⟩
set_option maxHeartbeats 400000 in
theorem split_room (s : ByteArray) (w : World) (hm : MaxC w) (hs : s.size ≤ 1000000) (hne : 0 < s.size) (hu : userL (sb s) = false) (hr : roomL (sb s) = true) :
    Calls Tryd.prog 13 #[.string s] w (SplitOk (sb s) w.heap.size w) := by
  have HU := user_any s w hm hs
  rw [hu] at HU
  have HR := fun w1 (h : MaxC w1) => room_any s w1 h hs
  rw [hr] at HR
  clear hu hr
  have hne' : (1 : Int) ≤ s.size := by omega
  go_enter Tryd.func13, Tryd.ntmps13
  go_wp2_with fail
  refine HU.mono ?_
  rintro e w1 ⟨rfl, hb1⟩
  have hm1 := hm.below hb1
  go_wp2_with fail
  refine (HR _ hm1).mono ?_
  rintro e w2 ⟨rfl, hb2⟩
  have hm2 := hm1.below hb2
  go_wp2_with fail
  have ht := sb_tail s 1
  have st := size_of_sb (n := 1000000) ht (by rw [List.length_drop, sb_length]; omega)
  generalize s.extract 1 s.size = t at *
  have HT := Lib.hid ht; clear ht
  refine (cut_any t _ hm2 st).mono ?_
  rintro e w3 ⟨a, b, hab, rfl, hb3⟩
  have HAB := Lib.hid hab; clear hab
  go_wp2
  go_ret3
  exact ⟨a, b, by rw [← HT.out]; exact HAB.out, rfl, below_then (below_then hb1 hb2) hb3⟩
theorem user_is (s : ByteArray) (b : Bool) (w : World) (hm : MaxC w) (hs : s.size ≤ 1000000) (hb : userL (sb s) = b) :
    Calls Tryd.prog 17 #[.string s] w fun e w' => e = .returned (.bool b) ∧ Below w.heap.size w w' := by
  rw [← hb]; exact user_any s w hm hs
theorem room_is (s : ByteArray) (b : Bool) (w : World) (hm : MaxC w) (hs : s.size ≤ 1000000) (hb : roomL (sb s) = b) :
    Calls Tryd.prog 19 #[.string s] w fun e w' => e = .returned (.bool b) ∧ Below w.heap.size w w' := by
  rw [← hb]; exact room_any s w hm hs
theorem server_is (s : ByteArray) (b : Bool) (w : World) (hm : MaxC w) (hs : s.size ≤ 1000000) (hb : serverL (sb s) = b) :
    Calls Tryd.prog 15 #[.string s] w fun e w' => e = .returned (.bool b) ∧ Below w.heap.size w w' := by
  rw [← hb]; exact server_any s w hm hs
theorem event_is (s : ByteArray) (b : Bool) (w : World) (hs : s.size ≤ 1000000) (hb : eventS s = b) :
    Calls Tryd.prog 21 #[.string s] w fun e w' => e = .returned (.bool b) ∧ Below w.heap.size w w' := by
  rw [← hb]; exact event_any s w hs
/-- An event's name. -/
def nameS (l : List Int) : ByteArray := ⟨#[36]⟩ ++ strL safeB (encL l)
set_option maxHeartbeats 400000 in
theorem name_ok (v : Value) (l : List Int) (w : World) (h : RdI .u8 w v l) (hb : Bytes l) (hl : l.length = 32) :
    Calls Tryd.prog 36 #[v] w fun e w' => e = .returned (.tuple #[.string (nameS l), .int .i64 0]) ∧ Below w.heap.size w w' := by
  have HE := enc_safe v l w h hb (by omega)
  obtain ⟨a, cap, rfl, hla, hma, -, -⟩ := h
  have hne : ((l.length : Int) != 32) = false := by rw [hl]; rfl
  have hsz : (strL safeB (encL l)).size ≤ 1000 := by rw [strL_size]; have := encL_len l hb; omega
  clear hl
  generalize hT : strL safeB (encL l) = T at *
  have HT := Lib.hid hT; clear hT
  go_enter Tryd.func36, Tryd.ntmps36
  go_wp2_with fail
  refine HE.mono ?_
  rintro e w1 ⟨rfl, hb1⟩
  go_wp2
  go_ret2
  exact ⟨by rw [nameS, HT.out]; rfl, hb1⟩
def zeros32 : Array Value := ((List.replicate 32 (0 : Int)).map (Value.int .u8)).toArray
theorem make_zeros (w : World) : (Instr.makeSlice 43 (.int .i64 32) (.int .i64 32)).run Tryd.prog w = .ok (.slice (some ⟨w.heap.size, 0, none⟩) 32 32) (w.alloc (.cells zeros32 5)) := by
  obtain ⟨i0, hi, hz0, hz1, hz2⟩ := info_parts info_u8
  have := run_make (P := Tryd.prog) w 43 5 i0 (.int .u8 0) Tryd.underlying43 hi hz0 .i64 .i64 32 32 (by omega) (by omega) (by rw [hz2]; decide) (by decide)
  rw [this, hz1, show madeCells (Value.int .u8 0).cells (Int.toNat 32 * 1) = zeros32 by kernel_rfl]
  rfl
theorem map_at (l : List Int) (K : IntKind) (k : Nat) (h : k < l.length) : ((l.map (Value.int K)).toArray)[k]? = some (.int K (at0 l k)) := by simp [h, at0]
theorem zeros_rd (w : World) : RdI .u8 (w.alloc (.cells zeros32 5)) (.slice (some ⟨w.heap.size, 0, none⟩) 32 32) (List.replicate 32 0) := by
  refine ⟨_, 32, rfl, by decide, by unfold maxLen; omega, fun k hk => ⟨_, 0, rfl, ?_⟩, fun h => by cases h⟩
  rw [Nat.zero_add, World.cell?_alloc_at _ _ _ _ rfl]
  exact map_at _ _ _ hk
theorem zeros_bytes : Bytes (List.replicate 32 0) := fun x hx => by
  have := (List.mem_replicate.1 hx).2
  omega
set_option maxHeartbeats 400000 in
theorem alive05 (w : World) (hm : MaxC w) : Calls Tryd.prog 12 #[] w fun e w' => e = .returned (.bool true) ∧ Below w.heap.size w w' := by
  have hmk := make_zeros
  go_enter Tryd.func12, Tryd.ntmps12
  go_wp2_with fail
  refine (split_user _ _ hm (by decide) (by decide) (by decide +kernel)).mono ?_
  rintro e w1 ⟨a, b, ⟨ha, hb⟩, rfl, hb1⟩
  obtain rfl : a = ⟨#[97, 46, 98]⟩ := sb_inj (ha.trans (by decide +kernel))
  obtain rfl : b = ⟨#[101, 120, 97, 109, 112, 108, 101, 46, 111, 114, 103, 58, 56, 52, 52, 56]⟩ := sb_inj (hb.trans (by decide +kernel))
  clear ha hb
  have hm1 := (hm.below hb1).below ((Below.refl _ _).alloc (Nat.le_refl _) (.cells zeros32 5))
  have HB := below_alloc hb1 (.cells zeros32 5)
  clear hb1
  go_wp2_with fail
  refine (name_ok _ _ _ (zeros_rd _) zeros_bytes rfl).mono ?_
  rintro e w2 ⟨rfl, hb2⟩
  replace hm1 := hm1.below hb2
  replace HB := below_then HB hb2
  clear hb2
  generalize hN : nameS (List.replicate 32 0) = N
  have hE := event_any N w2 (by rw [← hN]; decide +kernel)
  rw [show eventS N = true by rw [← hN]; decide +kernel] at hE
  clear hN
  go_wp2_with fail
  refine hE.mono ?_
  rintro e w3 ⟨rfl, hb3⟩
  replace hm1 := hm1.below hb3
  replace HB := below_then HB hb3
  clear hb3 hE
  go_wp2_with fail
  refine (user_is ⟨#[64, 65, 58, 104]⟩ false _ hm1 (by decide) (by decide +kernel)).mono ?_
  rintro e w4 ⟨rfl, hb4⟩
  replace hm1 := hm1.below hb4
  replace HB := below_then HB hb4
  clear hb4
  go_wp2_with fail
  refine (room_is ⟨#[33, 120, 58, 104]⟩ true _ hm1 (by decide) (by decide +kernel)).mono ?_
  rintro e w5 ⟨rfl, hb5⟩
  replace hm1 := hm1.below hb5
  replace HB := below_then HB hb5
  clear hb5
  go_wp2_with fail
  refine (server_is ⟨#[104]⟩ true _ hm1 (by decide) (by decide +kernel)).mono ?_
  rintro e w6 ⟨rfl, hb6⟩
  replace HB := below_then HB hb6
  clear hb6
  go_wp2
  go_ret
  exact ⟨rfl, HB⟩
end Go.Proofs.YtibkkdbjmcongaaDoor
