/- Layer 6 (address): the law's own fixed fact; numbers with and without a nought ahead. -/
import Derived.Test.YtibkkdbjmcongaaDoorAddrE
namespace Go.Proofs.YtibkkdbjmcongaaDoor
open Go.RowKit
set_option linter.unusedVariables false

def PhoneIs (r : Option (List Int)) (v : Value) : Prop := (∃ f, r = some f ∧ v = .tuple #[.string (strOfNums f), .int .i64 0]) ∨ (r = none ∧ v = .tuple #[.string ⟨#[]⟩, .int .i64 2])
def phoneVal : Option (List Int) → Value
  | some f => .tuple #[.string (strOfNums f), .int .i64 0]
  | none => .tuple #[.string ⟨#[]⟩, .int .i64 2]
theorem post_some {f : List Int} {B : Nat} {w w' : World} {e : Ending} (h : PhonePost (some f) B w e w') : e = .returned (.tuple #[.string (strOfNums f), .int .i64 0]) ∧ Below B w w' := by
  rcases h with ⟨f', hf, rfl, hb⟩ | ⟨hn, _⟩
  · cases hf; exact ⟨rfl, hb⟩
  · cases hn
theorem post_none {B : Nat} {w w' : World} {e : Ending} (h : PhonePost none B w e w') : e = .returned (.tuple #[.string ⟨#[]⟩, .int .i64 2]) ∧ Below B w w' := by
  rcases h with ⟨f', hf, _⟩ | ⟨_, rfl, hb⟩
  · cases hf
  · exact ⟨rfl, hb⟩
theorem phone_gb (s : ByteArray) (w : World) (hs : s.size ≤ 1000000) : Calls Tryd.prog 26 #[.string ⟨#[71, 66]⟩, .string s] w (PhonePost (phoneS [52, 52] true true (sb s)) w.heap.size w) :=
  phone_known ⟨#[71, 66]⟩ [52, 52] true s w hs (by decide) (by decide) (by decide) fun w B hb => look_yes w B hb _ 0 _ (by kernel_rfl)
theorem phone_us (s : ByteArray) (w : World) (hs : s.size ≤ 1000000) : Calls Tryd.prog 26 #[.string ⟨#[85, 83]⟩, .string s] w (PhonePost (phoneS [49] false true (sb s)) w.heap.size w) :=
  phone_known ⟨#[85, 83]⟩ [49] false s w hs (by decide) (by decide) (by decide) fun w B hb => look_yes w B hb _ 1 _ (by kernel_rfl)
theorem phone_de (s : ByteArray) (w : World) (hs : s.size ≤ 1000000) : Calls Tryd.prog 26 #[.string ⟨#[68, 69]⟩, .string s] w (PhonePost (phoneS [52, 57] true true (sb s)) w.heap.size w) :=
  phone_known ⟨#[68, 69]⟩ [52, 57] true s w hs (by decide) (by decide) (by decide) fun w B hb => look_yes w B hb _ 2 _ (by kernel_rfl)
theorem phone_fr (s : ByteArray) (w : World) (hs : s.size ≤ 1000000) : Calls Tryd.prog 26 #[.string ⟨#[70, 82]⟩, .string s] w (PhonePost (phoneS [51, 51] true true (sb s)) w.heap.size w) :=
  phone_known ⟨#[70, 82]⟩ [51, 51] true s w hs (by decide) (by decide) (by decide) fun w B hb => look_yes w B hb _ 3 _ (by kernel_rfl)
theorem phone_ch (s : ByteArray) (w : World) (hs : s.size ≤ 1000000) : Calls Tryd.prog 26 #[.string ⟨#[67, 72]⟩, .string s] w (PhonePost (phoneS [52, 49] true true (sb s)) w.heap.size w) :=
  phone_known ⟨#[67, 72]⟩ [52, 49] true s w hs (by decide) (by decide) (by decide) fun w B hb => look_yes w B hb _ 4 _ (by kernel_rfl)
theorem phone_gb_is (s : ByteArray) (r : Option (List Int)) (w : World) (hs : s.size ≤ 1000000) (hr : phoneS [52, 52] true true (sb s) = r) :
    Calls Tryd.prog 26 #[.string ⟨#[71, 66]⟩, .string s] w fun e w' => e = .returned (phoneVal r) ∧ Below w.heap.size w w' := by
  refine (phone_gb s w hs).mono ?_
  intro e w' h
  rw [hr] at h
  cases r with
  | none => exact post_none h
  | some f => exact post_some h
theorem phone_empty_is (s : ByteArray) (r : Option (List Int)) (w : World) (hs : s.size ≤ 1000000) (hr : phoneS [] false false (sb s) = r) :
    Calls Tryd.prog 26 #[.string ⟨#[]⟩, .string s] w fun e w' => e = .returned (phoneVal r) ∧ Below w.heap.size w w' := by
  refine (phone_empty s w hs).mono ?_
  intro e w' h
  rw [hr] at h
  cases r with
  | none => exact post_none h
  | some f => exact post_some h
set_option maxRecDepth 4000 in
set_option maxHeartbeats 1000000 in
theorem alive06 (w : World) (hm : MaxC w) : Calls Tryd.prog 23 #[] w fun e w' => e = .returned (.bool true) ∧ Below w.heap.size w w' := by
  have HE := email_yes ⟨#[32, 65, 110, 110, 97, 64, 69, 120, 97, 109, 112, 108, 101, 46, 111, 114, 103]⟩ w hm (by decide) (by decide +kernel)
  rw [show lowS (trB ⟨#[32, 65, 110, 110, 97, 64, 69, 120, 97, 109, 112, 108, 101, 46, 111, 114, 103]⟩) = ⟨#[97, 110, 110, 97, 64, 101, 120, 97, 109, 112, 108, 101, 46, 111, 114, 103]⟩ by decide +kernel] at HE
  have H1 := fun w1 => phone_gb_is ⟨#[48, 50, 48, 32, 55, 57, 52, 54, 32, 48, 48, 48, 48]⟩ (some [52, 52, 50, 48, 55, 57, 52, 54, 48, 48, 48, 48]) w1 (by decide) (by decide +kernel)
  have H2 := fun w1 => phone_empty_is ⟨#[43, 52, 52, 32, 40, 50, 48, 41, 32, 55, 57, 52, 54, 45, 48, 48, 48, 48]⟩ (some [52, 52, 50, 48, 55, 57, 52, 54, 48, 48, 48, 48]) w1 (by decide) (by decide +kernel)
  have hv : phoneVal (some [52, 52, 50, 48, 55, 57, 52, 54, 48, 48, 48, 48]) = .tuple #[.string ⟨#[52, 52, 50, 48, 55, 57, 52, 54, 48, 48, 48, 48]⟩, .int .i64 0] := rfl
  rw [hv] at H1 H2
  clear hv
  go_enter Tryd.func23, Tryd.ntmps23
  go_wp2_with fail
  refine HE.mono ?_
  rintro e w1 ⟨rfl, hb1⟩
  go_wp2_with fail
  refine (H1 _).mono ?_
  rintro e w2 ⟨rfl, hb2⟩
  go_wp2_with fail
  refine (H2 _).mono ?_
  rintro e w3 ⟨rfl, hb3⟩
  go_wp2
  go_ret
  exact ⟨rfl, below_then (below_then hb1 hb2) hb3⟩
end Go.Proofs.YtibkkdbjmcongaaDoor
