/- What the laws of layer 1 rest on: the fixed fact; and what the law UtfLower's call does. -/
import Derived.Test.YticeogdagnogpaaUtfText
import Derived.Test.YticeogdagnogpaaUtfDecode
import Derived.Deep.RegionWith
namespace Go.Proofs.Yticeogdagnogpaa
open Go.RowKit
set_option linter.unusedVariables false

theorem rd_lit {w : World} {K : IntKind} {e : TypeId} {zs : List Int} (cs : Array Value) (n : Nat) (hn : n = zs.length) (hm : zs.length ≤ maxLen) (h : cs = (zs.map (Value.int K)).toArray) : RdI K (w.alloc (.cells cs e)) (.slice (some ⟨w.heap.size, 0, none⟩) n n) zs := by
  subst h hn
  refine ⟨_, _, rfl, Nat.le_refl _, hm, fun k hk => ⟨_, _, rfl, ?_⟩, fun h => by cases h⟩
  rw [World.cell?_alloc_at _ _ _ _ rfl]
  simp [at0, hk]

theorem dec_a : decS [195, 169, 97] = some [233, 97] := by
  rw [decS_some (l := [195, 169, 97]) (by simp) (show fstS [195, 169, 97] = some (233, 2) from by decide +kernel)]
  rw [show List.drop 2 [(195 : Int), 169, 97] = [97] from rfl]
  rw [decS_some (l := [97]) (by simp) (show fstS [97] = some (97, 1) from by decide +kernel)]
  rw [show List.drop 1 [(97 : Int)] = [] from rfl, decS_nil]
  rfl
theorem dec_b : decS [192, 128] = none := decS_none (by simp) (by decide +kernel)
theorem low_a : lowS ⟨#[97, 66, 90, 64, 91]⟩ = ⟨#[97, 98, 122, 64, 91]⟩ := by decide +kernel

set_option maxHeartbeats 1000000 in
theorem alive01 (w : World) : Calls Try.prog 13 #[] w fun e w' => e = .returned (.bool true) ∧ Below w.heap.size w w' := by
  have hm : (3 : Nat) ≤ maxLen := by unfold maxLen; omega
  have hm2 : (2 : Nat) ≤ maxLen := by unfold maxLen; omega
  have hm5 : (⟨#[97, 66, 90, 64, 91]⟩ : ByteArray).size ≤ maxLen := by show 5 ≤ maxLen; unfold maxLen; omega
  go_enter Try.func13, Try.ntmps13
  go_wp2_with fail
  refine (decode_any _ [195, 169, 97] _ (rd_lit _ 3 rfl hm rfl) (by intro x hx; simp at hx; omega) (by simp)).mono ?_
  rintro e w1 ⟨v, c, rfl, hb1, ⟨rs, hr, rfl, _, hown⟩ | ⟨hr, _⟩⟩
  rotate_left
  · rw [dec_a] at hr; cases hr
  rw [dec_a] at hr
  cases hr
  obtain ⟨a, cap, rfl, hc1, hc2, hc3, hc4, hc5⟩ := own_cell hown
  obtain ⟨x, rfl, hx, hcell⟩ := hc4 0 (by simp)
  simp only [List.length_cons, List.length_nil, Nat.zero_add] at *
  go_wp2_with fail
  refine (decode_any _ [192, 128] _ (rd_lit _ 2 rfl hm2 rfl) (by intro x hx; simp at hx; omega) (by simp)).mono ?_
  rintro e w2 ⟨v, c, rfl, hb2, ⟨rs, hr, _⟩ | ⟨hr, rfl, rfl⟩⟩
  · rw [dec_b] at hr; cases hr
  have hcell2 := (hb2.cell (p := ⟨x, 0, none⟩) (by have := World.block_lt_of_cell? w1 (a := ⟨x, 0, none⟩) hcell; simp only [World.size_alloc]; show x < _; exact Nat.lt_succ_of_lt this)).trans ((World.cell?_alloc_past _ _ _ (World.block_lt_of_cell? w1 (a := ⟨x, 0, none⟩) hcell)).trans hcell)
  simp only [List.map_cons, List.getElem?_cons_zero] at hcell2
  go_wp2_with (go_at_call 25; refine (lower_any _ _ hm5).mono ?_; rintro e w3 ⟨rfl, hb3⟩; rw [low_a])
  go_ret
  exact ⟨rfl, below_then (below_then (below_alloc (below_then (below_alloc (Below.refl _ _) _) hb1) _) hb2) hb3⟩

theorem lowS_size (s : ByteArray) : (lowS s).size = s.size := by rw [lowS, strOfNums_size]; simp [sb_length]
theorem lowS_twice (s : ByteArray) : lowS (lowS s) = lowS s := by
  unfold lowS
  rw [sb_strOf (low_bytes (sb_bytes s)), List.map_map]
  congr 1
  apply List.map_congr_left
  intro x _
  simp only [Function.comp, lowI]
  split <;> (try split) <;> omega

set_option maxHeartbeats 1000000 in
theorem law_lower (s : ByteArray) (w : World) (hs : s.size ≤ maxLen) :
    Calls Try.prog 7 #[.string s] w fun e w' => e = .returned (.bool true) ∧ Below w.heap.size w w' := by
  have hs0 := hs
  unfold maxLen at hs
  by_cases h5 : 5000 < s.size
  · go_enter Try.func7, Try.ntmps7
    go_wp2_with (go_at_call 13; refine (alive01 _).mono ?_; rintro e w1 ⟨rfl, hb1⟩)
    go_ret
    exact ⟨rfl, hb1⟩
  · have hl : (lowS s).size ≤ maxLen := by rw [lowS_size]; exact hs0
    have htw := lowS_twice s
    go_enter Try.func7, Try.ntmps7
    go_wp2_with (first
      | (go_at_call 13; refine (alive01 _).mono ?_; rintro e w1 ⟨rfl, hb1⟩)
      | (go_at_call_of 25 (Value.string s); refine (lower_any _ _ hs0).mono ?_; rintro e w2 ⟨rfl, hb2⟩)
      | (go_at_call_of 25 (Value.string (lowS s)); refine (lower_any _ _ hl).mono ?_; rintro e w4 ⟨rfl, hb4⟩)
      | (go_at_call 26; refine (ref_lower_any _ _ hs0).mono ?_; rintro e w3 ⟨rfl, hb3⟩)
      | (go_at_call 27; refine (printable_any _ _ hs0).mono ?_; rintro e w5 ⟨rfl, rfl⟩)
      | (go_at_call 28; refine (ref_printable_any _ _ hs0).mono ?_; rintro e w6 ⟨rfl, rfl⟩))
    go_ret
    exact ⟨rfl, below_then (below_then (below_then hb1 hb2) hb3) hb4⟩
end Go.Proofs.Yticeogdagnogpaa
