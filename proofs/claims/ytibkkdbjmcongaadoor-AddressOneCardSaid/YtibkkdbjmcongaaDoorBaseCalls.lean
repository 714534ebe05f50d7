/- The letters of both kinds; what package base's calls, and the reference's, answer. -/
--@optional
import Derived.Test.YtibkkdbjmcongaaDoorBaseDec2
import Derived.Test.YtibkkdbjmcongaaDoorClose
namespace Go.Proofs.YtibkkdbjmcongaaDoor
open Go.RowKit
set_option linter.unusedVariables false

def usualB : ByteArray := ⟨#[65, 66, 67, 68, 69, 70, 71, 72, 73, 74, 75, 76, 77, 78, 79, 80, 81, 82, 83, 84, 85, 86, 87, 88, 89, 90, 97, 98, 99, 100, 101, 102, 103, 104, 105, 106, 107, 108, 109, 110, 111, 112, 113, 114, 115, 116, 117, 118, 119, 120, 121, 122, 48, 49, 50, 51, 52, 53, 54, 55, 56, 57, 43, 47]⟩
def safeB : ByteArray := ⟨#[65, 66, 67, 68, 69, 70, 71, 72, 73, 74, 75, 76, 77, 78, 79, 80, 81, 82, 83, 84, 85, 86, 87, 88, 89, 90, 97, 98, 99, 100, 101, 102, 103, 104, 105, 106, 107, 108, 109, 110, 111, 112, 113, 114, 115, 116, 117, 118, 119, 120, 121, 122, 48, 49, 50, 51, 52, 53, 54, 55, 56, 57, 45, 95]⟩
theorem usual_size : usualB.size = 64 := rfl
theorem safe_size : safeB.size = 64 := rfl
theorem apart_of (L : ByteArray) (h : ∀ i j : Fin 64, at0 (sb L) i.val = at0 (sb L) j.val → i = j) : Apart L := fun i j hi hj e => by
  have := h ⟨i, hi⟩ ⟨j, hj⟩ e
  exact congrArg Fin.val this
set_option maxRecDepth 100000 in
theorem usual_apart : Apart usualB := apart_of _ (by decide +kernel)
set_option maxRecDepth 100000 in
theorem safe_apart : Apart safeB := apart_of _ (by decide +kernel)

set_option maxHeartbeats 400000 in
theorem enc_safe (v : Value) (l : List Int) (w : World) (h : RdI .u8 w v l) (hb : Bytes l) (hlen : l.length ≤ 1000000) :
    Calls Tryd.prog 64 #[v] w fun e w' => e = .returned (.string (strL safeB (encL l))) ∧ Below w.heap.size w w' := by
  go_enter Tryd.func64, Tryd.ntmps64
  go_wp2_with fail
  refine (encode04_any v l safeB w h hb safe_size hlen).mono ?_
  rintro e w1 ⟨rfl, hb1⟩
  go_wp2
  go_ret
  exact ⟨rfl, hb1⟩
set_option maxHeartbeats 400000 in
theorem dec_safe (s : ByteArray) (w : World) (hlen : s.size ≤ 1000000) :
    Calls Tryd.prog 52 #[.string s] w (Dec4Post w.heap.size w safeB s) := by
  go_enter Tryd.func52, Tryd.ntmps52
  go_wp2_with fail
  refine (decode04_any s safeB w safe_size hlen).mono ?_
  rintro e w1 ⟨v, c, rfl, hb1, h⟩
  go_wp2
  go_ret2
  exact ⟨v, c, rfl, hb1, h⟩
theorem dec_safe_ok (s : ByteArray) (bs : List Int) (w : World) (hlen : s.size ≤ 1000000) (hd : decT safeB s = some bs) :
    Calls Tryd.prog 52 #[.string s] w fun e w' => ∃ a cap, e = .returned (.tuple #[.slice a bs.length cap, .int .i64 0]) ∧ Below w.heap.size w w' ∧ RdI .u8 w' (.slice a bs.length cap) bs ∧ Bytes bs ∧ bs.length ≤ s.size := by
  refine (dec_safe s w hlen).mono ?_
  rintro e w1 ⟨v, c, rfl, hb1, ⟨bs', hr, rfl, hle, hbb, hown⟩ | ⟨hr, _⟩⟩
  · rw [hd] at hr
    cases hr
    obtain ⟨a, cap, rfl, h1, h2, h3, h4, h5⟩ := own_cell hown
    exact ⟨a, cap, rfl, hb1, RdI.of_own hown, hbb, hle⟩
  · rw [hd] at hr; cases hr
theorem dec_safe_no (s : ByteArray) (w : World) (hlen : s.size ≤ 1000000) (hd : decT safeB s = none) :
    Calls Tryd.prog 52 #[.string s] w fun e w' => e = .returned (.tuple #[.slice none 0 0, .int .i64 2]) ∧ Below w.heap.size w w' := by
  refine (dec_safe s w hlen).mono ?_
  rintro e w1 ⟨v, c, rfl, hb1, ⟨bs', hr, _⟩ | ⟨hr, rfl, rfl⟩⟩
  · rw [hd] at hr; cases hr
  · exact ⟨rfl, hb1⟩
set_option maxHeartbeats 400000 in
theorem ref_dec_safe (s : ByteArray) (w : World) (hlen : s.size ≤ 1000000) :
    Calls Tryd.prog 53 #[.string s] w (Dec4Post w.heap.size w safeB s) := by
  go_enter Tryd.func53, Tryd.ntmps53
  go_wp2_with fail
  refine (ref_decode04_any s safeB w safe_size safe_apart hlen).mono ?_
  rintro e w1 ⟨v, c, rfl, hb1, h⟩
  go_wp2
  go_ret2
  exact ⟨v, c, rfl, hb1, h⟩
theorem ref_dec_safe_ok (s : ByteArray) (bs : List Int) (w : World) (hlen : s.size ≤ 1000000) (hd : decT safeB s = some bs) :
    Calls Tryd.prog 53 #[.string s] w fun e w' => ∃ a cap, e = .returned (.tuple #[.slice a bs.length cap, .int .i64 0]) ∧ Below w.heap.size w w' ∧ RdI .u8 w' (.slice a bs.length cap) bs ∧ Bytes bs ∧ bs.length ≤ s.size := by
  refine (ref_dec_safe s w hlen).mono ?_
  rintro e w1 ⟨v, c, rfl, hb1, ⟨bs', hr, rfl, hle, hbb, hown⟩ | ⟨hr, _⟩⟩
  · rw [hd] at hr
    cases hr
    obtain ⟨a, cap, rfl, h1, h2, h3, h4, h5⟩ := own_cell hown
    exact ⟨a, cap, rfl, hb1, RdI.of_own hown, hbb, hle⟩
  · rw [hd] at hr; cases hr
theorem ref_dec_safe_no (s : ByteArray) (w : World) (hlen : s.size ≤ 1000000) (hd : decT safeB s = none) :
    Calls Tryd.prog 53 #[.string s] w fun e w' => e = .returned (.tuple #[.slice none 0 0, .int .i64 2]) ∧ Below w.heap.size w w' := by
  refine (ref_dec_safe s w hlen).mono ?_
  rintro e w1 ⟨v, c, rfl, hb1, ⟨bs', hr, _⟩ | ⟨hr, rfl, rfl⟩⟩
  · rw [hd] at hr; cases hr
  · exact ⟨rfl, hb1⟩

/-- There and back. -/
theorem decT_strL (L : ByteArray) (hL : L.size = 64) (hA : Apart L) (l : List Int) (hb : Bytes l) : decT L (strL L (encL l)) = some l := by
  have hsx := encL_six hb
  have hbt : Bytes ((encL l).map (lttr L)) := by
    intro x hx
    obtain ⟨y, _, rfl⟩ := List.mem_map.1 hx
    exact (sb_bytes L).at _
  have hn : numsL L (strL L (encL l)) = encL l := by
    rw [numsL, strL, sb_strOf hbt, List.map_map]
    have : ∀ x ∈ encL l, (idxI L ∘ lttr L) x = x := by
      intro x hx
      have h6 := hsx x hx
      have hc := (sb_bytes L).at x.toNat
      simp only [Function.comp, lttr]
      rcases idx_spec L hL _ hc.1 hc.2 with ⟨_, h⟩ | ⟨j, hj, h1, h2⟩
      · exact absurd rfl (h x.toNat (by omega))
      · have := hA j x.toNat hj (by omega) h2
        omega
    rw [List.map_congr_left this]
    simp
  have hok : allOk L (strL L (encL l)) := fun k hk => by rw [hn]; exact (hsx.at k).1
  rw [decT_yes hok, hn, decV]
  have hg := dst_G (encL l).length (encL l) (Nat.le_refl _) hsx
  have he := dec_enc_G l.length l (Nat.le_refl _) hb
  rw [← encL_G l.length l (Nat.le_refl _) hb, ← hg] at he
  rw [if_neg (by intro h; rcases h with h | h; exact he.2.1 h; exact h he.2.2), he.1]
/-- What is decoded, and encoded, is that text. -/
theorem strL_decT (L s : ByteArray) (hL : L.size = 64) (hA : Apart L) (bs : List Int) (h : decT L s = some bs) : strL L (encL bs) = s := by
  by_cases hok : allOk L s
  · have hsx := six_nums hL hok
    have hinv := dst_inv hsx s.size
    have hag := again_iff hA hL hok hinv.2.2.2
    rw [decT_yes hok, decV, numsL_length] at h
    split at h
    · cases h
    · rename_i hc
      cases h
      exact hag.2 hc
  · rw [show decT L s = none from if_neg hok] at h
    cases h
theorem encL_len (l : List Int) (hb : Bytes l) : ((encL l).length : Int) = (8 * l.length + 5) / 6 := by
  rw [encL_G l.length l (Nat.le_refl _) hb]
  have key : ∀ n : Nat, ∀ l : List Int, l.length ≤ n → ((encG l).length : Int) = (8 * l.length + 5) / 6 := by
    intro n
    induction n with
    | zero =>
      intro l hn
      obtain rfl : l = [] := List.eq_nil_of_length_eq_zero (by omega)
      rfl
    | succ n ih =>
      intro l hn
      match l, hn with
      | [], _ => rfl
      | [x], _ => simp [encG]
      | [x, y], _ => simp [encG]
      | x :: y :: z :: t, hn =>
        have := ih t (by simp at hn; omega)
        simp only [encG, List.cons_append, List.nil_append, List.length_cons]
        omega
  exact key l.length l (Nat.le_refl _)
theorem strL_append (L : ByteArray) (a b : List Int) : strL L (a ++ b) = strL L a ++ strL L b := by
  apply ByteArray.ext
  simp [strL, strOfNums, List.map_append]

theorem alive_e1 : strL usualB (encL [255]) = ⟨#[47, 119]⟩ := by decide +kernel
theorem alive_e2 : strL safeB (encL [255]) = ⟨#[95, 119]⟩ := by decide +kernel
theorem alive_d1 : decT usualB ⟨#[90, 109, 57, 118, 89, 103]⟩ = some [102, 111, 111, 98] := by decide +kernel
theorem alive_d2 : decT usualB ⟨#[90, 109, 57, 118, 89, 104]⟩ = none := by decide +kernel
end Go.Proofs.YtibkkdbjmcongaaDoor
