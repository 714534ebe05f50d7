/- Lower and Printable of both packages. Layer 6 (address): the document's words over lists of bytes, as numbers; and what the library's words are in these. Layer 6 (address): email addresses, as the program tells them. Parts of texts. No program stands here. strings.Cut at a separator of one byte, of any text. Layer 6 (address): email addresses: the program's and the reference's answers. What the reference's Same, SameRunes and Copy do: two slices are the same just if they hold the same numbers; a copy is one's own. Layer 6 (address): telephone numbers: what was dialled. Layer 6 (address): the countries. Layer 6 (address): telephone numbers, as the program tells them. Layer 6 (address): the law's own fixed fact; numbers with and without a nought ahead. address.Make, address.Right, of any text. ids.User of any text. What slices.Insert needs: parts of slices of one's own that overlap, the room of a slice, an append of zeros. No program stands here. slices.Insert on rows of cells: some rows, of a block of their own, into a slice of one's own. What slices.Clone leaves: nothing, or a slice of one's own; and that changes behind a base are none ahead of it. No program stands here. slices.Clone on rows of cells, and Insert and Delete on what it leaves. The order of texts. No program stands here. Package bond. Slices of structures as arguments, with what their data weighs. No program stands here. Bonds, as arguments. Layer 5 (ids): the reference's answers are the same. Layer 5 (ids): th -/
import Derived.Lib.IndexMore
import Derived.Lib.IndexBytes
import Derived.Lib.IndexLaws
import Derived.MapFrom
import Derived.IntWalk
import Derived.Lib.Overlaps
import Derived.Test.YthefddclefimoaaGreatDoorTie
import Derived.Test.YthefddclefimoaaGreatDoorCards
import Derived.Deep.Strs
import Derived.ChangeSame
import Derived.Deep.DeepHandedRow
import Derived.Lay
import Derived.LaidLaws
import Derived.SevenTiedAt
import Derived.Test.YthefddclefimoaaGreatDoorXB
--@optional
namespace Go.Proofs.YthefddclefimoaaGreatDoor
open Go.RowKit
set_option linter.unusedVariables false

def lowI (x : Int) : Int := if 65 ≤ x ∧ x ≤ 90 then x + 32 else x
theorem low_bytes {l : List Int} (h : Bytes l) : Bytes (l.map lowI) := by
  intro x hx
  obtain ⟨y, hy, rfl⟩ := List.mem_map.1 hx
  have := h y hy
  unfold lowI
  split <;> omega
/-- A text with small letters. -/
def lowS (s : ByteArray) : ByteArray := strOfNums ((sb s).map lowI)
def okI (x : Int) : Bool := decide (32 ≤ x) && decide (x ≤ 126)
def printS (s : ByteArray) : Bool := (sb s).all okI

/-- The first k are small. -/
def lowTo (l : List Int) (k : Nat) : List Int := (l.take k).map lowI ++ l.drop k
theorem lowTo_length (l : List Int) (k : Nat) (hk : k ≤ l.length) : (lowTo l k).length = l.length := by simp [lowTo]; omega
theorem lowTo_zero (l : List Int) : lowTo l 0 = l := by simp [lowTo]
theorem lowTo_all (l : List Int) : lowTo l l.length = l.map lowI := by simp [lowTo]
theorem at0_lowTo (l : List Int) (k : Nat) (hk : k < l.length) : at0 (lowTo l k) k = at0 l k := by
  simp only [at0, lowTo]
  rw [List.getElem?_append_right (by simp; omega)]
  simp only [List.length_map, List.length_take, List.getElem?_drop]
  congr 2
  omega
theorem lowTo_succ (l : List Int) (k : Nat) (hk : k < l.length) : lowTo l (k + 1) = (lowTo l k).set k (lowI (at0 l k)) := by
  apply List.ext_getElem
  · rw [lowTo_length _ _ (by omega), List.length_set, lowTo_length _ _ (by omega)]
  intro i h1 h2
  rw [lowTo_length _ _ (by omega)] at h1
  rw [List.getElem_set]
  simp only [lowTo, List.getElem_append, List.length_map, List.length_take]
  by_cases hik : i = k
  · subst hik
    have a1 : i < min (i + 1) l.length := by omega
    simp [at0, hk, a1]
  · by_cases hlt : i < k
    · have a1 : i < min (k + 1) l.length := by omega
      have a2 : i < min k l.length := by omega
      simp [a1, a2, show ¬ k = i by omega]
    · have a1 : ¬ i < min (k + 1) l.length := by omega
      have a2 : ¬ i < min k l.length := by omega
      simp [a1, a2, show ¬ k = i by omega]
      congr 1
      omega
theorem lowTo_same (l : List Int) (k : Nat) (hk : k < l.length) (h : lowI (at0 l k) = at0 l k) : lowTo l (k + 1) = lowTo l k := by
  rw [lowTo_succ l k hk, h, ← at0_lowTo l k hk]
  have hl : k < (lowTo l k).length := by rw [lowTo_length _ _ (by omega)]; exact hk
  rw [at0_lt hl]
  exact List.set_getElem_self hl

set_option maxHeartbeats 1000000 in
theorem lower_any (s : ByteArray) (w : World) (hs : s.size ≤ maxLen) :
    Calls Tryz.prog 135 #[.string s] w fun e w' => e = .returned (.string (lowS s)) ∧ Below w.heap.size w w' := by
  have hs0 := hs
  unfold maxLen at hs
  go_enter Tryz.func135, Tryz.ntmps135
  go_wp2_with (with_reducible refine wpList_conv_sb rfl _ _ _ 5 rfl Tryz.underlying9 Tryz.underlying149 Tryz.underlying5 s rfl hs0 ?_; intro w1 cap hc1 hc2 hrow hbel)
  go_loopw [4, 9] (fun _ i wr => ∃ k : Nat, k ≤ s.size ∧ i = .int .i64 k ∧ BRow .u8 wr w.heap.size (lowTo (sb s) k) ∧ Below w.heap.size w wr) (fun _ i _ => s.size - (intOf i).toNat)
  case atStart => exact ⟨0, Nat.zero_le _, rfl, by rw [lowTo_zero]; exact hrow, hbel⟩
  case round =>
    obtain ⟨k, hk, rfl, hr, hb⟩ := hrel
    clear hrow hbel
    by_cases hlt : k < s.size
    · have hl : k < (sb s).length := by rw [sb_length]; exact hlt
      have hl2 : k < (lowTo (sb s) k).length := by rw [lowTo_length _ _ (by omega)]; exact hl
      have hcell := hr.cell hl2
      rw [at0_lowTo _ _ hl] at hcell
      have hfr := hr.free hl2
      obtain ⟨z0, z1⟩ := (sb_bytes s).at k
      have HR := Lib.hid hr; clear hr
      go_wp2
      · refine ⟨⟨k + 1, by omega, by go_num, ?_, hb.setCell (Nat.le_refl _) _⟩, by simp [intOf]; omega⟩
        rw [lowTo_succ _ _ hl, show lowI (at0 (sb s) k) = at0 (sb s) k + 32 from if_pos ⟨by assumption, by assumption⟩]
        exact HR.out.set hl2 _
      · refine ⟨⟨k + 1, by omega, by go_num, ?_, hb⟩, by simp [intOf]; omega⟩
        rw [lowTo_same _ _ hl (if_neg (by omega))]
        exact HR.out
      · refine ⟨⟨k + 1, by omega, by go_num, ?_, hb⟩, by simp [intOf]; omega⟩
        rw [lowTo_same _ _ hl (if_neg (by omega))]
        exact HR.out
    · have hks : k = s.size := by omega
      have hrd : RdI .u8 wr (.slice (some ⟨w.heap.size, 0, none⟩) s.size cap) ((sb s).map lowI) := by
        rw [hks, ← sb_length s, lowTo_all] at hr
        have := hr.rd (cap := cap) (by simp [sb_length]; exact hc1) hc2
        simpa [sb_length] using this
      clear hks hr
      have hcv := run_conv_bs (P := Tryz.prog) 149 9 5 Tryz.underlying149 Tryz.underlying9 Tryz.underlying5 _ _ hrd
      go_wp2
      go_ret
      exact ⟨rfl, hb⟩
set_option maxHeartbeats 1000000 in
theorem ref_lower_any (s : ByteArray) (w : World) (hs : s.size ≤ maxLen) :
    Calls Tryz.prog 141 #[.string s] w fun e w' => e = .returned (.string (lowS s)) ∧ Below w.heap.size w w' := by
  have hs0 := hs
  unfold maxLen at hs
  go_enter Tryz.func141, Tryz.ntmps141
  go_wp2_with (with_reducible refine wpList_conv_sb rfl _ _ _ 5 rfl Tryz.underlying9 Tryz.underlying149 Tryz.underlying5 s rfl hs0 ?_; intro w1 cap hc1 hc2 hrow hbel)
  go_loopw [4] (fun i wr => ∃ k : Nat, k ≤ s.size ∧ i = .int .i64 k ∧ BRow .u8 wr w.heap.size (lowTo (sb s) k) ∧ Below w.heap.size w wr) (fun i _ => s.size - (intOf i).toNat)
  case atStart => exact ⟨0, Nat.zero_le _, rfl, by rw [lowTo_zero]; exact hrow, hbel⟩
  case round =>
    obtain ⟨k, hk, rfl, hr, hb⟩ := hrel
    clear hrow hbel
    by_cases hlt : k < s.size
    · have hl : k < (sb s).length := by rw [sb_length]; exact hlt
      have hl2 : k < (lowTo (sb s) k).length := by rw [lowTo_length _ _ (by omega)]; exact hl
      have hcell := hr.cell hl2
      rw [at0_lowTo _ _ hl] at hcell
      have hfr := hr.free hl2
      obtain ⟨z0, z1⟩ := (sb_bytes s).at k
      have HR := Lib.hid hr; clear hr
      go_wp2
      · refine ⟨⟨k + 1, by omega, by go_num, ?_, hb.setCell (Nat.le_refl _) _⟩, by simp [intOf]; omega⟩
        rw [lowTo_succ _ _ hl, show lowI (at0 (sb s) k) = at0 (sb s) k + 32 from if_pos ⟨by assumption, by assumption⟩]
        exact HR.out.set hl2 _
      · refine ⟨⟨k + 1, by omega, by go_num, ?_, hb⟩, by simp [intOf]; omega⟩
        rw [lowTo_same _ _ hl (if_neg (by omega))]
        exact HR.out
      · refine ⟨⟨k + 1, by omega, by go_num, ?_, hb⟩, by simp [intOf]; omega⟩
        rw [lowTo_same _ _ hl (if_neg (by omega))]
        exact HR.out
    · have hks : k = s.size := by omega
      have hrd : RdI .u8 wr (.slice (some ⟨w.heap.size, 0, none⟩) s.size cap) ((sb s).map lowI) := by
        rw [hks, ← sb_length s, lowTo_all] at hr
        have := hr.rd (cap := cap) (by simp [sb_length]; exact hc1) hc2
        simpa [sb_length] using this
      clear hks hr
      have hcv := run_conv_bs (P := Tryz.prog) 149 9 5 Tryz.underlying149 Tryz.underlying9 Tryz.underlying5 _ _ hrd
      go_wp2
      go_ret
      exact ⟨rfl, hb⟩
end Go.Proofs.YthefddclefimoaaGreatDoor
namespace Go.Proofs.YthefddclefimoaaGreatDoor
open Go.RowKit
set_option linter.unusedVariables false

def lsgI (c : Int) : Bool := [46, 33, 35, 36, 37, 38, 39, 42, 43, 47, 61, 63, 94, 95, 96, 123, 124, 125, 126, 45].contains c
def locI (c : Int) : Bool := digI c || smlI c || grtI c || lsgI c
def dotI (c : Int) : Bool := c == 46
/-- Neither end is a point. -/
def pedgesI (l : List Int) : Bool := !(l.head?.any dotI) && !(l.getLast?.any dotI)
def localL (l : List Int) : Bool := madeI l 64 locI && (!dotsI l && pedgesI l)
def domainL (l : List Int) : Bool := hostL l && l.contains 46
def spI (c : Int) : Bool := c == 32
/-- Without blanks at both ends. -/
def trimI (l : List Int) : List Int := ((l.reverse.dropWhile spI).reverse).dropWhile spI
def atI (l : List Int) : Nat := l.findIdx (· == 64)
def mailB (t : List Int) : Bool := decide (atI t < t.length) && (decide (t.length ≤ 254) && (localL (t.take (atI t)) && domainL (t.drop (atI t + 1))))

theorem signs_local (c : Int) (h0 : 0 ≤ c) (h1 : c ≤ 255) : decide (0 ≤ Lib.indexByte [46, 33, 35, 36, 37, 38, 39, 42, 43, 47, 61, 63, 94, 95, 96, 123, 124, 125, 126, 45] c.toNat.toUInt8) = lsgI c := by
  have key : ∀ n : Fin 256, decide (0 ≤ Lib.indexByte [46, 33, 35, 36, 37, 38, 39, 42, 43, 47, 61, 63, 94, 95, 96, 123, 124, 125, 126, 45] n.val.toUInt8) = lsgI (n.val : Int) := by decide +kernel
  have := key ⟨c.toNat, by omega⟩
  simpa only [Int.toNat_of_nonneg h0] using this
theorem cut_gen (s : ByteArray) (c : UInt8) : sb ⟨(Lib.cut s.data.toList [c]).1.toArray⟩ = (sb s).take ((sb s).findIdx (· == (c.toNat : Int))) ∧ sb ⟨(Lib.cut s.data.toList [c]).2.1.toArray⟩ = (sb s).drop ((sb s).findIdx (· == (c.toNat : Int)) + 1) ∧ (Lib.cut s.data.toList [c]).2.2 = decide ((sb s).findIdx (· == (c.toNat : Int)) < (sb s).length) := by
  have hc : (sb s).findIdx (· == (c.toNat : Int)) = s.data.toList.findIdx (· == c) := findIdx_sb s.data.toList c
  have hl : (sb s).length = s.data.toList.length := by simp [sb]
  rw [sb_mk (Lib.cut s.data.toList [c]).1, sb_mk (Lib.cut s.data.toList [c]).2.1, hc, hl, Lib.cut, index_one]
  by_cases hlt : s.data.toList.findIdx (· == c) < s.data.toList.length
  · rw [if_pos hlt, if_pos (by omega)]
    refine ⟨?_, ?_, ?_⟩
    · simp [sb, List.map_take]
    · simp [sb, List.map_drop]
    · simp only [decide_eq_true hlt]
  · rw [if_neg hlt, if_neg (by omega)]
    refine ⟨?_, ?_, ?_⟩
    · rw [List.take_of_length_le (by rw [hl]; omega)]; simp [sb]
    · rw [List.drop_of_length_le (by rw [hl]; omega)]; rfl
    · simp only [decide_eq_false hlt]
theorem dropWhile_map (p : Int → Bool) (q : UInt8 → Bool) (h : ∀ c, q c = p (c.toNat : Int)) (l : List UInt8) : (l.dropWhile q).map (fun c => (c.toNat : Int)) = (l.map fun c => (c.toNat : Int)).dropWhile p := by
  induction l with
  | nil => rfl
  | cons x r ih =>
    rw [List.dropWhile_cons, List.map_cons, List.dropWhile_cons, h x]
    split
    · exact ih
    · rfl
theorem beq_num (x c : UInt8) : (x == c) = ((x.toNat : Int) == (c.toNat : Int)) := (toNat_beq x c).symm
theorem trim_sp (l : List UInt8) : (Lib.trimB l 32).map (fun c => (c.toNat : Int)) = trimI (l.map fun c => (c.toNat : Int)) := by
  have hq : ∀ c : UInt8, (c == 32) = spI (c.toNat : Int) := fun c => beq_num c 32
  unfold Lib.trimB Lib.trimLeftB Lib.trimRightB trimI
  rw [dropWhile_map spI (fun c => c == 32) hq, List.map_reverse, dropWhile_map spI (fun c => c == 32) hq, List.map_reverse]
theorem any_dot (o : Option UInt8) : (o.map fun c => (c.toNat : Int)).any dotI = o.any fun c => ([46] : List UInt8).contains c := by
  cases o with
  | none => rfl
  | some c =>
    show dotI (c.toNat : Int) = ([46] : List UInt8).contains c
    rw [Lib.contains_one]; exact (beq_num c 46).symm
theorem trimS_pedges (l : List UInt8) : (Lib.trimS l [46] = l) ↔ pedgesI (l.map fun c => (c.toNat : Int)) = true := by
  have hh : (l.map fun c => (c.toNat : Int)).head?.any dotI = l.head?.any fun c => ([46] : List UInt8).contains c := by rw [List.head?_map, any_dot]
  have hg : (l.map fun c => (c.toNat : Int)).getLast?.any dotI = l.getLast?.any fun c => ([46] : List UInt8).contains c := by rw [List.getLast?_map, any_dot]
  rw [pedgesI, hh, hg]
  have hr := dropWhile_same (fun c => ([46] : List UInt8).contains c) l.reverse
  rw [List.head?_reverse] at hr
  unfold Lib.trimS Lib.trimLeftS Lib.trimRightS
  generalize (fun c => ([46] : List UInt8).contains c) = p at *
  rcases hr with ⟨h1, h2⟩ | ⟨h1, h2⟩
  · rw [h1, List.reverse_reverse, h2]
    rcases dropWhile_same p l with ⟨h3, h4⟩ | ⟨h3, h4⟩
    · rw [h4, h3]; simp
    · rw [h4]
      refine ⟨fun e => ?_, fun e => by cases e⟩
      rw [e] at h3
      omega
  · rw [h2]
    refine ⟨fun e => ?_, fun e => by simp at e⟩
    have := dropWhile_len p (l.reverse.dropWhile p).reverse
    rw [e, List.length_reverse] at this
    rw [List.length_reverse] at h1
    omega
theorem made_len {l : List Int} {most : Int} {K : Int → Bool} (h : madeI l most K = true) : 1 ≤ l.length ∧ (l.length : Int) ≤ most ∧ l.all K = true := by
  simp only [madeI, Bool.and_eq_true, decide_eq_true_eq] at h
  exact ⟨h.1, h.2.1, h.2.2⟩
theorem host_no_colon {l : List Int} (h : hostL l = true) : colI l = l.length := by
  simp only [hostL, Bool.and_eq_true] at h
  obtain ⟨-, -, ha⟩ := made_len h.1
  unfold colI
  rw [List.findIdx_eq_length]
  intro x hx
  have := List.all_eq_true.1 ha x hx
  cases hq : (x == 58)
  · rfl
  · rw [beq_iff_eq.1 hq] at this; cases this
theorem domain_server (l : List Int) : (serverL l && (l.contains 46 && !l.contains 58)) = domainL l := by
  unfold domainL
  cases hc : l.contains 58
  · have e : colI l = l.length := by
      unfold colI
      rw [List.findIdx_eq_length]
      intro x hx
      cases hq : (x == 58)
      · rfl
      · rw [beq_iff_eq.1 hq] at hx
        have : l.contains 58 = true := by simpa using hx
        rw [hc] at this; cases this
    have e2 : serverL l = hostL l := by rw [serverL, e, List.take_length, decide_eq_true (Nat.le_refl _)]; rfl
    rw [e2]; simp
  · cases hh : hostL l
    · simp
    · have := host_no_colon hh
      unfold colI at this
      rw [List.findIdx_eq_length] at this
      have h58 : (58 : Int) ∈ l := by simpa using hc
      have := this 58 h58
      cases this
end Go.Proofs.YthefddclefimoaaGreatDoor
namespace Go.Proofs.YthefddclefimoaaGreatDoor
open Go.RowKit
set_option linter.unusedVariables false

set_option maxHeartbeats 400000 in
theorem server_is (s : ByteArray) (b : Bool) (w : World) (hm : MaxC w) (hs : s.size ≤ 1000000) (hb : serverL (sb s) = b) : Calls Tryz.prog 89 #[.string s] w fun e w' => e = .returned (.bool b) ∧ Below w.heap.size w w' := by rw [← hb]; exact server_any s w hm hs
theorem adigit_any (c : Int) (w : World) : Calls Tryz.prog 156 #[.int .u8 c] w fun e w' => e = .returned (.bool (digI c)) ∧ w = w' := by
  go_enter Tryz.func156, Tryz.ntmps156
  go_wp2
  all_goals go_ret
  all_goals exact ⟨by simp [digI, *]; try omega, rfl⟩
theorem adigit_is (c : Int) (b : Bool) (w : World) (h : digI c = b) : Calls Tryz.prog 156 #[.int .u8 c] w fun e w' => e = .returned (.bool b) ∧ w = w' := by rw [← h]; exact adigit_any c w
theorem idxLocal_any (c : Int) (b : Bool) (w : World) (h0 : 0 ≤ c) (h1 : c ≤ 255) (h : lsgI c = b) :
    Calls Tryz.prog 92 #[.string ⟨#[46, 33, 35, 36, 37, 38, 39, 42, 43, 47, 61, 63, 94, 95, 96, 123, 124, 125, 126, 45]⟩, .int .u8 c] w fun e w' => (∃ k : Int, decide (0 ≤ k) = b ∧ e = .returned (.int .i64 k)) ∧ w = w' := by
  refine (Tryz.strings_IndexByte ⟨#[46, 33, 35, 36, 37, 38, 39, 42, 43, 47, 61, 63, 94, 95, 96, 123, 124, 125, 126, 45]⟩ c w).mono ?_
  rintro e w' ⟨rfl, rfl⟩
  exact ⟨⟨_, by rw [← h, ← signs_local c h0 h1], rfl⟩, rfl⟩
set_option maxHeartbeats 400000 in
theorem ofLocal_any (c : Int) (w : World) (h0 : 0 ≤ c) (h1 : c ≤ 255) : Calls Tryz.prog 155 #[.int .u8 c] w fun e w' => e = .returned (.bool (locI c)) ∧ w = w' := by
  have HI := fun w' => idxLocal_any c (lsgI c) w' h0 h1 rfl
  have HD := adigit_any c
  go_enter Tryz.func155, Tryz.ntmps155
  go_wp2_with (first | (go_at_call 156; refine (HD _).mono ?_; rintro e w' ⟨rfl, rfl⟩) | (go_at_call 92; refine (HI _).mono ?_; rintro e w' ⟨⟨k, hk, rfl⟩, rfl⟩; have HK := Lib.hid hk; clear hk))
  all_goals go_ret
  all_goals refine ⟨?_, rfl⟩
  · have h : digI c = true := by assumption
    show Ending.returned (.bool true) = _
    rw [locI, h]; rfl
  · have h : digI c = false := by simpa using ‹¬digI c = true›
    show Ending.returned (.bool (decide (0 ≤ k))) = _
    rw [HK.out, locI, h, smlI, grtI, decide_eq_false (show ¬ c ≤ 122 by omega), decide_eq_false (show ¬ c ≤ 90 by omega)]; simp
  · show Ending.returned (.bool true) = _
    rw [locI, smlI, decide_eq_true (show 97 ≤ c by assumption), decide_eq_true (show c ≤ 122 by assumption)]; simp
  · show Ending.returned (.bool true) = _
    rw [locI, grtI, decide_eq_true (show 65 ≤ c by assumption), decide_eq_true (show c ≤ 90 by assumption)]; simp
  · have h : digI c = false := by simpa using ‹¬digI c = true›
    show Ending.returned (.bool (decide (0 ≤ k))) = _
    rw [HK.out, locI, h, smlI, grtI, decide_eq_false (show ¬ 97 ≤ c by omega), decide_eq_false (show ¬ c ≤ 90 by omega)]; simp
  · have h : digI c = false := by simpa using ‹¬digI c = true›
    show Ending.returned (.bool (decide (0 ≤ k))) = _
    rw [HK.out, locI, h, smlI, grtI, decide_eq_false (show ¬ 97 ≤ c by omega), decide_eq_false (show ¬ 65 ≤ c by omega)]; simp
theorem ofLocal_is (c : Int) (b : Bool) (w : World) (h0 : 0 ≤ c) (h1 : c ≤ 255) (h : locI c = b) : Calls Tryz.prog 155 #[.int .u8 c] w fun e w' => e = .returned (.bool b) ∧ w = w' := by rw [← h]; exact ofLocal_any c w h0 h1
theorem trim1_any (s : ByteArray) (w : World) (hs : s.size ≤ 1000000) :
    Calls Tryz.prog 129 #[.string s, .string ⟨#[46]⟩] w fun e w' => ∃ t : ByteArray, (t = s ↔ pedgesI (sb s) = true) ∧ e = .returned (.string t) ∧ Below w.heap.size w w' := by
  refine (Tryz.strings_Trim_one s 46 (by decide) w (by omega)).mono ?_
  rintro e w' ⟨rfl, hw⟩
  refine ⟨_, ?_, rfl, ?_⟩
  · rw [sb, ← trimS_pedges, Lib.trimS_one]
    constructor
    · intro h
      have := congrArg (fun t : ByteArray => t.data.toList) h
      simpa using this
    · intro h
      show (⟨(Lib.trimB s.data.toList 46).toArray⟩ : ByteArray) = s
      rw [h]
  · rcases hw with rfl | rfl
    · exact Below.refl _ _
    · exact (Below.refl _ _).drew
theorem trimsp_any (s : ByteArray) (w : World) (hs : s.size ≤ 140737488355328) :
    Calls Tryz.prog 129 #[.string s, .string ⟨#[32]⟩] w fun e w' => ∃ t : ByteArray, sb t = trimI (sb s) ∧ e = .returned (.string t) ∧ Below w.heap.size w w' := by
  refine (Tryz.strings_Trim_one s 32 (by decide) w (by omega)).mono ?_
  rintro e w' ⟨rfl, hw⟩
  refine ⟨_, ?_, rfl, ?_⟩
  · rw [sb_mk, trim_sp]; rfl
  · rcases hw with rfl | rfl
    · exact Below.refl _ _
    · exact (Below.refl _ _).drew
set_option maxHeartbeats 1000000 in
theorem local_any (s : ByteArray) (w : World) (hm : MaxC w) (hs : s.size ≤ 1000000) :
    Calls Tryz.prog 133 #[.string s] w fun e w' => e = .returned (.bool (localL (sb s))) ∧ Below w.heap.size w w' := by
  have hl := sb_length s
  by_cases h1 : (s.size : Int) < 1
  · have HF := Lib.hid (show localL (sb s) = false by rw [localL, made_no _ _ _ (by omega)]; rfl)
    clear hl
    go_enter Tryz.func133, Tryz.ntmps133
    go_wp2
    go_ret
    exact ⟨by rw [HF.out]; rfl, Below.refl _ _⟩
  by_cases h2 : (64 : Int) < s.size
  · have HF := Lib.hid (show localL (sb s) = false by rw [localL, made_no _ _ _ (by omega)]; rfl)
    clear hl
    go_enter Tryz.func133, Tryz.ntmps133
    go_wp2
    go_ret
    exact ⟨by rw [HF.out]; rfl, Below.refl _ _⟩
  have hlv : localL (sb s) = ((sb s).all locI && (!dotsI (sb s) && pedgesI (sb s))) := by rw [localL, made_yes _ _ _ (by omega) (by omega)]
  have h1' : (1 : Int) ≤ s.size := by omega
  have h2' : (s.size : Int) ≤ 64 := by omega
  have HL := Lib.hid hl; clear hl
  cases hd : dotsI (sb s)
  rotate_left
  · have HF := Lib.hid (show localL (sb s) = false by rw [hlv, hd]; simp)
    have HD := dots_any s w hm hs true hd
    clear hd hlv
    go_enter Tryz.func133, Tryz.ntmps133
    go_wp2_with fail
    refine HD.mono ?_
    rintro e w' ⟨rfl, rfl⟩
    go_wp2
    go_ret
    exact ⟨by rw [HF.out]; rfl, Below.refl _ _⟩
  have HD := dots_any s w hm hs false hd
  have HT := trim1_any s w hs
  cases he : pedgesI (sb s)
  · have HF := Lib.hid (show localL (sb s) = false by rw [hlv, hd, he]; simp)
    rw [he] at HT
    clear hd he hlv
    go_enter Tryz.func133, Tryz.ntmps133
    go_wp2_with fail
    refine HD.mono ?_
    rintro e w' ⟨rfl, rfl⟩
    go_wp2_with fail
    refine HT.mono ?_
    rintro e w1 ⟨t, ht, rfl, hb1⟩
    have hne := str_eq_no (show ¬ t = s by simpa using ht)
    have hne2 : (t.toList != s.toList) = true := by rw [bne, hne]; rfl
    clear ht
    go_wp2
    go_ret
    exact ⟨by rw [HF.out]; rfl, hb1⟩
  have HF := Lib.hid (show localL (sb s) = (sb s).all locI by rw [hlv, hd, he]; simp)
  rw [he] at HT
  clear hd he hlv
  go_enter Tryz.func133, Tryz.ntmps133
  go_wp2_with fail
  refine HD.mono ?_
  rintro e w' ⟨rfl, rfl⟩
  go_wp2_with fail
  refine HT.mono ?_
  rintro e w1 ⟨t, ht, rfl, hb1⟩
  obtain rfl : t = s := by simpa using ht
  have hne := str_eq_yes (rfl : t = t)
  have hne2 : (t.toList != t.toList) = false := by rw [bne, hne]; rfl
  clear ht HT HD
  go_wp2
  go_loop [3, 24] (fun _ i => ∃ j : Nat, j ≤ t.size ∧ i = .int .i64 j ∧ ((sb t).take j).all locI = true) (fun _ i => t.size - (intOf i).toNat)
  case atStart => exact ⟨0, Nat.zero_le _, rfl, rfl⟩
  case round =>
    obtain ⟨j, hj, rfl, hall⟩ := hrel
    have H := Lib.hid hall; clear hall
    by_cases hlt : j < t.size
    · have hlj : j < (sb t).length := by have := HL.out; omega
      have hat := at0_sb t j hlt
      have HAt := Lib.hid hat; clear hat
      have c0 := (t[j]'hlt).toNat_lt
      cases hd : locI (at0 (sb t) j)
      · have HDc := Lib.hid (show locI ((t[j]'hlt).toNat : Int) = false by rw [← HAt.out]; exact hd)
        have HN := Lib.hid (show (sb t).all locI = false by rw [List.all_eq_false]; exact ⟨_, at0_mem hlj, by rw [hd]; decide⟩)
        clear hd
        go_wp2_with (go_at_call 155; refine (ofLocal_is _ _ _ (by omega) (by omega) HDc.out).mono ?_; rintro e w' ⟨rfl, rfl⟩)
        go_ret
        refine ⟨?_, hb1⟩
        rw [HF.out, HN.out]; rfl
      · have HDc := Lib.hid (show locI ((t[j]'hlt).toNat : Int) = true by rw [← HAt.out]; exact hd)
        have HDD := Lib.hid hd; clear hd
        go_wp2_with (go_at_call 155; refine (ofLocal_is _ _ _ (by omega) (by omega) HDc.out).mono ?_; rintro e w' ⟨rfl, rfl⟩)
        refine ⟨⟨j + 1, by omega, by go_num, ?_⟩, by simp [intOf]; omega⟩
        rw [List.take_add_one, List.getElem?_eq_getElem hlj, List.all_append, H.out, Option.toList_some, ← at0_lt hlj]
        simp [HDD.out]
    · go_wp2
      go_ret
      refine ⟨?_, hb1⟩
      have h := H.out
      rw [List.take_of_length_le (by have := HL.out; omega)] at h
      rw [HF.out, h]; rfl
theorem local_is (s : ByteArray) (b : Bool) (w : World) (hm : MaxC w) (hs : s.size ≤ 1000000) (h : localL (sb s) = b) :
    Calls Tryz.prog 133 #[.string s] w fun e w' => e = .returned (.bool b) ∧ Below w.heap.size w w' := by rw [← h]; exact local_any s w hm hs
theorem has_lib (l : List UInt8) (c : UInt8) : decide (0 ≤ Lib.indexByte l c) = (l.map fun c => (c.toNat : Int)).contains (c.toNat : Int) := by
  induction l with
  | nil => rfl
  | cons b r ih =>
    have hge := Lib.indexByte_ge r c
    rw [List.map_cons, List.contains_cons, ← ih, Lib.indexByte, beq_num b c]
    have e : ((c.toNat : Int) == (b.toNat : Int)) = ((b.toNat : Int) == (c.toNat : Int)) := Bool.beq_comm
    rw [e]
    cases ((b.toNat : Int) == (c.toNat : Int))
    · by_cases h : Lib.indexByte r c = -1
      · simp [h]
      · have h0 : 0 ≤ Lib.indexByte r c := by omega
        have h1 : 0 ≤ Lib.indexByte r c + 1 := by omega
        simp [h, h0, h1]
    · simp
theorem has_any (s : ByteArray) (c : UInt8) (b : Bool) (w : World) (h : (sb s).contains (c.toNat : Int) = b) :
    Calls Tryz.prog 128 #[.string s, .string ⟨#[c]⟩] w fun e w' => e = .returned (.bool b) ∧ w = w' := by
  refine (Tryz.strings_Contains_one s c w).mono ?_
  rintro e w' ⟨rfl, rfl⟩
  exact ⟨by rw [← h, has_lib]; rfl, rfl⟩
set_option maxHeartbeats 400000 in
theorem domain_any (s : ByteArray) (w : World) (hm : MaxC w) (hs : s.size ≤ 1000000) :
    Calls Tryz.prog 134 #[.string s] w fun e w' => e = .returned (.bool (domainL (sb s))) ∧ Below w.heap.size w w' := by
  have hd := domain_server (sb s)
  cases h1 : serverL (sb s)
  · have HF := Lib.hid (show domainL (sb s) = false by rw [← hd, h1]; rfl)
    have HS := server_is s false w hm hs h1
    clear hd h1
    go_enter Tryz.func134, Tryz.ntmps134
    go_wp2_with fail
    refine HS.mono ?_
    rintro e w1 ⟨rfl, hb1⟩
    go_wp2
    go_ret
    exact ⟨by rw [HF.out]; rfl, hb1⟩
  have HS := server_is s true w hm hs h1
  cases h2 : (sb s).contains 46
  · have HF := Lib.hid (show domainL (sb s) = false by rw [← hd, h2]; simp)
    have H2 := fun w' => has_any s 46 false w' h2
    clear hd h1 h2
    go_enter Tryz.func134, Tryz.ntmps134
    go_wp2_with fail
    refine HS.mono ?_
    rintro e w1 ⟨rfl, hb1⟩
    go_wp2_with fail
    refine (H2 _).mono ?_
    rintro e w' ⟨rfl, rfl⟩
    go_wp2
    go_ret
    exact ⟨by rw [HF.out]; rfl, hb1⟩
  have H2 := fun w' => has_any s 46 true w' h2
  cases h3 : (sb s).contains 58
  · have HF := Lib.hid (show domainL (sb s) = true by rw [← hd, h1, h2, h3]; rfl)
    have H3 := fun w' => has_any s 58 false w' h3
    clear hd h1 h2 h3
    go_enter Tryz.func134, Tryz.ntmps134
    go_wp2_with fail
    refine HS.mono ?_
    rintro e w1 ⟨rfl, hb1⟩
    go_wp2_with fail
    refine (H2 _).mono ?_
    rintro e w' ⟨rfl, rfl⟩
    go_wp2_with fail
    refine (H3 _).mono ?_
    rintro e w' ⟨rfl, rfl⟩
    go_wp2
    go_ret
    exact ⟨by rw [HF.out]; rfl, hb1⟩
  · have HF := Lib.hid (show domainL (sb s) = false by rw [← hd, h3]; simp)
    have H3 := fun w' => has_any s 58 true w' h3
    clear hd h1 h2 h3
    go_enter Tryz.func134, Tryz.ntmps134
    go_wp2_with fail
    refine HS.mono ?_
    rintro e w1 ⟨rfl, hb1⟩
    go_wp2_with fail
    refine (H2 _).mono ?_
    rintro e w' ⟨rfl, rfl⟩
    go_wp2_with fail
    refine (H3 _).mono ?_
    rintro e w' ⟨rfl, rfl⟩
    go_wp2
    go_ret
    exact ⟨by rw [HF.out]; rfl, hb1⟩
theorem domain_is (s : ByteArray) (b : Bool) (w : World) (hm : MaxC w) (hs : s.size ≤ 1000000) (h : domainL (sb s) = b) :
    Calls Tryz.prog 134 #[.string s] w fun e w' => e = .returned (.bool b) ∧ Below w.heap.size w w' := by rw [← h]; exact domain_any s w hm hs
end Go.Proofs.YthefddclefimoaaGreatDoor
namespace Go.Proofs.YthefddclefimoaaGreatDoor
open Go.RowKit
set_option linter.unusedVariables false
set_option linter.unusedSimpArgs false
section
variable {P : Program} {ops : Array Oper} {o : Oper} {N : Nat} {f : Fl} {w : World}
theorem dx_slTH {t : TypeId} {x y : Operand} {s : ByteArray} {K : IntKind} {i : Int} (h : Nat) (ho : o.op = .slice t x none (some y) none) (ht : P.underlying t = some .string) (hx : ev f x = some (.string s)) (hy : ev f y = some (.int K i)) (hi : i = (h : Int)) (hl : h ≤ s.size) (hw : wantF ops o f = some true := by rfl) : DV P ops o N f w (.string (s.extract 0 h)) := fun a ha => by
  subst hi
  have hx := ha.ev hx
  have hy := ha.ev hy
  refine Does.pure (wantF_of ha hw) _ ?_ ⟨rfl, rfl⟩
  have h1 : ((h : Int) ≤ (s.size : Int)) := by omega
  have h3 : (0 : Int) ≤ (h : Int) := by omega
  unfold execOp
  simp only [ho, Option.map_none, Option.map_some, hx, hy, Instr.sliceAt, Sem.run_bind, run_underlying ht, Result.andThen_ok, Instr.slice, Instr.sliceBounds, Instr.sliceBound, asIntOf, Sem.run_pure]
  simp [h1, h3]
  intro hh
  omega
theorem dx_slTL {t : TypeId} {x y : Operand} {s : ByteArray} {K : IntKind} {i : Int} (l : Nat) (ho : o.op = .slice t x (some y) none none) (ht : P.underlying t = some .string) (hx : ev f x = some (.string s)) (hy : ev f y = some (.int K i)) (hi : i = (l : Int)) (hl : l ≤ s.size) (hw : wantF ops o f = some true := by rfl) : DV P ops o N f w (.string (s.extract l s.size)) := fun a ha => by
  subst hi
  have hx := ha.ev hx
  have hy := ha.ev hy
  refine Does.pure (wantF_of ha hw) _ ?_ ⟨rfl, rfl⟩
  have h1 : ((l : Int) ≤ (s.size : Int)) := by omega
  have h3 : (0 : Int) ≤ (l : Int) := by omega
  unfold execOp
  simp only [ho, Option.map_none, Option.map_some, hx, hy, Instr.sliceAt, Sem.run_bind, run_underlying ht, Result.andThen_ok, Instr.slice, Instr.sliceBounds, Instr.sliceBound, asIntOf, Sem.run_pure]
  simp [h1, h3]
  intro hh
  omega
end
theorem ext_take (s : ByteArray) (n : Nat) : s.extract 0 n = ⟨(s.data.toList.take n).toArray⟩ := by
  apply ByteArray.ext
  apply Array.ext'
  rw [ByteArray.data_extract]
  simp
theorem ext_drop (s : ByteArray) (n : Nat) : s.extract n s.size = ⟨(s.data.toList.drop n).toArray⟩ := by
  apply ByteArray.ext
  apply Array.ext'
  rw [ByteArray.data_extract, Array.toList_extract, List.extract_eq_take_drop]
  exact List.take_of_length_le (by rw [List.length_drop, Array.length_toList]; show s.data.size - n ≤ s.data.size - n; exact Nat.le_refl _)
theorem indexByte_lt {l : List UInt8} {c : UInt8} (h : 0 ≤ Lib.indexByte l c) : ∃ k : Nat, Lib.indexByte l c = (k : Int) ∧ k < l.length := by
  obtain ⟨k, hk⟩ := Int.eq_ofNat_of_zero_le h
  exact ⟨k, hk, (List.getElem?_eq_some_iff.1 (Lib.indexByte_some hk).1).1⟩
end Go.Proofs.YthefddclefimoaaGreatDoor
namespace Go.Proofs.YthefddclefimoaaGreatDoor
open Go.RowKit
set_option linter.unusedVariables false
set_option linter.unusedSimpArgs false
set_option maxRecDepth 8000

theorem CV.of_same {P : Program} {F : FuncId} {args : List Value} {w : World} {v : Value} (h : Calls P F args.toArray w fun e w' => e = .returned v ∧ w' = w) : CV P F args w fun u _ => u = v := h.mono fun e w' ⟨h1, h2⟩ => ⟨_, h1, rfl, by rw [h2]; exact Below.refl _ _⟩
theorem cut_one_yes {s : ByteArray} {c : UInt8} (h : 0 ≤ Lib.indexByte s.data.toList c) : Lib.cut s.data.toList [c] = (s.data.toList.take (Lib.indexByte s.data.toList c).toNat, s.data.toList.drop ((Lib.indexByte s.data.toList c).toNat + 1), true) := by
  unfold Lib.cut
  rw [Lib.index_one, if_pos h]
  rfl
theorem cut_one_no {s : ByteArray} {c : UInt8} (h : ¬ 0 ≤ Lib.indexByte s.data.toList c) : Lib.cut s.data.toList [c] = (s.data.toList, [], false) := by
  unfold Lib.cut
  rw [Lib.index_one, if_neg h]
set_option maxHeartbeats 1000000 in
theorem cutA_v (s : ByteArray) (c : UInt8) (w : World) (L : List Nat) (hL : LL L w)   (hs : s.size ≤ 140737488355328) : CV Tryz.prog 110 [.string s, .string (⟨#[c]⟩ : ByteArray)] w fun v W => v = .tuple #[.string ⟨(Lib.cut s.data.toList [c]).1.toArray⟩, .string ⟨(Lib.cut s.data.toList [c]).2.1.toArray⟩, .bool (Lib.cut s.data.toList [c]).2.2] := by
  refine cv_enter (N := 23) (f := [(0, .string s), (1, .string (⟨#[c]⟩ : ByteArray))]) Tryz.func110 rfl rfl rfl rfl fun Q hQ hE => ?_
  have hB := Below.refl w.heap.size w
  refine WC.seq fun K1 hK1 => ?_
  refine WC.region ?_
  refine WL.val (dx_assign rfl rfl) rfl rfl ?_
  refine WL.val (dx_assign rfl rfl) rfl rfl ?_
  refine WL.val (dx_assign rfl rfl) rfl rfl ?_
  refine WL.nil ?_
  refine hK1 ?_
  refine WC.seq fun K2 hK2 => ?_
  refine WC.seq fun K3 hK3 => ?_
  refine WC.region ?_
  refine WL.val (dx_move rfl rfl) rfl rfl ?_
  refine WL.val (dx_move rfl rfl) rfl rfl ?_
  refine WL.get (dx_cv rfl Tryz.func126 rfl rfl rfl ((CV.of_same (Tryz.stringslite_Index_one s c w)))) rfl rfl ?_
  rintro _ W5 ⟨rfl, b4⟩
  replace hB := below_then hB b4
  replace hL := LL.below hL b4
  refine WL.val (dx_assign rfl rfl) rfl rfl ?_
  refine WL.nil ?_
  refine hK3 ?_
  refine WC.seq fun K6 hK6 => ?_
  refine WC.region ?_
  refine WL.val (dx_move rfl rfl) rfl rfl ?_
  refine WL.val (dx_geq rfl rfl rfl) rfl rfl ?_
  refine WL.nil ?_
  refine hK6 ?_
  refine WC.cond rfl (fun c7 => ?_) (fun c7 => ?_)
  ·
    replace c7 := of_decide_eq_true c7
    refine WC.seq fun K8 hK8 => ?_
    obtain ⟨k0, hk0, hkl⟩ := indexByte_lt (by assumption)
    have hsz : s.data.toList.length = s.size := Array.length_toList
    refine WC.drawM 10 [(some 13, .is (.string s)), (some 14, .is (.int .i64 (Lib.indexByte s.data.toList c))), (some 15, .is (.string (s.extract 0 k0))), (some 16, .is (.string s)), (some 17, .is (.int .i64 (Lib.indexByte s.data.toList c))), (some 18, .is (.string (⟨#[c]⟩ : ByteArray))), (some 19, .is (.int .i64 (((⟨#[c]⟩ : ByteArray)).size : Int))), (some 20, .is (.int .i64 ((k0 + 1 : Nat) : Int))), (some 21, .is (.string (s.extract (k0 + 1) s.size))), (some 4, .is (.string (s.extract 0 k0)))] [[], [], [0, 1], [], [], [], [5], [4, 6], [3, 7], [2, 0, 1, 2]] (by kernel_rfl) (by kernel_rfl) (by kernel_rfl) (by kernel_rfl) (by kernel_rfl) (by kernel_rfl) (by kernel_rfl) (by exact trivial) ?_ ?_
    ·
      refine DSteps.cons (fun Wd hd => ?_) ?_
      ·
        exact DV.dr (dx_move rfl rfl) ⟨Below.refl _ _, rfl⟩
      refine DSteps.cons (fun Wd hd => ?_) ?_
      ·
        exact DV.dr (dx_move rfl rfl) ⟨Below.refl _ _, rfl⟩
      refine DSteps.cons (fun Wd hd => ?_) ?_
      ·
        exact DV.dr (dx_slTH k0 rfl Tryz.underlying9 rfl rfl (by omega) (by omega)) ⟨Below.refl _ _, rfl⟩
      refine DSteps.cons (fun Wd hd => ?_) ?_
      ·
        exact DV.dr (dx_move rfl rfl) ⟨Below.refl _ _, rfl⟩
      refine DSteps.cons (fun Wd hd => ?_) ?_
      ·
        exact DV.dr (dx_move rfl rfl) ⟨Below.refl _ _, rfl⟩
      refine DSteps.cons (fun Wd hd => ?_) ?_
      ·
        exact DV.dr (dx_move rfl rfl) ⟨Below.refl _ _, rfl⟩
      refine DSteps.cons (fun Wd hd => ?_) ?_
      ·
        exact DV.dr (dx_lenT rfl Tryz.underlying9 rfl) ⟨Below.refl _ _, rfl⟩
      refine DSteps.cons (fun Wd hd => ?_) ?_
      ·
        exact DV.dr (dx_add (r := ((k0 + 1 : Nat) : Int)) rfl rfl rfl (by have h1 : ((⟨#[c]⟩ : ByteArray).size : Int) = 1 := rfl; rw [hk0, h1, wrap64_id (by omega)]; omega)) ⟨Below.refl _ _, rfl⟩
      refine DSteps.cons (fun Wd hd => ?_) ?_
      ·
        exact DV.dr (dx_slTL (k0 + 1) rfl Tryz.underlying9 rfl rfl (by omega) (by omega)) ⟨Below.refl _ _, rfl⟩
      refine DSteps.cons (fun Wd hd => ?_) ?_
      ·
        exact DV.dr (dx_assign rfl rfl) ⟨Below.refl _ _, rfl⟩
      exact trivial
    ·
      intro W9 b10
      replace hB := below_then hB b10
      replace hL := LL.below hL b10
      refine WL.val (dx_assign rfl rfl) rfl rfl ?_
      refine WL.val (dx_assign rfl rfl) rfl rfl ?_
      refine WL.nil ?_
      refine hK8 ?_
      refine WC.ret fun a_ ha_ => ?_
      exact hQ (cv_ret3 rfl (.tmp rfl) (.tmp rfl) (.tmp rfl) (by rw [cut_one_yes (by assumption), hk0, Int.toNat_natCast, ext_take, ext_drop]) hB ha_)
  ·
    replace c7 := of_decide_eq_false c7
    refine WC.skip ?_
    refine hK2 ?_
    refine WC.seq fun K11 hK11 => ?_
    refine WC.region ?_
    refine WL.val (dx_move rfl rfl) rfl rfl ?_
    refine WL.val (dx_assign rfl rfl) rfl rfl ?_
    refine WL.val (dx_assign rfl rfl) rfl rfl ?_
    refine WL.val (dx_assign rfl rfl) rfl rfl ?_
    refine WL.nil ?_
    refine hK11 ?_
    refine WC.ret fun a_ ha_ => ?_
    exact hQ (cv_ret3 rfl (.tmp rfl) (.tmp rfl) (.tmp rfl) (by rw [cut_one_no (by assumption)]) hB ha_)

set_option maxHeartbeats 1000000 in
theorem cut1_v (s : ByteArray) (c : UInt8) (w : World) (L : List Nat) (hL : LL L w)   (hs : s.size ≤ 140737488355328) : CV Tryz.prog 87 [.string s, .string (⟨#[c]⟩ : ByteArray)] w fun v W => v = .tuple #[.string ⟨(Lib.cut s.data.toList [c]).1.toArray⟩, .string ⟨(Lib.cut s.data.toList [c]).2.1.toArray⟩, .bool (Lib.cut s.data.toList [c]).2.2] := by
  refine cv_enter (N := 13) (f := [(0, .string s), (1, .string (⟨#[c]⟩ : ByteArray))]) Tryz.func87 rfl rfl rfl rfl fun Q hQ hE => ?_
  have hB := Below.refl w.heap.size w
  refine WC.seq fun K1 hK1 => ?_
  refine WC.region ?_
  refine WL.val (dx_assign rfl rfl) rfl rfl ?_
  refine WL.val (dx_assign rfl rfl) rfl rfl ?_
  refine WL.val (dx_assign rfl rfl) rfl rfl ?_
  refine WL.nil ?_
  refine hK1 ?_
  refine WC.seq fun K2 hK2 => ?_
  refine WC.region ?_
  refine WL.val (dx_move rfl rfl) rfl rfl ?_
  refine WL.val (dx_move rfl rfl) rfl rfl ?_
  refine WL.get (dx_cv rfl Tryz.func110 rfl rfl rfl (cutA_v s c w [] (LL.nil _) hs)) rfl rfl ?_
  rintro _ W4 ⟨rfl, b3⟩
  replace hB := below_then hB b3
  replace hL := LL.below hL b3
  refine WL.val (dx_extract rfl rfl rfl) rfl rfl ?_
  refine WL.val (dx_extract rfl rfl rfl) rfl rfl ?_
  refine WL.val (dx_extract rfl rfl rfl) rfl rfl ?_
  refine WL.val (dx_assign rfl rfl) rfl rfl ?_
  refine WL.val (dx_assign rfl rfl) rfl rfl ?_
  refine WL.val (dx_assign rfl rfl) rfl rfl ?_
  refine WL.nil ?_
  refine hK2 ?_
  refine WC.ret fun a_ ha_ => ?_
  exact hQ (cv_ret3 rfl (.tmp rfl) (.tmp rfl) (.tmp rfl) rfl hB ha_)

end Go.Proofs.YthefddclefimoaaGreatDoor
namespace Go.Proofs.YthefddclefimoaaGreatDoor
open Go.RowKit
set_option linter.unusedVariables false

theorem trimI_mem {l : List Int} {x : Int} (h : x ∈ trimI l) : x ∈ l := by
  unfold trimI at h
  have h1 := (List.dropWhile_sublist _).subset h
  rw [List.mem_reverse] at h1
  have h2 := (List.dropWhile_sublist _).subset h1
  rwa [List.mem_reverse] at h2
theorem trimI_len (l : List Int) : (trimI l).length ≤ l.length := by
  unfold trimI
  have h1 := dropWhile_len spI ((l.reverse.dropWhile spI).reverse)
  have h2 := dropWhile_len spI l.reverse
  rw [List.length_reverse] at h1 h2
  omega
/-- A text without blanks at both ends. -/
def trB (s : ByteArray) : ByteArray := strOfNums (trimI (sb s))
theorem sb_trB (s : ByteArray) : sb (trB s) = trimI (sb s) := sb_strOf fun x hx => sb_bytes s x (trimI_mem hx)
theorem trB_size (s : ByteArray) : (trB s).size ≤ s.size := by
  rw [← sb_length, sb_trB, ← sb_length s]; exact trimI_len _
theorem trimsp_is (s : ByteArray) (w : World) (hs : s.size ≤ 140737488355328) :
    Calls Tryz.prog 129 #[.string s, .string ⟨#[32]⟩] w fun e w' => e = .returned (.string (trB s)) ∧ Below w.heap.size w w' := by
  refine (trimsp_any s w hs).mono ?_
  rintro e w1 ⟨t, ht, rfl, hb⟩
  rw [sb_inj (ht.trans (sb_trB s).symm)]
  exact ⟨rfl, hb⟩
theorem cutat_any (s : ByteArray) (w : World) (hm : MaxC w) (hs : s.size ≤ 140737488355328) (q : Bool) (hq : decide (atI (sb s) < (sb s).length) = q) :
    Calls Tryz.prog 87 #[.string s, .string ⟨#[64]⟩] w fun e w' => ∃ a b : ByteArray, (sb a = (sb s).take (atI (sb s)) ∧ sb b = (sb s).drop (atI (sb s) + 1)) ∧ e = .returned (.tuple #[.string a, .string b, .bool q]) ∧ Below w.heap.size w w' := by
  obtain ⟨m, hm⟩ := hm
  obtain ⟨h1, h2, h3⟩ := cut_gen s 64
  refine Calls.mono (cut1_v s 64 w [] (LL.nil _) hs) fun e w' ⟨v, he, hv, hb⟩ => ?_
  subst he
  subst hv
  exact ⟨_, _, ⟨h1, h2⟩, by rw [← hq, ← show _ = decide (atI (sb s) < (sb s).length) from h3], hb⟩
set_option maxHeartbeats 1000000 in
theorem email_no (s : ByteArray) (w : World) (hm : MaxC w) (hs : s.size ≤ 140737488355328) (h : mailB (trimI (sb s)) = false) :
    Calls Tryz.prog 121 #[.string s] w fun e w' => e = .returned (.tuple #[.string ⟨#[]⟩, .int .i64 2]) ∧ Below w.heap.size w w' := by
  have HT := trimsp_is s w hs
  have hts := trB_size s
  have hl := sb_length (trB s)
  rw [← sb_trB] at h
  generalize trB s = t at *
  cases hc : decide (atI (sb t) < (sb t).length)
  · have HC := fun w' (hm : MaxC w') => cutat_any t w' hm (by omega) false hc
    clear hc h hl
    go_enter Tryz.func121, Tryz.ntmps121
    go_wp2_with fail
    refine HT.mono ?_
    rintro e w1 ⟨rfl, hb1⟩
    have hm1 := hm.below hb1
    go_wp2_with fail
    refine (HC _ hm1).mono ?_
    rintro e w2 ⟨a, b, -, rfl, hb2⟩
    go_wp2
    go_ret2
    exact ⟨rfl, below_then hb1 hb2⟩
  have HC := fun w' (hm : MaxC w') => cutat_any t w' hm (by omega) true hc
  by_cases h254 : 254 < t.size
  · clear hc h hl
    go_enter Tryz.func121, Tryz.ntmps121
    go_wp2_with fail
    refine HT.mono ?_
    rintro e w1 ⟨rfl, hb1⟩
    have hm1 := hm.below hb1
    go_wp2_with fail
    refine (HC _ hm1).mono ?_
    rintro e w2 ⟨a, b, -, rfl, hb2⟩
    go_wp2
    go_ret2
    exact ⟨rfl, below_then hb1 hb2⟩
  have h' : localL ((sb t).take (atI (sb t))) = false ∨ domainL ((sb t).drop (atI (sb t) + 1)) = false := by
    rw [mailB, hc, decide_eq_true (show (sb t).length ≤ 254 by omega)] at h
    cases hx : localL ((sb t).take (atI (sb t)))
    · left; rfl
    · right; rw [hx] at h; simpa using h
  have h254' : (t.size : Int) ≤ 254 := by omega
  have HX := Lib.hid h'
  have HL := Lib.hid hl
  clear hc h hl h'
  go_enter Tryz.func121, Tryz.ntmps121
  go_wp2_with fail
  refine HT.mono ?_
  rintro e w1 ⟨rfl, hb1⟩
  have hm1 := hm.below hb1
  go_wp2_with fail
  refine (HC _ hm1).mono ?_
  rintro e w2 ⟨a, b, hab, rfl, hb2⟩
  have hm2 := hm1.below hb2
  have hx := HX.out
  have sa := size_of_sb (n := 1000000) hab.1 (by have := HL.out; rw [List.length_take]; omega)
  have sb' := size_of_sb (n := 1000000) hab.2 (by have := HL.out; rw [List.length_drop]; omega)
  rw [← hab.1, ← hab.2] at hx
  clear hab
  cases ha : localL (sb a)
  · have HA := local_is a false w2 hm2 sa ha
    clear ha hx
    go_wp2_with fail
    refine HA.mono ?_
    rintro e w3 ⟨rfl, hb3⟩
    go_wp2
    go_ret2
    exact ⟨rfl, below_then (below_then hb1 hb2) hb3⟩
  · have HA := local_is a true w2 hm2 sa ha
    have hb : domainL (sb b) = false := by
      rcases hx with h | h
      · rw [ha] at h; cases h
      · exact h
    have HB := fun w' (hm : MaxC w') => domain_is b false w' hm sb' hb
    clear ha hx hb
    go_wp2_with fail
    refine HA.mono ?_
    rintro e w3 ⟨rfl, hb3⟩
    have hm3 := hm2.below hb3
    go_wp2_with fail
    refine (HB _ hm3).mono ?_
    rintro e w4 ⟨rfl, hb4⟩
    go_wp2
    go_ret2
    exact ⟨rfl, below_then (below_then (below_then hb1 hb2) hb3) hb4⟩
set_option maxHeartbeats 1000000 in
theorem email_yes (s : ByteArray) (w : World) (hm : MaxC w) (hs : s.size ≤ 140737488355328) (h : mailB (trimI (sb s)) = true) :
    Calls Tryz.prog 121 #[.string s] w fun e w' => e = .returned (.tuple #[.string (lowS (trB s)), .int .i64 0]) ∧ Below w.heap.size w w' := by
  have HT := trimsp_is s w hs
  have hts := trB_size s
  have hl := sb_length (trB s)
  rw [← sb_trB] at h
  generalize trB s = t at *
  simp only [mailB, Bool.and_eq_true, decide_eq_true_eq] at h
  obtain ⟨h1, h2, h3, h4⟩ := h
  have HC := fun w' (hm : MaxC w') => cutat_any t w' hm (by omega) true (decide_eq_true h1)
  have h254' : (t.size : Int) ≤ 254 := by omega
  have HX := Lib.hid (And.intro h3 h4)
  have HL := Lib.hid hl
  clear h1 h2 h3 h4 hl
  go_enter Tryz.func121, Tryz.ntmps121
  go_wp2_with fail
  refine HT.mono ?_
  rintro e w1 ⟨rfl, hb1⟩
  have hm1 := hm.below hb1
  go_wp2_with fail
  refine (HC _ hm1).mono ?_
  rintro e w2 ⟨a, b, hab, rfl, hb2⟩
  have hm2 := hm1.below hb2
  have hx := HX.out
  have sa := size_of_sb (n := 1000000) hab.1 (by have := HL.out; rw [List.length_take]; omega)
  have sb' := size_of_sb (n := 1000000) hab.2 (by have := HL.out; rw [List.length_drop]; omega)
  rw [← hab.1, ← hab.2] at hx
  clear hab
  have HA := local_is a true w2 hm2 sa hx.1
  have HB := fun w' (hm : MaxC w') => domain_is b true w' hm sb' hx.2
  have HLo := fun w' => lower_any t w' (by unfold maxLen; omega)
  clear hx
  go_wp2_with fail
  refine HA.mono ?_
  rintro e w3 ⟨rfl, hb3⟩
  have hm3 := hm2.below hb3
  go_wp2_with fail
  refine (HB _ hm3).mono ?_
  rintro e w4 ⟨rfl, hb4⟩
  go_wp2_with fail
  refine (HLo _).mono ?_
  rintro e w5 ⟨rfl, hb5⟩
  go_wp2
  go_ret2
  exact ⟨rfl, below_then (below_then (below_then (below_then hb1 hb2) hb3) hb4) hb5⟩
end Go.Proofs.YthefddclefimoaaGreatDoor
--@optional
namespace Go.Proofs.YthefddclefimoaaGreatDoor
open Go.RowKit
set_option linter.unusedVariables false

theorem info_i32 : (Tryz.prog.info? 21).map (fun i => (i.zero, i.size, i.bytes)) = some (some (.int .i32 0), 1, 4) := by kernel_rfl
theorem info_u8 : (Tryz.prog.info? 5).map (fun i => (i.zero, i.size, i.bytes)) = some (some (.int .u8 0), 1, 1) := by kernel_rfl

end Go.Proofs.YthefddclefimoaaGreatDoor
namespace Go.Proofs.YthefddclefimoaaGreatDoor
open Go.RowKit
set_option linter.unusedVariables false

def sepI (c : Int) : Bool := [32, 45, 46, 40, 41].contains c
/-- One sign more: the digits so far, and whether a + stood ahead. -/
def dialStep (st : Option (List Int × Bool)) (c : Int) : Option (List Int × Bool) :=
  match st with
  | none => none
  | some (d, p) => if digI c then some (d ++ [c], p) else if c == 43 then (if p || !d.isEmpty then none else some (d, true)) else if sepI c then some (d, p) else none
def dialS (l : List Int) : Option (List Int × Bool) := l.foldl dialStep (some ([], false))
theorem dial_none (l : List Int) : l.foldl dialStep none = none := by
  induction l with
  | nil => rfl
  | cons x r ih => exact ih
theorem dial_succ (l : List Int) (k : Nat) (hk : k < l.length) : dialS (l.take (k + 1)) = dialStep (dialS (l.take k)) (at0 l k) := by
  rw [List.take_add_one, List.getElem?_eq_getElem hk, dialS, List.foldl_append, Option.toList_some, ← at0_lt hk]; rfl
theorem dial_stop (l : List Int) (k : Nat) (hk : k < l.length) (h : dialStep (dialS (l.take k)) (at0 l k) = none) : dialS l = none := by
  have h1 : l = l.take (k + 1) ++ l.drop (k + 1) := (List.take_append_drop _ _).symm
  rw [dialS, h1, List.foldl_append, ← dialS, dial_succ l k hk, h, dial_none]
theorem dial_digits {l : List Int} {d : List Int} {p : Bool} (h : dialS l = some (d, p)) : d.length ≤ l.length ∧ d.all digI = true := by
  have key : ∀ (l : List Int) (d0 : List Int) (p0 : Bool), d0.all digI = true → ∀ d p, l.foldl dialStep (some (d0, p0)) = some (d, p) → d.length ≤ d0.length + l.length ∧ d.all digI = true := by
    intro l
    induction l with
    | nil => intro d0 p0 h0 d p h; simp only [List.foldl_nil, Option.some.injEq, Prod.mk.injEq] at h; obtain ⟨rfl, rfl⟩ := h; exact ⟨by simp, h0⟩
    | cons x r ih =>
      intro d0 p0 h0 d p h
      rw [List.foldl_cons] at h
      have e9 : dialStep (some (d0, p0)) x = if digI x then some (d0 ++ [x], p0) else if x == 43 then (if p0 || !d0.isEmpty then none else some (d0, true)) else if sepI x then some (d0, p0) else none := rfl
      rw [e9] at h
      by_cases h1 : digI x = true
      · simp only [h1, if_true] at h
        have := ih (d0 ++ [x]) p0 (by rw [List.all_append, h0]; simp [h1]) d p h
        simp at this ⊢; exact ⟨by omega, this.2⟩
      · simp only [h1] at h
        by_cases h2 : (x == 43) = true
        · simp only [h2, if_true, Bool.false_eq_true, if_false] at h
          by_cases h3 : (p0 || !d0.isEmpty) = true
          · rw [if_pos h3] at h; rw [dial_none] at h; cases h
          · rw [if_neg h3] at h
            have := ih d0 true h0 d p h
            exact ⟨by simp; omega, this.2⟩
        · simp only [h2, Bool.false_eq_true, if_false] at h
          by_cases h3 : sepI x = true
          · simp only [h3, if_true] at h
            have := ih d0 p0 h0 d p h
            exact ⟨by simp; omega, this.2⟩
          · simp only [h3] at h
            rw [if_neg (by simp), dial_none] at h; cases h
  have := key l [] false rfl d p h
  simpa using this
theorem signs_sep (c : Int) (h0 : 0 ≤ c) (h1 : c ≤ 255) : decide (0 ≤ Lib.indexByte [32, 45, 46, 40, 41] c.toNat.toUInt8) = sepI c := by
  have key : ∀ n : Fin 256, decide (0 ≤ Lib.indexByte [32, 45, 46, 40, 41] n.val.toUInt8) = sepI (n.val : Int) := by decide +kernel
  have := key ⟨c.toNat, by omega⟩
  simpa only [Int.toNat_of_nonneg h0] using this
theorem idxSep_yes (c : Int) (w : World) (h0 : 0 ≤ c) (h1 : c ≤ 255) (h : sepI c = true) :
    Calls Tryz.prog 92 #[.string ⟨#[32, 45, 46, 40, 41]⟩, .int .u8 c] w fun e w' => (∃ k : Int, 0 ≤ k ∧ e = .returned (.int .i64 k)) ∧ w = w' := by
  refine (Tryz.strings_IndexByte ⟨#[32, 45, 46, 40, 41]⟩ c w).mono ?_
  rintro e w' ⟨rfl, rfl⟩
  exact ⟨⟨_, of_decide_eq_true ((signs_sep c h0 h1).trans h), rfl⟩, rfl⟩
theorem idxSep_no (c : Int) (w : World) (h0 : 0 ≤ c) (h1 : c ≤ 255) (h : sepI c = false) :
    Calls Tryz.prog 92 #[.string ⟨#[32, 45, 46, 40, 41]⟩, .int .u8 c] w fun e w' => (∃ k : Int, k < 0 ∧ e = .returned (.int .i64 k)) ∧ w = w' := by
  refine (Tryz.strings_IndexByte ⟨#[32, 45, 46, 40, 41]⟩ c w).mono ?_
  rintro e w' ⟨rfl, rfl⟩
  refine ⟨⟨_, ?_, rfl⟩, rfl⟩
  have := of_decide_eq_false ((signs_sep c h0 h1).trans h)
  exact Int.lt_of_not_ge this
/-- What is told of a number. -/
def DialPost (l : List Int) (B : Nat) (w : World) (e : Ending) (w' : World) : Prop :=
  (∃ d p, dialS l = some (d, p) ∧ e = .returned (.tuple #[.string (strOfNums d), .bool p, .int .i64 0]) ∧ Below B w w') ∨
  (dialS l = none ∧ e = .returned (.tuple #[.string ⟨#[]⟩, .bool false, .int .i64 2]) ∧ Below B w w')
set_option maxRecDepth 100000 in
set_option maxHeartbeats 1000000 in
theorem dialled_any (s : ByteArray) (w : World) (hs : s.size ≤ 140737488355328) :
    Calls Tryz.prog 137 #[.string s] w (DialPost (sb s) w.heap.size w) := by
  obtain ⟨j0, hj, hy0, hy1, hy2⟩ := info_parts info_u8
  have HL := Lib.hid (sb_length s)
  go_enter Tryz.func137, Tryz.ntmps137
  go_wp2
  go_loopw [3, 5, 6, 7, 10] (fun pl v _ _ i wr => ∃ (k : Nat) (d : List Int) (p : Bool), k ≤ s.size ∧ i = .int .i64 k ∧ pl = .bool p ∧ dialS ((sb s).take k) = some (d, p) ∧ d.length ≤ k ∧ wr.ownsRow w.heap.size 5 1 v d.length (d.map (Value.int .u8)) ∧ Below w.heap.size w wr) (fun _ _ _ _ i _ => s.size - (intOf i).toNat)
  case atStart => exact ⟨0, [], false, Nat.zero_le _, rfl, rfl, rfl, by simp, ⟨rfl, .inl ⟨rfl, rfl⟩⟩, Below.refl _ _⟩
  case round =>
    obtain ⟨k, d, p, hk, rfl, rfl, hdial, hdl, hown, hbel⟩ := hrel
    have HDI := Lib.hid hdial; clear hdial
    obtain ⟨av, cap, rfl, hc1, hc2, -, -, -⟩ := own_cell hown
    unfold maxLen at hc2
    have HO := Lib.hid hown
    by_cases hlt : k < s.size
    · have hlk : k < (sb s).length := by have := HL.out; omega
      have hat := at0_sb s k hlt
      have HA := Lib.hid hat; clear hat
      have c0 := (s[k]'hlt).toNat_lt
      have hsucc := dial_succ (sb s) k hlk
      have hstop := dial_stop (sb s) k hlk
      rw [HDI.out, HA.out] at hsucc hstop
      generalize hcc : ((s[k]'hlt).toNat : Int) = c at *
      have hc0 : 0 ≤ c := by omega
      have hc255 : c ≤ 255 := by omega
      have HCC := Lib.hid hcc
      cases h1 : digI c
      · cases h2 : (c == 43)
        · cases h3 : sepI c
          · have e : dialStep (some (d, p)) c = none := by simp [dialStep, h1, h2, h3]
            have HN := Lib.hid (hstop e)
            have HS := fun w' => idxSep_no c w' hc0 hc255 h3
            have HD := Lib.hid h1
            clear h1 h3 hsucc hstop e
            go_wp2_with (first | (go_at_call 156; refine (adigit_is _ _ _ HD.out).mono ?_; rintro e w' ⟨rfl, rfl⟩) | (go_at_call 92; refine (HS _).mono ?_; rintro e w' ⟨⟨q, hq, rfl⟩, rfl⟩))
            go_ret3
            exact .inr ⟨HN.out, rfl, hbel⟩
          · have e : dialStep (some (d, p)) c = some (d, p) := by simp [dialStep, h1, h2, h3]
            have HN := Lib.hid (hsucc.trans e)
            have HS := fun w' => idxSep_yes c w' hc0 hc255 h3
            have HD := Lib.hid h1
            clear h1 h3 hsucc hstop e
            go_wp2_with (first | (go_at_call 156; refine (adigit_is _ _ _ HD.out).mono ?_; rintro e w' ⟨rfl, rfl⟩) | (go_at_call 92; refine (HS _).mono ?_; rintro e w' ⟨⟨q, hq, rfl⟩, rfl⟩))
            exact ⟨⟨k + 1, d, p, by omega, by go_num, rfl, HN.out, by omega, HO.out, hbel⟩, by simp [intOf]; omega⟩
        · have HD := Lib.hid h1
          cases p
          · by_cases hd0 : d = []
            · subst hd0
              have e : dialStep (some ([], false)) c = some ([], true) := by simp [dialStep, h1, h2]
              have HN := Lib.hid (hsucc.trans e)
              clear h1 hsucc hstop e
              go_wp2_with (go_at_call 156; refine (adigit_is _ _ _ HD.out).mono ?_; rintro e w' ⟨rfl, rfl⟩)
              exact ⟨⟨k + 1, [], true, by omega, by go_num, rfl, HN.out, by simp, HO.out, hbel⟩, by simp [intOf]; omega⟩
            · have hdp : 0 < d.length := List.length_pos_iff.2 hd0
              have hdpi : (0 : Int) < d.length := by omega
              have e : dialStep (some (d, false)) c = none := by
                have : d.isEmpty = false := by cases d with
                  | nil => exact (hd0 rfl).elim
                  | cons => rfl
                simp [dialStep, h1, h2, this]
              have HN := Lib.hid (hstop e)
              clear h1 hsucc hstop e hd0
              go_wp2_with (go_at_call 156; refine (adigit_is _ _ _ HD.out).mono ?_; rintro e w' ⟨rfl, rfl⟩)
              go_ret3
              exact .inr ⟨HN.out, rfl, hbel⟩
          · have e : dialStep (some (d, true)) c = none := by simp [dialStep, h1, h2]
            have HN := Lib.hid (hstop e)
            clear h1 hsucc hstop e
            go_wp2_with (go_at_call 156; refine (adigit_is _ _ _ HD.out).mono ?_; rintro e w' ⟨rfl, rfl⟩)
            go_ret3
            exact .inr ⟨HN.out, rfl, hbel⟩
      · have e : dialStep (some (d, p)) c = some (d ++ [c], p) := by simp [dialStep, h1]
        have HN := Lib.hid (hsucc.trans e)
        have HD := Lib.hid h1
        clear h1 hsucc hstop e
        go_wp2_with (first
          | (go_at_call 156; refine (adigit_is _ _ _ HD.out).mono ?_; rintro e w' ⟨rfl, rfl⟩)
          | (at_builtin; refine wpList_append_rd rfl _ _ 149 rfl w.heap.size 5 j0 (.int .u8 0) 1 Tryz.underlying149 hj hy0 hy1 hy2 rfl _ _ _ rfl (hown.alloc _) _ 1 1 [.int .u8 c] rfl reads_one (by simp [Value.oneCell']) (by unfold maxLen; omega) (by omega) (by have hs1 := hbel.size; simp only [World.size_alloc]; omega) (by simp) ?_; intro v3 w3 hown3 hgr3 hc3; have hb3 := (hbel.alloc (by have hs1 := hbel.size; omega) _).trans hc3; clear hgr3 hc3))
        refine ⟨⟨k + 1, d ++ [c], p, by omega, by go_num, rfl, HN.out, by simp; omega, by simpa using hown3, hb3⟩, by simp [intOf]; omega⟩
    · have h := HDI.out
      rw [List.take_of_length_le (by have := HL.out; omega)] at h
      have HN := Lib.hid h; clear h
      have hcv := run_conv_bs (P := Tryz.prog) 149 9 5 Tryz.underlying149 Tryz.underlying9 Tryz.underlying5 _ _ (RdI.of_own hown)
      go_wp2
      go_ret3
      exact .inl ⟨d, p, HN.out, rfl, hbel⟩
end Go.Proofs.YthefddclefimoaaGreatDoor
namespace Go.Proofs.YthefddclefimoaaGreatDoor
open Go.RowKit Go.MapKept
set_option linter.unusedVariables false

def gbB : ByteArray := ⟨#[71, 66]⟩
def usB : ByteArray := ⟨#[85, 83]⟩
def deB : ByteArray := ⟨#[68, 69]⟩
def frB : ByteArray := ⟨#[70, 82]⟩
def chB : ByteArray := ⟨#[67, 72]⟩
def noughtB : ByteArray := ⟨#[48]⟩
def landV (code trunk : ByteArray) : Value := .agg #[.string code, .string trunk]
def lands0 : Array MapEntry := #[]
def lands1 : Array MapEntry := lands0.push ⟨.string ⟨#[71, 66]⟩, landV ⟨#[52, 52]⟩ ⟨#[48]⟩, 0⟩
def lands2 : Array MapEntry := lands1.push ⟨.string ⟨#[85, 83]⟩, landV ⟨#[49]⟩ ⟨#[]⟩, 1⟩
def lands3 : Array MapEntry := lands2.push ⟨.string ⟨#[68, 69]⟩, landV ⟨#[52, 57]⟩ ⟨#[48]⟩, 2⟩
def lands4 : Array MapEntry := lands3.push ⟨.string ⟨#[70, 82]⟩, landV ⟨#[51, 51]⟩ ⟨#[48]⟩, 3⟩
def lands5 : Array MapEntry := lands4.push ⟨.string ⟨#[67, 72]⟩, landV ⟨#[52, 49]⟩ ⟨#[48]⟩, 4⟩
theorem upd_new (w : World) (es : Array MapEntry) (n : Nat) (k : ByteArray) (val : Value) (hf : Instr.findNow .string (.string k) es.toList 0 = some none) :
    (Instr.mapUpdate 134 (.map (some w.heap.size)) (.string k) val).run Tryz.prog (w.alloc (.map es n)) = .ok () (w.alloc (.map (es.push ⟨.string k, val, n⟩) (n + 1))) := by
  have hb : (w.alloc (.map es n)).heap[w.heap.size]? = some (.map es n) := heap_alloc_new w _
  have hk : IsKey .string (.string k) := trivial
  simp [Instr.mapUpdate, run_underlying Tryz.underlying134, MapKept.run_getObj_map hb, MapKept.run_checkKey Tryz.underlying9 hk, MapKept.run_findKey Tryz.underlying9 hf, MapKept.run_setObj_map _ hb, Result.andThen]
  have hp : ∀ (a : Array Obj) (x y : Obj), (a.push x).setIfInBounds a.size y = a.push y := fun a x y => by
    apply Array.ext
    · simp
    · intro i h1 h2
      simp only [Array.size_setIfInBounds, Array.size_push] at h1
      rw [Array.getElem_setIfInBounds (by simpa using h1), Array.getElem_push, Array.getElem_push]
      by_cases hi : a.size = i
      · subst hi; simp
      · simp [hi, show i < a.size by omega]
  unfold World.alloc
  simp only [hp]
set_option maxHeartbeats 1000000 in
theorem countries_any (w : World) :
    Calls Tryz.prog 136 #[] w fun e w' => e = .returned (.map (some w.heap.size)) ∧ w'.heap[w.heap.size]? = some (.map lands5 5) ∧ Below w.heap.size w w' := by
  have hmm := fun w => @run_makeMap Tryz.prog 134 w
  have h0 : ∀ w : World, w.alloc (.map #[] 0) = w.alloc (.map lands0 0) := fun w => rfl
  have u1 := upd_new w lands0 0 ⟨#[71, 66]⟩ (landV ⟨#[52, 52]⟩ ⟨#[48]⟩) (by kernel_rfl)
  have u2 := upd_new w lands1 1 ⟨#[85, 83]⟩ (landV ⟨#[49]⟩ ⟨#[]⟩) (by kernel_rfl)
  have u3 := upd_new w lands2 2 ⟨#[68, 69]⟩ (landV ⟨#[52, 57]⟩ ⟨#[48]⟩) (by kernel_rfl)
  have u4 := upd_new w lands3 3 ⟨#[70, 82]⟩ (landV ⟨#[51, 51]⟩ ⟨#[48]⟩) (by kernel_rfl)
  have u5 := upd_new w lands4 4 ⟨#[67, 72]⟩ (landV ⟨#[52, 49]⟩ ⟨#[48]⟩) (by kernel_rfl)
  rw [show lands0.push ⟨.string ⟨#[71, 66]⟩, landV ⟨#[52, 52]⟩ ⟨#[48]⟩, 0⟩ = lands1 from rfl] at u1
  rw [show lands1.push ⟨.string ⟨#[85, 83]⟩, landV ⟨#[49]⟩ ⟨#[]⟩, 1⟩ = lands2 from rfl] at u2
  rw [show lands2.push ⟨.string ⟨#[68, 69]⟩, landV ⟨#[52, 57]⟩ ⟨#[48]⟩, 2⟩ = lands3 from rfl] at u3
  rw [show lands3.push ⟨.string ⟨#[70, 82]⟩, landV ⟨#[51, 51]⟩ ⟨#[48]⟩, 3⟩ = lands4 from rfl] at u4
  rw [show lands4.push ⟨.string ⟨#[67, 72]⟩, landV ⟨#[52, 49]⟩ ⟨#[48]⟩, 4⟩ = lands5 from rfl] at u5
  simp only [landV, Nat.zero_add, Nat.reduceAdd] at u1 u2 u3 u4 u5
  simp only [h0] at hmm
  clear h0
  go_enter Tryz.func136, Tryz.ntmps136
  go_wp2
  go_ret
  exact ⟨rfl, heap_alloc_new w _, (Below.refl _ _).alloc (Nat.le_refl _) _⟩
theorem look_yes (w : World) (B : Nat) (hb : w.heap[B]? = some (.map lands5 5)) (k : ByteArray) (i : Nat) (v : Value) (hf : Instr.findNow .string (.string k) lands5.toList 0 = some (some (i, v))) :
    (Instr.lookup 134 (.map (some B)) (.string k) true).run Tryz.prog w = .ok (.tuple #[v, .bool true]) w := by
  have hk : IsKey .string (.string k) := trivial
  simp [Instr.lookup, run_underlying Tryz.underlying134, MapKept.run_getObj_map hb, MapKept.run_checkKey Tryz.underlying9 hk, MapKept.run_findKey Tryz.underlying9 hf, Result.andThen]
theorem zero_country (w : World) : (zeroValue 132).run Tryz.prog w = .ok (landV ⟨#[]⟩ ⟨#[]⟩) w := by kernel_rfl
theorem look_no (w : World) (B : Nat) (hb : w.heap[B]? = some (.map lands5 5)) (k : ByteArray) (hf : Instr.findNow .string (.string k) lands5.toList 0 = some none) :
    (Instr.lookup 134 (.map (some B)) (.string k) true).run Tryz.prog w = .ok (.tuple #[landV ⟨#[]⟩ ⟨#[]⟩, .bool false]) w := by
  have hk : IsKey .string (.string k) := trivial
  have hz := zero_country w
  simp [Instr.lookup, run_underlying Tryz.underlying134, MapKept.run_getObj_map hb, MapKept.run_checkKey Tryz.underlying9 hk, MapKept.run_findKey Tryz.underlying9 hf, hz, Result.andThen]
theorem find_none (k : ByteArray) (h1 : k ≠ gbB) (h2 : k ≠ usB) (h3 : k ≠ deB) (h4 : k ≠ frB) (h5 : k ≠ chB) : Instr.findNow .string (.string k) lands5.toList 0 = some none := by
  have e : lands5.toList = [⟨.string gbB, landV ⟨#[52, 52]⟩ ⟨#[48]⟩, 0⟩, ⟨.string usB, landV ⟨#[49]⟩ ⟨#[]⟩, 1⟩, ⟨.string deB, landV ⟨#[52, 57]⟩ ⟨#[48]⟩, 2⟩, ⟨.string frB, landV ⟨#[51, 51]⟩ ⟨#[48]⟩, 3⟩, ⟨.string chB, landV ⟨#[52, 49]⟩ ⟨#[48]⟩, 4⟩] := rfl
  have hks : ∀ x ∈ lands5.toList, IsKey .string x.key := by
    rw [e]
    intro x hx
    simp only [List.mem_cons, List.not_mem_nil, or_false] at hx
    rcases hx with rfl | rfl | rfl | rfl | rfl <;> trivial
  rcases findNow_spec (d := .string) (k := .string k) trivial lands5.toList 0 hks with ⟨h, _⟩ | ⟨j, e', _, hj, he⟩
  · exact h
  · exfalso
    have hm := List.mem_of_getElem? hj
    rw [e] at hm
    simp only [List.mem_cons, List.not_mem_nil, or_false] at hm
    rcases hm with rfl | rfl | rfl | rfl | rfl
    · exact h1 (Value.string.inj he).symm
    · exact h2 (Value.string.inj he).symm
    · exact h3 (Value.string.inj he).symm
    · exact h4 (Value.string.inj he).symm
    · exact h5 (Value.string.inj he).symm
end Go.Proofs.YthefddclefimoaaGreatDoor
namespace Go.Proofs.YthefddclefimoaaGreatDoor
open Go.RowKit
set_option linter.unusedVariables false

/-- A number's digits in one way: the country's code ahead of them, where no + stood. -/
def fullS (code : List Int) (trunk known : Bool) (d : List Int) (p : Bool) : List Int :=
  if known && !p then code ++ (if trunk && d.head? == some 48 then d.drop 1 else d) else d
def okLen (f : List Int) : Bool := decide (6 ≤ f.length) && (decide (f.length ≤ 15) && !(f.head? == some 48))
def phoneS (code : List Int) (trunk known : Bool) (l : List Int) : Option (List Int) :=
  match dialS l with
  | none => none
  | some (d, p) => if okLen (fullS code trunk known d p) then some (fullS code trunk known d p) else none
def PhonePost (r : Option (List Int)) (B : Nat) (w : World) (e : Ending) (w' : World) : Prop :=
  (∃ f, r = some f ∧ e = .returned (.tuple #[.string (strOfNums f), .int .i64 0]) ∧ Below B w w') ∨
  (r = none ∧ e = .returned (.tuple #[.string ⟨#[]⟩, .int .i64 2]) ∧ Below B w w')
def trunkB (t : Bool) : ByteArray := if t then ⟨#[48]⟩ else ⟨#[]⟩
theorem bytes_digits {d : List Int} (h : d.all digI = true) : Bytes d := fun x hx => by
  have := List.all_eq_true.1 h x hx
  simp only [digI, Bool.and_eq_true, decide_eq_true_eq] at this
  omega
theorem nought (s : ByteArray) : Lib.hasPrefix s.data.toList [48] = ((sb s).head? == some 48) := by
  have h48 : ∀ x : UInt8, (48 == x) = ((x.toNat : Int) == 48) := fun x => by rw [show (48 : Int) = ((48 : UInt8).toNat : Int) from rfl, toNat_beq]; exact Bool.beq_comm
  unfold Lib.hasPrefix sb
  cases s.data.toList with
  | nil => rfl
  | cons x l => simp [List.isPrefixOf, h48]
theorem trimp_any (d : List Int) (hb : Bytes d) (t : Bool) (w : World) :
    Calls Tryz.prog 138 #[.string (strOfNums d), .string (trunkB t)] w fun e w' => e = .returned (.string (strOfNums (if t && d.head? == some 48 then d.drop 1 else d))) ∧ w' = w := by
  refine (Tryz.strings_TrimPrefix (strOfNums d) (trunkB t) w).mono ?_
  rintro e w' ⟨rfl, rfl⟩
  refine ⟨?_, rfl⟩
  congr 2
  apply sb_inj
  rw [sb_mk]
  cases t
  · show (Lib.trimPrefix _ []).map _ = sb (strOfNums d)
    have : Lib.trimPrefix (strOfNums d).data.toList [] = (strOfNums d).data.toList := by
      unfold Lib.trimPrefix
      split <;> rfl
    rw [this]; rfl
  · show (Lib.trimPrefix _ [48]).map _ = _
    have hn := nought (strOfNums d)
    rw [sb_strOf hb] at hn
    unfold Lib.trimPrefix
    rw [hn]
    cases hh : (d.head? == some 48)
    · rw [if_neg (by simp)]; rfl
    · rw [if_pos rfl]
      have hb2 : Bytes (d.drop 1) := hb.drop 1
      show _ = sb (strOfNums (d.drop 1))
      rw [sb_strOf hb2, List.map_drop]
      have : (strOfNums d).data.toList.map (fun c => (c.toNat : Int)) = d := sb_strOf hb
      rw [this]; rfl
theorem strOf_append (a b : List Int) : strOfNums a ++ strOfNums b = strOfNums (a ++ b) := by
  cases ha : strOfNums a
  rename_i x
  cases hb : strOfNums b
  rename_i y
  apply ByteArray.ext
  have e1 := strOfNums_data a
  have e2 := strOfNums_data b
  have e3 := strOfNums_data (a ++ b)
  apply Array.toList_inj.1
  rw [e3, ← ha, ← hb]
  simp [e1, e2]
/-- What the end of Phone tells of digits. -/
theorem okLen_parts (f : List Int) : okLen f = true ↔ 6 ≤ f.length ∧ f.length ≤ 15 ∧ at0 f 0 ≠ 48 := by
  unfold okLen
  by_cases h : 0 < f.length
  · rw [head_at f h]
    simp
  · have : f = [] := List.eq_nil_of_length_eq_zero (by omega)
    subst this
    simp
theorem lands_empty : Instr.findNow .string (.string ⟨#[]⟩) lands5.toList 0 = some none := by kernel_rfl
set_option maxRecDepth 100000 in
set_option maxHeartbeats 1000000 in
theorem phone_empty (s : ByteArray) (w : World) (hs : s.size ≤ 140737488355328) :
    Calls Tryz.prog 122 #[.string ⟨#[]⟩, .string s] w (PhonePost (phoneS [] false false (sb s)) w.heap.size w) := by
  have HL := Lib.hid (sb_length s)
  go_enter Tryz.func122, Tryz.ntmps122
  go_wp2_with fail
  refine (countries_any w).mono ?_
  rintro e w1 ⟨rfl, hmap, hb1⟩
  have hlk := look_no w1 w.heap.size hmap ⟨#[]⟩ lands_empty
  unfold landV at hlk
  clear hmap
  go_wp2_with fail
  refine (dialled_any s _ hs).mono ?_
  rintro e w2 hpost
  have HB1 := below_alloc hb1 (.cells #[.string ⟨#[]⟩, .string ⟨#[]⟩] 132)
  rcases hpost with ⟨d, p, hd, rfl, hb2⟩ | ⟨hd, rfl, hb2⟩
  rotate_left
  · have HF := Lib.hid (show phoneS [] false false (sb s) = none by rw [phoneS, hd])
    have HB := below_then HB1 hb2
    clear hd
    go_wp2
    go_ret2
    exact .inr ⟨HF.out, rfl, HB⟩
  have HB := below_then HB1 hb2
  obtain ⟨hdl, hda⟩ := dial_digits hd
  have hdl2 : d.length ≤ 140737488355328 := by have := HL.out; omega
  have hdb := bytes_digits hda
  have hds : (strOfNums d).size ≤ 140737488355328 := by rw [strOfNums_size]; exact hdl2
  have HF := Lib.hid (show phoneS [] false false (sb s) = if okLen (fullS [] false false d p) then some (fullS [] false false d p) else none by rw [phoneS, hd])
  have HX := Lib.hid (And.intro hd (And.intro hda hdb))
  clear hd hda hdb hb2 hb1 HB1 hdl
  have hX : strOfNums d = strOfNums (fullS [] false false d p) := rfl
  generalize hXX : strOfNums d = X at *
  have HXV := Lib.hid hX
  have HXS := Lib.hid (show sb X = fullS [] false false d p by rw [hX]; exact sb_strOf HX.out.2.2)
  have HXL := Lib.hid (show X.size = (fullS [] false false d p).length by rw [hX, strOfNums_size])
  clear hX hXX
  by_cases h6 : X.size < 6
  · have HN := Lib.hid (show phoneS [] false false (sb s) = none by
      rw [HF.out, if_neg]
      intro h
      have h1 := (okLen_parts _).1 h
      rw [← HXL.out] at h1
      omega)
    go_wp2
    go_ret2
    exact .inr ⟨HN.out, rfl, HB⟩
  by_cases h15 : 15 < X.size
  · have HN := Lib.hid (show phoneS [] false false (sb s) = none by
      rw [HF.out, if_neg]
      intro h
      have h1 := (okLen_parts _).1 h
      rw [← HXL.out] at h1
      omega)
    go_wp2
    go_ret2
    exact .inr ⟨HN.out, rfl, HB⟩
  have hx0 : 0 < X.size := by omega
  have hat := at0_sb X 0 hx0
  rw [HXS.out] at hat
  by_cases h48 : at0 (fullS [] false false d p) 0 = 48
  · have HN := Lib.hid (show phoneS [] false false (sb s) = none by
      rw [HF.out, if_neg]
      intro h
      exact ((okLen_parts _).1 h).2.2 h48)
    have hb : (((X[0]'hx0).toNat : Int) == 48) = true := by rw [← hat, h48]; rfl
    clear hat h48
    go_wp2
    go_ret2
    exact .inr ⟨HN.out, rfl, HB⟩
  · have HN := Lib.hid (show phoneS [] false false (sb s) = some (fullS [] false false d p) by
      rw [HF.out, if_pos]
      refine (okLen_parts _).2 ⟨?_, ?_, h48⟩
      · rw [← HXL.out]; omega
      · rw [← HXL.out]; omega)
    have hb : (((X[0]'hx0).toNat : Int) == 48) = false := by rw [← hat, beq_eq_false_iff_ne]; exact h48
    clear hat h48
    go_wp2
    go_ret2
    exact .inl ⟨_, HN.out, by rw [← HXV.out]; rfl, HB⟩
end Go.Proofs.YthefddclefimoaaGreatDoor
namespace Go.Proofs.YthefddclefimoaaGreatDoor
open Go.RowKit
set_option linter.unusedVariables false

def PhoneIs (r : Option (List Int)) (v : Value) : Prop := (∃ f, r = some f ∧ v = .tuple #[.string (strOfNums f), .int .i64 0]) ∨ (r = none ∧ v = .tuple #[.string ⟨#[]⟩, .int .i64 2])
def phoneVal : Option (List Int) → Value
  | some f => .tuple #[.string (strOfNums f), .int .i64 0]
  | none => .tuple #[.string ⟨#[]⟩, .int .i64 2]
theorem post_some {f : List Int} {B : Nat} {w w' : World} {e : Ending} (h : PhonePost (some f) B w e w') : e = .returned (.tuple #[.string (strOfNums f), .int .i64 0]) ∧ Below B w w' := by
  rcases h with ⟨f', hf, rfl, hb⟩ | ⟨hn, _⟩
  · cases hf; exact ⟨rfl, hb⟩
  · cases hn
theorem post_none {B : Nat} {w w' : World} {e : Ending} (h : PhonePost none B w e w') : e = .returned (.tuple #[.string ⟨#[]⟩, .int .i64 2]) ∧ Below B w w' := by
  rcases h with ⟨f', hf, _⟩ | ⟨_, rfl, hb⟩
  · cases hf
  · exact ⟨rfl, hb⟩
theorem phone_empty_is (s : ByteArray) (r : Option (List Int)) (w : World) (hs : s.size ≤ 140737488355328) (hr : phoneS [] false false (sb s) = r) :
    Calls Tryz.prog 122 #[.string ⟨#[]⟩, .string s] w fun e w' => e = .returned (phoneVal r) ∧ Below w.heap.size w w' := by
  refine (phone_empty s w hs).mono ?_
  intro e w' h
  rw [hr] at h
  cases r with
  | none => exact post_none h
  | some f => exact post_some h
end Go.Proofs.YthefddclefimoaaGreatDoor
namespace Go.Proofs.YthefddclefimoaaGreatDoor
open Go.RowKit
set_option linter.unusedVariables false
set_option linter.unusedSimpArgs false
set_option maxRecDepth 8000

def mailA (s : ByteArray) : ByteArray × Int := if mailB (trimI (sb s)) = true then (lowS (trB s), 0) else (⟨#[]⟩, 2)
def phoneA (s : ByteArray) : ByteArray × Int := match phoneS [] false false (sb s) with
  | some f => (strOfNums f, 0)
  | none => (⟨#[]⟩, 2)
def makeA (m s : ByteArray) : ByteArray × ByteArray × Int :=
  if m = { data := #[101, 109, 97, 105, 108] } then (if (mailA s).2 = 0 then (m, (mailA s).1, 0) else ({ data := #[] }, { data := #[] }, (mailA s).2))
  else if m = { data := #[109, 115, 105, 115, 100, 110] } then (if (phoneA s).2 = 0 then (m, (phoneA s).1, 0) else ({ data := #[] }, { data := #[] }, (phoneA s).2)) else ({ data := #[] }, { data := #[] }, 1)
def rightA (m s : ByteArray) : Bool := decide ((makeA m s).2.2 = 0) && decide (m = (makeA m s).1 ∧ s = (makeA m s).2.1)
theorem email_v (s : ByteArray) (w : World) (hm : MaxC w) (hs : s.size ≤ 140737488355328) : CV Tryz.prog 121 [.string s] w fun v W => v = .tuple #[.string (mailA s).1, .int .i64 (mailA s).2] := by
  unfold mailA
  cases h : mailB (trimI (sb s)) with
  | true => exact (email_yes s w hm hs h).mono fun e w' ⟨h1, h2⟩ => ⟨_, h1, rfl, h2⟩
  | false => exact (email_no s w hm hs h).mono fun e w' ⟨h1, h2⟩ => ⟨_, h1, rfl, h2⟩
theorem phone_v (s : ByteArray) (w : World) (hs : s.size ≤ 140737488355328) : CV Tryz.prog 122 [.string { data := #[] }, .string s] w fun v W => v = .tuple #[.string (phoneA s).1, .int .i64 (phoneA s).2] := by
  unfold phoneA
  cases h : phoneS [] false false (sb s) with
  | some f => exact (phone_empty_is s _ w hs h).mono fun e w' ⟨h1, h2⟩ => ⟨_, h1, rfl, h2⟩
  | none => exact (phone_empty_is s _ w hs h).mono fun e w' ⟨h1, h2⟩ => ⟨_, h1, rfl, h2⟩
set_option maxHeartbeats 1000000 in
theorem make_v (m s : ByteArray) (w : World) (L : List Nat) (hL : LL L w) (hM : MaxL L w)  (hs : s.size ≤ 140737488355328) : CV Tryz.prog 107 [.string m, .string s] w fun v W => v = .tuple #[.agg #[.string (makeA m s).1, .string (makeA m s).2.1], .int .i64 (makeA m s).2.2] := by
  refine cv_enter (N := 30) (f := [(0, .string m), (1, .string s)]) Tryz.func107 rfl rfl rfl rfl fun Q hQ hE => ?_
  have hB := Below.refl w.heap.size w
  refine WC.seq fun K1 hK1 => ?_
  refine WC.region ?_
  refine WL.get (dx_alloc rfl ty_zero_40 rfl) rfl rfl ?_
  rintro _ W2 ⟨rfl, k3, b4, z5⟩
  have l6 := hB.size
  replace hM := hM.more b4 (Nat.le_refl _)
  replace hB := below_then hB b4
  replace hL := LL.more hL z5
  refine WL.val (dx_assign rfl rfl) rfl rfl ?_
  refine WL.nil ?_
  refine hK1 ?_
  refine WC.seq fun K7 hK7 => ?_
  refine WC.region ?_
  refine WL.val (dx_assign rfl rfl) rfl rfl ?_
  refine WL.nil ?_
  refine hK7 ?_
  refine WC.seq fun K8 hK8 => ?_
  refine WC.region ?_
  refine WL.val (dx_assign rfl rfl) rfl rfl ?_
  refine WL.nil ?_
  refine hK8 ?_
  refine WC.seq fun K9 hK9 => ?_
  refine WC.seq fun K10 hK10 => ?_
  refine WC.region ?_
  refine WL.val (dx_move rfl rfl) rfl rfl ?_
  refine WL.nil ?_
  refine hK10 ?_
  refine WC.block ?_
  refine WC.seq fun K11 hK11 => ?_
  refine WC.region ?_
  refine WL.val (dx_eqlT rfl rfl rfl) rfl rfl ?_
  refine WL.val (dx_assign rfl rfl) rfl rfl ?_
  refine WL.nil ?_
  refine hK11 ?_
  refine WC.cond rfl (fun c12 => ?_) (fun c12 => ?_)
  ·
    replace c12 := of_decide_eq_true c12
    refine WC.region ?_
    refine WL.val (dx_move rfl rfl) rfl rfl ?_
    refine WL.get (dx_cv rfl Tryz.func121 rfl rfl rfl (email_v s W2 hM.1 hs)) rfl rfl ?_
    rintro _ W14 ⟨rfl, b13⟩
    replace hM := hM.below b13
    replace k3 := k3.below b13
    replace hB := below_then hB b13
    replace hL := LL.below hL b13
    refine WL.val (dx_move rfl rfl) rfl rfl ?_
    refine WL.val (dx_extract rfl rfl rfl) rfl rfl ?_
    refine WL.val (dx_extract rfl rfl rfl) rfl rfl ?_
    refine WL.val (dx_assign rfl rfl) rfl rfl ?_
    refine WL.val (dx_assign rfl rfl) rfl rfl ?_
    refine WL.nil ?_
    refine hK9 ?_
    refine WC.seq fun K15 hK15 => ?_
    refine WC.seq fun K16 hK16 => ?_
    refine WC.region ?_
    refine WL.val (dx_move rfl rfl) rfl rfl ?_
    refine WL.val (dx_neq rfl rfl rfl) rfl rfl ?_
    refine WL.nil ?_
    refine hK16 ?_
    refine WC.cond rfl (fun c17 => ?_) (fun c17 => ?_)
    ·
      replace c17 := bnot_t c17
      replace c17 := of_decide_eq_false c17
      refine WC.seq fun K18 hK18 => ?_
      refine WC.region ?_
      refine WL.val (dx_build rfl rfl (built_of_O (cs := [.string ⟨#[]⟩, .string ⟨#[]⟩]) (by kernel_rfl) oc_nil)) rfl rfl ?_
      refine WL.val (dx_move rfl rfl) rfl rfl ?_
      refine WL.do (dx_store (cs' := [.string ⟨#[]⟩, .string ⟨#[]⟩]) (vs := [.string ⟨#[]⟩, .string ⟨#[]⟩]) rfl ty_size_40_2 rfl rfl rfl (oc_cons rfl (oc_cons rfl oc_nil)) k3 rfl (Nat.le_of_ble_eq_true rfl) rfl) rfl ?_
      rintro _ W19 ⟨k21, o20⟩
      clear k3
      replace hM := hM.only o20 (.head _)
      replace hB := o20.below hB l6
      replace hL := LL.only hL o20
      refine WL.val (dx_assign rfl rfl) rfl rfl ?_
      refine WL.nil ?_
      refine hK18 ?_
      refine WC.ret fun a_ ha_ => ?_
      exact hQ (cv_ret2 rfl (.agg rfl ty_agg_40_2 k21.range rfl) (.tmp rfl) (by unfold makeA; simp [*]) hB ha_)
    ·
      replace c17 := bnot_f c17
      replace c17 := of_decide_eq_true c17
      refine WC.skip ?_
      refine hK15 ?_
      refine WC.seq fun K22 hK22 => ?_
      refine WC.region ?_
      refine WL.val (dx_move rfl rfl) rfl rfl ?_
      refine WL.val (dx_move rfl rfl) rfl rfl ?_
      refine WL.val (dx_build rfl rfl (built_of_O (cs := [.string m, .string ((mailA s).1)]) (by kernel_rfl) (oc_cons rfl (oc_cons rfl oc_nil)))) rfl rfl ?_
      refine WL.do (dx_store (cs' := [.string m, .string ((mailA s).1)]) (vs := [.string m, .string ((mailA s).1)]) rfl ty_size_40_2 rfl rfl rfl (oc_cons rfl (oc_cons rfl oc_nil)) k3 rfl (Nat.le_of_ble_eq_true rfl) rfl) rfl ?_
      rintro _ W23 ⟨k25, o24⟩
      clear k3
      replace hM := hM.only o24 (.head _)
      replace hB := o24.below hB l6
      replace hL := LL.only hL o24
      refine WL.val (dx_assign rfl rfl) rfl rfl ?_
      refine WL.nil ?_
      refine hK22 ?_
      refine WC.ret fun a_ ha_ => ?_
      exact hQ (cv_ret2 rfl (.agg rfl ty_agg_40_2 k25.range rfl) (.tmp rfl) (by unfold makeA; simp [*]) hB ha_)
  ·
    replace c12 := of_decide_eq_false c12
    refine WC.seq fun K26 hK26 => ?_
    refine WC.region ?_
    refine WL.val (dx_eqlT rfl rfl rfl) rfl rfl ?_
    refine WL.val (dx_assign rfl rfl) rfl rfl ?_
    refine WL.nil ?_
    refine hK26 ?_
    refine WC.cond rfl (fun c27 => ?_) (fun c27 => ?_)
    ·
      replace c27 := of_decide_eq_true c27
      refine WC.region ?_
      refine WL.val (dx_move rfl rfl) rfl rfl ?_
      refine WL.get (dx_cv rfl Tryz.func122 rfl rfl rfl (phone_v s W2 hs)) rfl rfl ?_
      rintro _ W29 ⟨rfl, b28⟩
      replace hM := hM.below b28
      replace k3 := k3.below b28
      replace hB := below_then hB b28
      replace hL := LL.below hL b28
      refine WL.val (dx_move rfl rfl) rfl rfl ?_
      refine WL.val (dx_extract rfl rfl rfl) rfl rfl ?_
      refine WL.val (dx_extract rfl rfl rfl) rfl rfl ?_
      refine WL.val (dx_assign rfl rfl) rfl rfl ?_
      refine WL.val (dx_assign rfl rfl) rfl rfl ?_
      refine WL.nil ?_
      refine hK9 ?_
      refine WC.seq fun K30 hK30 => ?_
      refine WC.seq fun K31 hK31 => ?_
      refine WC.region ?_
      refine WL.val (dx_move rfl rfl) rfl rfl ?_
      refine WL.val (dx_neq rfl rfl rfl) rfl rfl ?_
      refine WL.nil ?_
      refine hK31 ?_
      refine WC.cond rfl (fun c32 => ?_) (fun c32 => ?_)
      ·
        replace c32 := bnot_t c32
        replace c32 := of_decide_eq_false c32
        refine WC.seq fun K33 hK33 => ?_
        refine WC.region ?_
        refine WL.val (dx_build rfl rfl (built_of_O (cs := [.string ⟨#[]⟩, .string ⟨#[]⟩]) (by kernel_rfl) oc_nil)) rfl rfl ?_
        refine WL.val (dx_move rfl rfl) rfl rfl ?_
        refine WL.do (dx_store (cs' := [.string ⟨#[]⟩, .string ⟨#[]⟩]) (vs := [.string ⟨#[]⟩, .string ⟨#[]⟩]) rfl ty_size_40_2 rfl rfl rfl (oc_cons rfl (oc_cons rfl oc_nil)) k3 rfl (Nat.le_of_ble_eq_true rfl) rfl) rfl ?_
        rintro _ W34 ⟨k36, o35⟩
        clear k3
        replace hM := hM.only o35 (.head _)
        replace hB := o35.below hB l6
        replace hL := LL.only hL o35
        refine WL.val (dx_assign rfl rfl) rfl rfl ?_
        refine WL.nil ?_
        refine hK33 ?_
        refine WC.ret fun a_ ha_ => ?_
        exact hQ (cv_ret2 rfl (.agg rfl ty_agg_40_2 k36.range rfl) (.tmp rfl) (by unfold makeA; simp [*]) hB ha_)
      ·
        replace c32 := bnot_f c32
        replace c32 := of_decide_eq_true c32
        refine WC.skip ?_
        refine hK30 ?_
        refine WC.seq fun K37 hK37 => ?_
        refine WC.region ?_
        refine WL.val (dx_move rfl rfl) rfl rfl ?_
        refine WL.val (dx_move rfl rfl) rfl rfl ?_
        refine WL.val (dx_build rfl rfl (built_of_O (cs := [.string m, .string ((phoneA s).1)]) (by kernel_rfl) (oc_cons rfl (oc_cons rfl oc_nil)))) rfl rfl ?_
        refine WL.do (dx_store (cs' := [.string m, .string ((phoneA s).1)]) (vs := [.string m, .string ((phoneA s).1)]) rfl ty_size_40_2 rfl rfl rfl (oc_cons rfl (oc_cons rfl oc_nil)) k3 rfl (Nat.le_of_ble_eq_true rfl) rfl) rfl ?_
        rintro _ W38 ⟨k40, o39⟩
        clear k3
        replace hM := hM.only o39 (.head _)
        replace hB := o39.below hB l6
        replace hL := LL.only hL o39
        refine WL.val (dx_assign rfl rfl) rfl rfl ?_
        refine WL.nil ?_
        refine hK37 ?_
        refine WC.ret fun a_ ha_ => ?_
        exact hQ (cv_ret2 rfl (.agg rfl ty_agg_40_2 k40.range rfl) (.tmp rfl) (by unfold makeA; simp [*]) hB ha_)
    ·
      replace c27 := of_decide_eq_false c27
      refine WC.region ?_
      refine WL.val (dx_assign rfl rfl) rfl rfl ?_
      refine WL.nil ?_
      refine hK9 ?_
      refine WC.seq fun K41 hK41 => ?_
      refine WC.seq fun K42 hK42 => ?_
      refine WC.region ?_
      refine WL.val (dx_move rfl rfl) rfl rfl ?_
      refine WL.val (dx_neq rfl rfl rfl) rfl rfl ?_
      refine WL.nil ?_
      refine hK42 ?_
      refine WC.condT rfl ?_
      refine WC.seq fun K43 hK43 => ?_
      refine WC.region ?_
      refine WL.val (dx_build rfl rfl (built_of_O (cs := [.string ⟨#[]⟩, .string ⟨#[]⟩]) (by kernel_rfl) oc_nil)) rfl rfl ?_
      refine WL.val (dx_move rfl rfl) rfl rfl ?_
      refine WL.do (dx_store (cs' := [.string ⟨#[]⟩, .string ⟨#[]⟩]) (vs := [.string ⟨#[]⟩, .string ⟨#[]⟩]) rfl ty_size_40_2 rfl rfl rfl (oc_cons rfl (oc_cons rfl oc_nil)) k3 rfl (Nat.le_of_ble_eq_true rfl) rfl) rfl ?_
      rintro _ W44 ⟨k46, o45⟩
      clear k3
      replace hM := hM.only o45 (.head _)
      replace hB := o45.below hB l6
      replace hL := LL.only hL o45
      refine WL.val (dx_assign rfl rfl) rfl rfl ?_
      refine WL.nil ?_
      refine hK43 ?_
      refine WC.ret fun a_ ha_ => ?_
      exact hQ (cv_ret2 rfl (.agg rfl ty_agg_40_2 k46.range rfl) (.tmp rfl) (by unfold makeA; simp [*]) hB ha_)

set_option maxHeartbeats 1000000 in
theorem right_v (m s : ByteArray) (w : World) (L : List Nat) (hL : LL L w) (hM : MaxL L w)  (hs : s.size ≤ 140737488355328) : CV Tryz.prog 80 [.agg #[.string m, .string s]] w fun v W => v = .bool (rightA m s) := by
  refine cv_enter (N := 20) (f := [(0, .agg #[.string m, .string s])]) Tryz.func80 rfl rfl rfl rfl fun Q hQ hE => ?_
  have hB := Below.refl w.heap.size w
  refine WC.seq fun K1 hK1 => ?_
  refine WC.region ?_
  refine WL.get (dx_box rfl rfl rfl) rfl rfl ?_
  rintro _ W2 ⟨rfl, k3, b4, z5⟩
  have l6 := hB.size
  replace hM := hM.more b4 (Nat.le_refl _)
  replace hB := below_then hB b4
  replace hL := LL.more hL z5
  refine WL.val (dx_assign rfl rfl) rfl rfl ?_
  refine WL.nil ?_
  refine hK1 ?_
  refine WC.seq fun K7 hK7 => ?_
  refine WC.region ?_
  refine WL.val (dx_fld (o1 := 0) rfl ty_fld_40_0_0 rfl rfl) rfl rfl ?_
  refine WL.val (dx_load rfl ty_one_9 rfl (k3.cell (k := 0) rfl)) rfl rfl ?_
  refine WL.val (dx_fld (o1 := 1) rfl ty_fld_40_1_1 rfl rfl) rfl rfl ?_
  refine WL.val (dx_load rfl ty_one_9 rfl (k3.cell (k := 1) rfl)) rfl rfl ?_
  refine WL.get (dx_cv rfl Tryz.func107 rfl rfl rfl (make_v m s W2 _ hL hM hs)) rfl rfl ?_
  rintro _ W9 ⟨rfl, b8⟩
  replace hM := hM.below b8
  replace k3 := k3.below b8
  replace hB := below_then hB b8
  replace hL := LL.below hL b8
  refine WL.val (dx_move rfl rfl) rfl rfl ?_
  refine WL.val (dx_extract rfl rfl rfl) rfl rfl ?_
  refine WL.val (dx_extract rfl rfl rfl) rfl rfl ?_
  refine WL.get (dx_alloc rfl ty_zero_40 rfl) rfl rfl ?_
  rintro _ W10 ⟨rfl, k11, b12, z13⟩
  have n14 : w.heap.size ≠ W9.heap.size := Nat.ne_of_lt k3.lt
  have l15 := hB.size
  replace hM := hM.more b12 (Nat.le_refl _)
  replace k3 := k3.below b12
  replace hB := below_then hB b12
  replace hL := LL.more hL z13
  refine WL.do (dx_store (cs' := [.string ((makeA m s).1), .string ((makeA m s).2.1)]) (vs := [.string ((makeA m s).1), .string ((makeA m s).2.1)]) rfl ty_size_40_2 rfl rfl rfl (oc_cons rfl (oc_cons rfl oc_nil)) k11 rfl (Nat.le_of_ble_eq_true rfl) rfl) rfl ?_
  rintro _ W16 ⟨k18, o17⟩
  replace k3 := k3.other o17 n14
  clear k11
  replace hM := hM.only o17 (.head _)
  replace hB := o17.below hB l15
  replace hL := LL.only hL o17
  refine WL.val (dx_assign rfl rfl) rfl rfl ?_
  refine WL.nil ?_
  refine hK7 ?_
  refine WC.seq fun K19 hK19 => ?_
  refine WC.region ?_
  refine WL.val (dx_move rfl rfl) rfl rfl ?_
  refine WL.val (dx_eql rfl rfl rfl) rfl rfl ?_
  refine WL.val (dx_move rfl rfl) rfl rfl ?_
  refine WL.split 15 rfl (fun g20 => ?_) (fun g20 => ?_)
  ·
    replace g20 := of_decide_eq_true g20
    refine WL.val (dx_loadN rfl ty_agg_40_2 rfl k3.range rfl) rfl rfl ?_
    refine WL.val (dx_loadN rfl ty_agg_40_2 rfl k18.range rfl) rfl rfl ?_
    refine WL.val (dx_eqAd rfl rfl rfl) rfl rfl ?_
    refine WL.val (dx_pick rfl rfl rfl) rfl rfl ?_
    refine WL.val (dx_assign rfl rfl) rfl rfl ?_
    refine WL.nil ?_
    refine hK19 ?_
    refine WC.ret fun a_ ha_ => ?_
    exact hQ (cv_ret1 rfl (.tmp rfl) (by unfold rightA; simp [*]) hB ha_)
  ·
    replace g20 := of_decide_eq_false g20
    refine WL.off rfl rfl rfl ?_
    refine WL.off rfl rfl rfl ?_
    refine WL.off rfl rfl rfl ?_
    refine WL.val (dx_pick rfl rfl rfl) rfl rfl ?_
    refine WL.val (dx_assign rfl rfl) rfl rfl ?_
    refine WL.nil ?_
    refine hK19 ?_
    refine WC.ret fun a_ ha_ => ?_
    exact hQ (cv_ret1 rfl (.tmp rfl) (by unfold rightA; simp [*]) hB ha_)

end Go.Proofs.YthefddclefimoaaGreatDoor
namespace Go.Proofs.YthefddclefimoaaGreatDoor
open Go.RowKit
set_option linter.unusedVariables false
set_option linter.unusedSimpArgs false
set_option maxRecDepth 8000

abbrev userB (s : ByteArray) : Bool := userL (sb s)
set_option maxHeartbeats 1000000 in
theorem namedBig_v (s : ByteArray) (w : World) (L : List Nat) (hL : LL L w)   (h : 255 < s.size) : CV Tryz.prog 67 [.string s, .int .u8 64, .int .i64 200, .func (.func 68) #[] #[]] w fun v W => v = .bool false := by
  refine cv_enter (N := 41) (f := [(0, .string s), (1, .int .u8 64), (2, .int .i64 200), (3, .func (.func 68) #[] #[])]) Tryz.func67 rfl rfl rfl rfl fun Q hQ hE => ?_
  have hB := Below.refl w.heap.size w
  refine WC.seq fun K1 hK1 => ?_
  refine WC.region ?_
  refine WL.val (dx_assign rfl rfl) rfl rfl ?_
  refine WL.nil ?_
  refine hK1 ?_
  refine WC.seq fun K2 hK2 => ?_
  refine WC.seq fun K3 hK3 => ?_
  refine WC.region ?_
  refine WL.val (dx_move rfl rfl) rfl rfl ?_
  refine WL.val (dx_lenT rfl Tryz.underlying9 rfl) rfl rfl ?_
  refine WL.val (dx_gtr rfl rfl rfl) rfl rfl ?_
  refine WL.val (dx_move rfl rfl) rfl rfl ?_
  refine WL.split 15 rfl (fun g4 => ?_) (fun g4 => ?_)
  ·
    replace g4 := of_decide_eq_true g4
    refine WL.off rfl rfl rfl ?_
    refine WL.off rfl rfl rfl ?_
    refine WL.off rfl rfl rfl ?_
    refine WL.val (dx_pick rfl rfl rfl) rfl rfl ?_
    refine WL.val (dx_move rfl rfl) rfl rfl ?_
    refine WL.off rfl rfl rfl ?_
    refine WL.off rfl rfl rfl ?_
    refine WL.off rfl rfl rfl ?_
    refine WL.off rfl rfl rfl ?_
    refine WL.val (dx_pick rfl rfl rfl) rfl rfl ?_
    refine WL.nil ?_
    refine hK3 ?_
    refine WC.condT rfl ?_
    refine WC.seq fun K5 hK5 => ?_
    refine WC.region ?_
    refine WL.val (dx_assign rfl rfl) rfl rfl ?_
    refine WL.nil ?_
    refine hK5 ?_
    refine WC.ret fun a_ ha_ => ?_
    exact hQ (cv_ret1 rfl (.tmp rfl) rfl hB ha_)
  ·
    replace g4 := of_decide_eq_false g4
    exfalso; omega

set_option maxHeartbeats 1000000 in
theorem userBig_v (s : ByteArray) (w : World) (L : List Nat) (hL : LL L w)   (h : 255 < s.size) : CV Tryz.prog 37 [.string s] w fun v W => v = .bool false := by
  refine cv_enter (N := 5) (f := [(0, .string s)]) Tryz.func37 rfl rfl rfl rfl fun Q hQ hE => ?_
  have hB := Below.refl w.heap.size w
  refine WC.seq fun K1 hK1 => ?_
  refine WC.region ?_
  refine WL.val (dx_assign rfl rfl) rfl rfl ?_
  refine WL.nil ?_
  refine hK1 ?_
  refine WC.seq fun K2 hK2 => ?_
  refine WC.region ?_
  refine WL.val (dx_move rfl rfl) rfl rfl ?_
  refine WL.get (dx_cv rfl Tryz.func67 rfl rfl rfl (namedBig_v s w [] (LL.nil _) h)) rfl rfl ?_
  rintro _ W4 ⟨rfl, b3⟩
  replace hB := below_then hB b3
  replace hL := LL.below hL b3
  refine WL.val (dx_assign rfl rfl) rfl rfl ?_
  refine WL.nil ?_
  refine hK2 ?_
  refine WC.ret fun a_ ha_ => ?_
  exact hQ (cv_ret1 rfl (.tmp rfl) rfl hB ha_)

theorem user_v (s : ByteArray) (w : World) (hm : MaxC w) : CV Tryz.prog 37 [.string s] w fun v W => v = .bool (userB s) := by
  by_cases h : 255 < s.size
  · have e : userB s = false := by
      have hl := sb_length s
      unfold userB
      rw [userL, namedL, decide_eq_false (by omega)]
      rfl
    rw [e]
    exact userBig_v s w [] (LL.nil _) h
  · exact (user_any s w hm (by omega)).mono fun e w' ⟨h1, h2⟩ => ⟨_, h1, rfl, h2⟩
end Go.Proofs.YthefddclefimoaaGreatDoor
namespace Go.Proofs.YthefddclefimoaaGreatDoor
open Go.RowKit
set_option linter.unusedVariables false
set_option linter.unusedSimpArgs false
theorem flat_inj {s : Nat} : ∀ {xs ys : List (List Value)}, (∀ r ∈ xs, r.length = s) → (∀ r ∈ ys, r.length = s) → xs.length = ys.length → xs.flatten = ys.flatten → xs = ys
  | [], [], _, _, _, _ => rfl
  | [], _ :: _, _, _, hl, _ => by simp at hl
  | _ :: _, [], _, _, hl, _ => by simp at hl
  | x :: xs, y :: ys, hx, hy, hl, he => by
    have h1 : x.length = y.length := by rw [hx x (.head _), hy y (.head _)]
    rw [List.flatten_cons, List.flatten_cons] at he
    obtain ⟨e1, e2⟩ := List.append_inj he h1
    rw [e1, flat_inj (fun r hr => hx r (.tail _ hr)) (fun r hr => hy r (.tail _ hr)) (by simpa using hl) e2]
section
variable {P : Program} {ops : Array Oper} {o : Oper} {N : Nat} {f : Fl} {w : World}
theorem RwB.rd {s : Nat} {w : World} {C : Nat} {vs sp : List (List Value)} (h : RwB s w C (vs ++ sp)) {L : List Nat} (hC : C ∉ L) : RdF s L w (.slice (some ⟨C, 0, none⟩) vs.length (vs ++ sp).length) vs := h.own.rd hC
theorem dx_cap {t : TypeId} {x : Operand} {a : Option Addr} {e : TypeId} {n c : Nat} (ho : o.op = .call { callee := .builtin .cap, args := #[x], argTypes := #[t] }) (ht : P.underlying t = some (.slice e)) (hx : ev f x = some (.slice a n c)) (hw : wantF ops o f = some true := by rfl) : DV P ops o N f w (.int .i64 (c : Int)) := fun k ha => by
  have hx := ha.ev hx
  exact Does.pure (wantF_of ha hw) _ (by unfold execOp; simp [ho, resolve, invoke, builtin, hx, Builtin.cap_, Sem.run_bind, run_underlying ht, goInt]) ⟨rfl, rfl⟩
/-- x[0:] of nil. -/
theorem dx_slN {t s : Nat} {x y : Operand} {K : IntKind} (ho : o.op = .slice t x (some y) none none) (ht : sliceB P t s = true) (hx : ev f x = some (.slice none 0 0)) (hy : ev f y = some (.int K 0)) (hw : wantF ops o f = some true := by rfl) : DV P ops o N f w (.slice none 0 0) := fun a ha => by
  obtain ⟨e, hu, hs⟩ := of_sliceB ht
  have hx := ha.ev hx
  have hy := ha.ev hy
  cases hi : P.info? e with
  | none => rw [hi] at hs; cases hs
  | some q =>
    refine Does.pure (wantF_of ha hw) _ ?_ ⟨rfl, rfl⟩
    unfold execOp
    simp only [ho, Option.map_none, Option.map_some, hx, hy, Instr.sliceAt, Sem.run_bind, run_underlying hu, Result.andThen_ok, Instr.slice, Instr.sliceBounds, Instr.sliceBound, asIntOf, Sem.run_pure, sizeOf, typeInfo, run_program, hi]
    rw [if_pos (by decide)]
    exact rfl
/-- A slice that is none, or has an address. -/
theorem RdF.nil_or {s : Nat} {L : List Nat} {w : World} {v : Value} {rs : List (List Value)} (h : RdF s L w v rs) : (v = .slice none 0 0 ∧ rs = []) ∨ ∃ a n c, v = .slice (some a) n c := by
  obtain ⟨_, _, a, c, rfl, h1, h2, h3, h4⟩ := h
  cases a with
  | none =>
    have hr : rs = [] := Classical.byContradiction fun hn => by obtain ⟨X, o, he, _⟩ := h4 hn; cases he
    subst hr
    exact .inl ⟨by rw [h3 rfl]; rfl, rfl⟩
  | some a => exact .inr ⟨a, _, c, rfl⟩
theorem dx_nilS {t t' : TypeId} {x : Operand} {a : Addr} {n c : Nat} {v : Value} {e : TypeId} (ho : o.op = .binOp .eql t x (.const (.slice none 0 0)) t') (hu : P.underlying t = some (.slice e)) (hx : ev f x = some v) (hv : v = .slice (some a) n c) (hw : wantF ops o f = some true := by rfl) : DV P ops o N f w (.bool false) := fun k ha => by
  subst hv
  have hx := ha.ev hx
  have e1 : binOp .eql t (.slice (some a) n c) (.slice none 0 0) = (do pure (.bool (← Op.equal t (.slice (some a) n c) (.slice none 0 0)))) := rfl
  have e2 : (Op.equal t (.slice (some a) n c) (.slice none 0 0)).run P w = .ok false w := eqIn_nil hu 9999 _ _ _
  exact Does.pure (wantF_of ha hw) _ (by unfold execOp; simp only [ho, hx, eval_c, eqGuard, Sem.run_bind, Sem.run_pure, Result.andThen_ok, e1]; show ((((Sem.run P (Op.equal t (Value.slice (some a) n c) (Value.slice none 0 0)) w).andThen fun a w' => Result.ok (Value.bool a) w').andThen fun a w' => Result.ok (Next.value a) w') = _); rw [e2]; rfl) ⟨rfl, rfl⟩
theorem eqIn_nilT {t : TypeId} {e : TypeId} (hu : P.underlying t = some (.slice e)) (d : Nat) : (Op.equalIn (d + 1) t (.slice none 0 0) (.slice none 0 0)).run P w = .ok true w := by
  simp [Op.equalIn, run_underlying hu]
theorem dx_nilT {t t' : TypeId} {x : Operand} {e : TypeId} (ho : o.op = .binOp .eql t x (.const (.slice none 0 0)) t') (hu : P.underlying t = some (.slice e)) (hx : ev f x = some (.slice none 0 0)) (hw : wantF ops o f = some true := by rfl) : DV P ops o N f w (.bool true) := fun k ha => by
  have hx := ha.ev hx
  have e1 : binOp .eql t (.slice none 0 0) (.slice none 0 0) = (do pure (.bool (← Op.equal t (.slice none 0 0) (.slice none 0 0)))) := rfl
  have e2 : (Op.equal t (.slice none 0 0) (.slice none 0 0)).run P w = .ok true w := eqIn_nilT hu 9999
  exact Does.pure (wantF_of ha hw) _ (by unfold execOp; simp only [ho, hx, eval_c, eqGuard, Sem.run_bind, Sem.run_pure, Result.andThen_ok, e1]; show ((((Sem.run P (Op.equal t (Value.slice none 0 0) (Value.slice none 0 0)) w).andThen fun a w' => Result.ok (Value.bool a) w').andThen fun a w' => Result.ok (Next.value a) w') = _); rw [e2]; rfl) ⟨rfl, rfl⟩
/-- Slices in two blocks of one's own don't overlap. -/
theorem dx_ovl {F : FuncId} {fn : Func} {t tR s B C o0 o1 n c m c' : Nat} {x y : Operand} {ts : Array TypeId} {U V : List (List Value)} (ho : o.op = .call { callee := .value (.func F), args := #[x, y], argTypes := ts }) (hf : P.funcs[F]? = some fn) (hn : (fn.name == "runtime.NumGoroutine") = false) (hb : fn.body.isNone = true) (hnx : Extern.findNext fn = none) (he : Extern.find fn = some (Extern.SlicesOverlaps.overlaps #[t, t] #[tR])) (ht : sliceB P t s = true)
    (hx : ev f x = some (.slice (some ⟨C, o0, none⟩) n c)) (hy : ev f y = some (.slice (some ⟨B, o1, none⟩) m c')) (hC : RwB s w C V) (hB : RwB s w B U) (hne : C ≠ B) (hU : U ≠ []) (hw : wantF ops o f = some true := by rfl) : DV P ops o N f w (.bool false) := fun a ha => by
  have hx := ha.ev hx
  have hy := ha.ev hy
  obtain ⟨e, hu, hs⟩ := of_sliceB ht
  obtain ⟨hc0, hcr, hcm, tc, hcb⟩ := hC
  obtain ⟨hb0, hbr, hbm, tb, hbb⟩ := hB
  cases hi : P.info? e with
  | none => rw [hi] at hs; cases hs
  | some q =>
    have hq : q.size = s := by simpa [hi] using hs
    have hz : ∀ w, (Go.sizeOf e).run P w = .ok s w := fun w => by simp [sizeOf, typeInfo, hi, hq]
    have hkB : U.flatten.toArray.size ≠ 0 := by
      rw [List.size_toArray, flat_len hbr]
      exact Nat.mul_ne_zero (fun h => hU (List.length_eq_zero_iff.1 h)) (by omega)
    have hrun := Lib.run_overlaps_apart (P := P) w t tR e hu s hz ⟨C, o0, none⟩ ⟨B, o1, none⟩ n c m c' hne tc tb V.flatten.toArray.size U.flatten.toArray.size (by simp [World.shape?, hcb]) (by simp [World.shape?, hbb]) hkB (by simp [World.frozen?, hcb]) (by simp [World.frozen?, hcb])
    refine Does.pure (wantF_of ha hw) _ ?_ ⟨rfl, rfl⟩
    have h1 := run_callFunc_extern (P := P) hf hn hb hnx he #[.slice (some ⟨C, o0, none⟩) n c, .slice (some ⟨B, o1, none⟩) m c'] w
    rw [hrun] at h1
    simp only [Result.andThen_ok] at h1
    have hfe : a.eval (.func F) = .func (.func F) #[] #[] := rfl
    unfold execOp
    simp only [ho, resolve, hfe, Deferred.ofValue, Sem.run_bind, Sem.run_pure, Result.andThen_ok, invoke, List.map_toArray, List.map_cons, List.map_nil, hx, hy, Array.empty_append, Array.append_empty]
    rw [h1]
/-- An append of zeros that there is no room for: what comes is new. -/
theorem dx_apZ {t tn s bytes B i : Nat} {K kn : IntKind} {x y : Operand} {j : Int} (m : Nat) {R : List (List Value)} (ho : o.op = .call { callee := .builtin .append, args := #[x, y], argTypes := #[t, tn] }) (ht : apB P t s bytes = true) (htn : P.underlying tn = some (.int kn)) (hx : ev f x = some (.slice (some ⟨B, 0, none⟩) i R.length)) (hy : ev f y = some (.int K j)) (hj : j = (m : Int))
    (hR : RwB s w B R) (hi : i ≤ R.length) (hg : R.length < i + m) (hm : i + m ≤ maxLen) (hby : (i + m) * bytes ≤ 140737488355328) (hw : wantF ops o f = some true := by rfl) :
    DR P ops o N f w fun u W => ∃ Z : List (List Value), u = .slice (some ⟨w.heap.size, 0, none⟩) (i + m) Z.length ∧ i + m ≤ Z.length ∧ Z.take i = R.take i ∧ RwB s W w.heap.size Z ∧ Below w.heap.size w W ∧ w.heap.size < W.heap.size := fun a ha => by
  subst hj
  obtain ⟨e, q, Z, hu, hi', hz, rfl, rfl, hzs⟩ := of_apB ht
  have hx := ha.ev hx
  have hy := ha.ev hy
  obtain ⟨h0, hr, hmR, tt, hb⟩ := hR
  unfold maxLen at hm
  have hrt : ∀ r ∈ R.take i, r.length = q.size := fun r hr' => hr r (List.mem_of_mem_take hr')
  have hfl : (R.take i).flatten.length = i * q.size := by rw [flat_len hrt, List.length_take]; congr 1; omega
  have hfo := run_firstCells_some (P := P) w.drew q.size i ⟨B, 0, none⟩ i R.length (R.take i).flatten hfl (fun k u hk => by
    rw [addr_at, World.cell?_drew]
    refine ((Blk.range ⟨tt, hb⟩ : w.rangeAt B 0 R.flatten)) k u ?_
    rw [← flat_take i hr, List.getElem?_take] at hk
    split at hk
    · exact hk
    · cases hk)
  have hwr : IntKind.i64.wrap (m : Int) = m := by rw [IntKind.wrap_i64]; omega
  have hneg : ¬ ((m : Int) < 0) := by omega
  have hm0 : m ≠ 0 := by omega
  have hns : ¬ (m * q.size = 0) := Nat.mul_ne_zero hm0 (by omega)
  have hbm : m * q.bytes ≤ (i + m) * q.bytes := Nat.mul_le_mul_right _ (by omega)
  have h48i : ¬ (281474976710656 < (m : Int) * (q.bytes : Int)) := by rw [← Int.natCast_mul]; omega
  have hn : ¬ (i + m ≤ R.length) := by omega
  have h63' : ¬ (9223372036854775807 < ((i : Int) + (m : Int))) := by omega
  have hfit := growslice_fits (old := R.length) (by omega) hby
  have h48' : ¬ (281474976710656 < Builtin.nextslicecap (i + m) R.length * q.bytes) := by omega
  have hrun : (Builtin.append_ #[t, tn] o.type #[.slice (some ⟨B, 0, none⟩) i R.length, .int K m]).run P w = .ok (.slice (some ⟨w.heap.size, 0, none⟩) (i + m) (grownCap w (i + m) R.length e)) (w.drew.alloc (.cells ((R.take i).flatten.toArray ++ Builtin.zeroCells Z.cells m ++ Builtin.zeroCells Z.cells (grownCap w (i + m) R.length e - (i + m))) e)) := by
    simp [Builtin.append_, run_underlying hu, run_underlying htn, sizeOf, typeInfo, zeroValue, hi', hz, asInt, asIntOf, hwr, hneg, hns, hn, h63', h48', h48i, Question.forced, hfo, newRow, grownCap]
  have hcl : ((R.take i).flatten.toArray ++ Builtin.zeroCells Z.cells m ++ Builtin.zeroCells Z.cells (grownCap w (i + m) R.length e - (i + m))).toList.length = grownCap w (i + m) R.length e * q.size := by
    have hge : i + m ≤ grownCap w (i + m) R.length e := grownCap_ge _ _ _ _
    rw [Array.length_toList, Array.size_append, Array.size_append, size_zeroCells, size_zeroCells, hzs, List.size_toArray, hfl, ← Nat.add_mul, ← Nat.add_mul]
    congr 1
    omega
  obtain ⟨rows, k1, k2, k3⟩ := rows_of (s := q.size) _ _ hcl
  have hge : i + m ≤ grownCap w (i + m) R.length e := grownCap_ge _ _ _ _
  refine Does.of_wp (wantF_of ha hw) fun K hK => ?_
  unfold Oper.wp execOp
  simp only [ho, resolve, invoke, builtin, Sem.run_bind, Sem.run_pure, Result.andThen_ok, List.map_toArray, List.map_cons, List.map_nil, hx, hy, hrun]
  refine hK _ _ ⟨rows, by rw [k1], by rw [k1]; exact hge, ?_, ⟨h0, k2, by rw [k1]; exact grownCap_le_maxLen _ _ _ _ (by unfold maxLen; omega), e, ?_⟩, below_alloc (below_draws (Below.refl _ _) 1) _, ?_⟩
  · refine flat_inj (s := q.size) (fun r hr' => k2 r (List.mem_of_mem_take hr')) hrt (by rw [List.length_take, List.length_take, k1]; omega) ?_
    rw [← flat_take i k2, k3]
    simp only [Array.toList_append]
    rw [List.append_assoc, List.take_append_of_le_length (by simpa using Nat.le_of_eq hfl.symm), List.take_of_length_le (by simpa using Nat.le_of_eq hfl)]
  · rw [show w.heap.size = w.drew.heap.size from (World.size_drew w).symm, heap_alloc_new, k3]
  · have := (below_alloc (below_draws (Below.refl w.heap.size w) 1) (.cells ((R.take i).flatten.toArray ++ Builtin.zeroCells Z.cells m ++ Builtin.zeroCells Z.cells (grownCap w (i + m) R.length e - (i + m))) e))
    rw [World.size_alloc, World.size_drew]
    omega
end
theorem ins_room {α : Type} {rs sp vs : List α} {i : Nat} (hi : i ≤ rs.length) (hm : rs.length + vs.length ≤ (rs ++ sp).length) :
    let R0 := rs ++ sp
    let R1 := R0.take (i + vs.length) ++ (((R0.drop i).take (rs.length + vs.length - i)).take (rs.length - i) ++ R0.drop (i + vs.length + (rs.length - i)))
    R1.take i ++ (vs ++ R1.drop (i + vs.length)) = (rs.take i ++ (vs ++ rs.drop i)) ++ R0.drop (rs.length + vs.length) := by
  have hl : (rs ++ sp).length = rs.length + sp.length := List.length_append
  have e1 : (((rs ++ sp).drop i).take (rs.length + vs.length - i)).take (rs.length - i) = rs.drop i := by
    rw [List.take_take, show min (rs.length - i) (rs.length + vs.length - i) = rs.length - i by omega, List.drop_append_of_le_length hi, List.take_append_of_le_length (by rw [List.length_drop]; omega), List.take_of_length_le (by rw [List.length_drop]; omega)]
  have l1 : ((rs ++ sp).take (i + vs.length)).length = i + vs.length := by rw [List.length_take]; omega
  simp only [e1]
  rw [List.take_append_of_le_length (by omega), List.take_take, show min i (i + vs.length) = i by omega, List.take_append_of_le_length hi]
  rw [List.drop_append, List.drop_eq_nil_of_le (by omega), List.nil_append, l1, Nat.sub_self, List.drop_zero, show i + vs.length + (rs.length - i) = rs.length + vs.length by omega]
  simp
theorem ins_grow {α : Type} {rs vs R2 : List α} {i : Nat} (hi : i ≤ rs.length) (hm : rs.length + vs.length ≤ R2.length) (ht : R2.take i = rs.take i) :
    let R3 := R2.take i ++ (vs ++ R2.drop (i + vs.length))
    R3.take (i + vs.length) ++ (rs.drop i ++ R3.drop (i + vs.length + (rs.length - i))) = (rs.take i ++ (vs ++ rs.drop i)) ++ R2.drop (rs.length + vs.length) := by
  have l1 : (rs.take i).length = i := by rw [List.length_take]; omega
  have l2 : (rs.take i ++ vs).length = i + vs.length := by rw [List.length_append, l1]
  have e0 : R2.take i ++ (vs ++ R2.drop (i + vs.length)) = (rs.take i ++ vs) ++ R2.drop (i + vs.length) := by rw [ht, List.append_assoc]
  have e1 : ((rs.take i ++ vs) ++ R2.drop (i + vs.length)).take (i + vs.length) = rs.take i ++ vs := by
    rw [List.take_append_of_le_length (by omega), List.take_of_length_le (by omega)]
  have e2 : ((rs.take i ++ vs) ++ R2.drop (i + vs.length)).drop (i + vs.length + (rs.length - i)) = R2.drop (rs.length + vs.length) := by
    have e3 : (rs.take i ++ vs).drop (i + vs.length + (rs.length - i)) = [] := List.drop_eq_nil_of_le (by omega)
    rw [List.drop_append, e3, List.nil_append, l2, List.drop_drop, show i + vs.length + (i + vs.length + (rs.length - i) - (i + vs.length)) = rs.length + vs.length by omega]
  intro R3
  rw [show R3 = (rs.take i ++ vs) ++ R2.drop (i + vs.length) from e0, e1, e2]
  simp
end Go.Proofs.YthefddclefimoaaGreatDoor
namespace Go.Proofs.YthefddclefimoaaGreatDoor
open Go.RowKit
set_option linter.unusedVariables false
set_option linter.unusedSimpArgs false
set_option maxRecDepth 8000

theorem del_tail {α : Type} {rs sp : List α} {i : Nat} (hi : i ≤ rs.length) : ((rs ++ sp).drop i).take (rs.length - i) = rs.drop i := by
  rw [List.drop_append_of_le_length hi, List.take_append_of_le_length (by rw [List.length_drop]; omega), List.take_of_length_le (by rw [List.length_drop]; omega)]
theorem ins_own_eq {s : Nat} {w : World} {rs vs tl : List (List Value)} {B i n c : Nat} (h : OwS s w (.slice (some ⟨B, 0, none⟩) (rs.take i ++ (vs ++ rs.drop i)).length ((rs.take i ++ (vs ++ rs.drop i)) ++ tl).length) (rs.take i ++ (vs ++ rs.drop i)) B) (hi : i ≤ rs.length) (hn : rs.length + vs.length = n) (hc : ((rs.take i ++ (vs ++ rs.drop i)) ++ tl).length = c) : OwS s w (.slice (some ⟨B, 0, none⟩) n c) (rs.take i ++ (vs ++ rs.drop i)) B := by
  have e : (rs.take i ++ (vs ++ rs.drop i)).length = n := by simp; omega
  rw [e, hc] at h
  exact h
theorem GrowB.new_or {B B' : Nat} {w w' : World} (h : GrowB B B' w w') : B' = B ∨ w.heap.size ≤ B' := h.new
set_option maxHeartbeats 1000000 in
theorem insertBond_v (rs sp vs vp : List (List Value)) (i : Nat) (B C : Nat) (w : World) (L : List Nat) (hL : LL (B :: L) w) (hO : RwB 4 w B (rs ++ sp)) (hV : RwB 4 w C (vs ++ vp)) (hCB : C ≠ B) (hi : i ≤ rs.length) (hvs : vs ≠ []) (hsm : (rs.length + vs.length) * 56 ≤ 140737488355328) (hone : ∀ r ∈ rs, ∀ u ∈ r, u.oneCell' = true) (hvone : ∀ r ∈ vs, ∀ u ∈ r, u.oneCell' = true) : CW Tryz.prog 61 [.slice (some ⟨B, 0, none⟩) rs.length ((rs ++ sp).length), .int .i64 (i : Int), .slice (some ⟨C, 0, none⟩) vs.length ((vs ++ vp).length)] w B fun v W => ∃ B', OwS 4 W v (rs.take i ++ (vs ++ rs.drop i)) B' ∧ (B' = B ∨ w.heap.size ≤ B') := by
  refine cw_enter (N := 95) (f := [(0, .slice (some ⟨B, 0, none⟩) rs.length ((rs ++ sp).length)), (1, .int .i64 (i : Int)), (2, .slice (some ⟨C, 0, none⟩) vs.length ((vs ++ vp).length))]) Tryz.func61 rfl rfl rfl rfl fun Q hQ hE => ?_
  have hB := Chg.refl B w
  have hlen : (rs ++ sp).length = rs.length + sp.length := List.length_append
  have hm0 := List.length_pos_iff.2 hvs
  refine WC.seq fun K1 hK1 => ?_
  refine WC.region ?_
  refine WL.val (dx_assign rfl rfl) rfl rfl ?_
  refine WL.nil ?_
  refine hK1 ?_
  refine WC.seq fun K2 hK2 => ?_
  refine WC.region ?_
  refine WL.val (dx_move rfl rfl) rfl rfl ?_
  refine WL.val (dx_move rfl rfl) rfl rfl ?_
  refine WL.val (dx_slL i rfl ty_slice_38 rfl rfl rfl (by omega) (by omega)) rfl rfl ?_
  refine WL.nil ?_
  refine hK2 ?_
  refine WC.seq fun K3 hK3 => ?_
  refine WC.region ?_
  refine WL.val (dx_move rfl rfl) rfl rfl ?_
  refine WL.val (dx_len rfl Tryz.underlying38 rfl) rfl rfl ?_
  refine WL.val (dx_assign rfl rfl) rfl rfl ?_
  refine WL.nil ?_
  refine hK3 ?_
  refine WC.seq fun K4 hK4 => ?_
  refine WC.seq fun K5 hK5 => ?_
  refine WC.region ?_
  refine WL.val (dx_move rfl rfl) rfl rfl ?_
  refine WL.val (dx_eql rfl rfl rfl) rfl rfl ?_
  refine WL.nil ?_
  refine hK5 ?_
  refine WC.cond rfl (fun c6 => ?_) (fun c6 => ?_)
  ·
    replace c6 := of_decide_eq_true c6
    exfalso; omega
  ·
    replace c6 := of_decide_eq_false c6
    refine WC.skip ?_
    refine hK4 ?_
    refine WC.seq fun K7 hK7 => ?_
    refine WC.region ?_
    refine WL.val (dx_move rfl rfl) rfl rfl ?_
    refine WL.val (dx_len rfl Tryz.underlying38 rfl) rfl rfl ?_
    refine WL.val (dx_assign rfl rfl) rfl rfl ?_
    refine WL.nil ?_
    refine hK7 ?_
    refine WC.seq fun K8 hK8 => ?_
    refine WC.seq fun K9 hK9 => ?_
    refine WC.region ?_
    refine WL.val (dx_move rfl rfl) rfl rfl ?_
    refine WL.val (dx_move rfl rfl) rfl rfl ?_
    refine WL.val (dx_eql rfl rfl rfl) rfl rfl ?_
    refine WL.nil ?_
    refine hK9 ?_
    refine WC.cond rfl (fun c10 => ?_) (fun c10 => ?_)
    ·
      replace c10 := of_decide_eq_true c10
      refine WC.seq fun K11 hK11 => ?_
      refine WC.region ?_
      refine WL.val (dx_move rfl rfl) rfl rfl ?_
      refine WL.val (dx_move rfl rfl) rfl rfl ?_
      refine WL.get (dx_apO' (rs := rs) (news := vs) rfl ty_ap_38 rfl rfl hO.own (hV.rd (L := []) (by simp)) hvone (by unfold maxLen; omega) (by omega)) rfl rfl ?_
      rintro u16 W12 ⟨B13, k14, g15⟩
      replace hB := hB.grow g15 (.inl rfl)
      refine WL.val (dx_assign rfl rfl) rfl rfl ?_
      refine WL.nil ?_
      refine hK11 ?_
      refine WC.ret fun a_ ha_ => ?_
      exact hQ (cw_ret1 rfl (.tmp rfl) ⟨B13, (by have e : i = rs.length := (by omega); rw [e, List.take_length, List.drop_length, List.append_nil]; exact k14), g15.new_or⟩ hB ha_)
    ·
      replace c10 := of_decide_eq_false c10
      refine WC.skip ?_
      refine hK8 ?_
      refine WC.seq fun K17 hK17 => ?_
      refine WC.seq fun K18 hK18 => ?_
      refine WC.region ?_
      refine WL.val (dx_move rfl rfl) rfl rfl ?_
      refine WL.val (dx_move rfl rfl) rfl rfl ?_
      refine WL.val (dx_add (r := ((rs.length + vs.length : Nat) : Int)) rfl rfl rfl (by rw [wrap64_id (by omega)]; omega)) rfl rfl ?_
      refine WL.val (dx_move rfl rfl) rfl rfl ?_
      refine WL.val (dx_cap rfl Tryz.underlying38 rfl) rfl rfl ?_
      refine WL.val (dx_gtr rfl rfl rfl) rfl rfl ?_
      refine WL.nil ?_
      refine hK18 ?_
      refine WC.cond rfl (fun c19 => ?_) (fun c19 => ?_)
      ·
        replace c19 := of_decide_eq_true c19
        refine WC.seq fun K20 hK20 => ?_
        refine WC.region ?_
        refine WL.val (dx_move rfl rfl) rfl rfl ?_
        refine WL.val (dx_move rfl rfl) rfl rfl ?_
        refine WL.val (dx_slH i rfl ty_slice_38 rfl rfl rfl (by omega)) rfl rfl ?_
        refine WL.val (dx_move rfl rfl) rfl rfl ?_
        refine WL.val (dx_move rfl rfl) rfl rfl ?_
        refine WL.val (dx_add (r := ((rs.length + vs.length : Nat) : Int)) rfl rfl rfl (by rw [wrap64_id (by omega)]; omega)) rfl rfl ?_
        refine WL.val (dx_move rfl rfl) rfl rfl ?_
        refine WL.val (dx_sub (r := ((rs.length + vs.length - i : Nat) : Int)) rfl rfl rfl (by rw [wrap64_id (by omega)]; omega)) rfl rfl ?_
        refine WL.get (dx_apZ (rs.length + vs.length - i) (R := (rs ++ sp)) rfl ty_ap_38 Tryz.underlying3 rfl rfl rfl hO (by omega) (by omega) (by unfold maxLen; omega) (by omega)) rfl rfl ?_
        rintro _ W1 ⟨Z, rfl, hz1, hz2, kZ, bZ, zZ⟩
        have nB : B ≠ w.heap.size := Nat.ne_of_lt hO.lt
        have nC : C ≠ w.heap.size := Nat.ne_of_lt hV.lt
        replace hO := hO.below bZ
        replace hV := hV.below bZ
        replace hB := hB.thenB bZ
        replace hL := LL.more hL zZ
        have hz3 : Z.take i = rs.take i := (by rw [hz2]; exact List.take_append_of_le_length hi)
        have ez : i + (rs.length + vs.length - i) = rs.length + vs.length := (by omega)
        rw [ez] at hz1
        refine WL.val (dx_assign rfl rfl) rfl rfl ?_
        refine WL.nil ?_
        refine hK20 ?_
        refine WC.seq fun K21 hK21 => ?_
        refine WC.region ?_
        refine WL.val (dx_move rfl rfl) rfl rfl ?_
        refine WL.val (dx_move rfl rfl) rfl rfl ?_
        refine WL.val (dx_slL i rfl ty_slice_38 rfl rfl rfl (by omega) (by omega)) rfl rfl ?_
        refine WL.val (dx_move rfl rfl) rfl rfl ?_
        refine WL.get (dx_cpV (B := w.heap.size) (R := Z) (news := vs) (lo := i) (n := (i + (rs.length + vs.length - i) - i)) rfl ty_slice_38 rfl (fun hn => by rw [offV_in (n := (i + (rs.length + vs.length - i) - i)) hn (by omega)]; simp) rfl kZ (hV.rd (L := []) (by simp)) (fun r hr => hvone r (List.mem_of_mem_take hr)) (by omega)) rfl rfl ?_
        rintro _ W22 ⟨rfl, k23, o24⟩
        replace hB := hB.only o24 (.inr (Nat.le_refl _))
        replace hL := LL.only hL o24
        replace hO := hO.other o24 nB
        replace hV := hV.other o24 nC
        rw [List.take_of_length_le (l := vs) (by omega), show min vs.length (i + (rs.length + vs.length - i) - i) = vs.length by omega] at k23
        have l3 : (Z.take i ++ (vs ++ Z.drop (i + vs.length))).length = Z.length := (by simp; omega)
        have hg := ins_grow (vs := vs) hi hz1 hz3
        simp only at hg
        refine WL.nil ?_
        refine hK21 ?_
        refine WC.seq fun K25 hK25 => ?_
        refine WC.drawM 8 [(some 46, .is (.slice (some ⟨w.heap.size, 0, none⟩) (i + (rs.length + vs.length - i)) Z.length)), (some 47, .is (.int .i64 (i : Int))), (some 48, .is (.int .i64 (vs.length : Int))), (some 49, .is (.int .i64 ((i + vs.length : Nat) : Int))), (some 50, .is (.slice (some ⟨w.heap.size, (offV Z.length (i + vs.length) 0 4), none⟩) ((i + (rs.length + vs.length - i)) - (i + vs.length)) (Z.length - (i + vs.length)))), (some 51, .is (.slice (some ⟨B, 0, none⟩) rs.length ((rs ++ sp).length))), (some 52, .is (.int .i64 (i : Int))), (some 53, .is (.slice (some ⟨B, (offV ((rs ++ sp).length) i 0 4), none⟩) (rs.length - i) ((rs ++ sp).length - i)))] [[], [], [], [1, 2], [0, 3], [], [], [5, 6]] (by kernel_rfl) (by kernel_rfl) (by kernel_rfl) (by kernel_rfl) (by kernel_rfl) (by kernel_rfl) (by kernel_rfl) (by exact trivial) ?_ ?_
        ·
          refine DSteps.cons (fun Wd hd => ?_) ?_
          ·
            exact DV.dr (dx_move rfl rfl) ⟨Below.refl _ _, rfl⟩
          refine DSteps.cons (fun Wd hd => ?_) ?_
          ·
            exact DV.dr (dx_move rfl rfl) ⟨Below.refl _ _, rfl⟩
          refine DSteps.cons (fun Wd hd => ?_) ?_
          ·
            exact DV.dr (dx_move rfl rfl) ⟨Below.refl _ _, rfl⟩
          refine DSteps.cons (fun Wd hd => ?_) ?_
          ·
            exact DV.dr (dx_add (r := ((i + vs.length : Nat) : Int)) rfl rfl rfl (by rw [wrap64_id (by omega)]; omega)) ⟨Below.refl _ _, rfl⟩
          refine DSteps.cons (fun Wd hd => ?_) ?_
          ·
            exact DV.dr (dx_slL (i + vs.length) rfl ty_slice_38 rfl rfl rfl (by omega) (by omega)) ⟨Below.refl _ _, rfl⟩
          refine DSteps.cons (fun Wd hd => ?_) ?_
          ·
            exact DV.dr (dx_move rfl rfl) ⟨Below.refl _ _, rfl⟩
          refine DSteps.cons (fun Wd hd => ?_) ?_
          ·
            exact DV.dr (dx_move rfl rfl) ⟨Below.refl _ _, rfl⟩
          refine DSteps.cons (fun Wd hd => ?_) ?_
          ·
            exact DV.dr (dx_slL i rfl ty_slice_38 rfl rfl rfl (by omega) (by omega)) ⟨Below.refl _ _, rfl⟩
          exact trivial
        ·
          intro W26 b27
          replace hO := hO.below b27
          replace hV := hV.below b27
          replace k23 := k23.below b27
          replace hB := hB.thenB b27
          replace hL := LL.below hL b27
          refine WL.get (dx_cpV (B := w.heap.size) (R := (Z.take i ++ (vs ++ Z.drop (i + vs.length)))) (news := (((rs ++ sp).drop i).take (rs.length - i))) (lo := (i + vs.length)) (n := (i + (rs.length + vs.length - i) - (i + vs.length))) rfl ty_slice_38 rfl (fun hn => by rw [offV_in (n := (i + (rs.length + vs.length - i) - (i + vs.length))) hn (by omega)]; simp) rfl k23 (hO.part (L := []) (lo := i) (n := rs.length - i) (by simp) (fun hn => by rw [offV_in (n := rs.length - i) hn (by rw [hlen]; omega)]; simp) (by rw [hlen]; omega) (by rw [hlen]; omega)) (fun r hr => hone r (mem_tail hi (List.mem_of_mem_take hr))) (by omega)) rfl rfl ?_
          rintro _ W28 ⟨rfl, k29, o30⟩
          replace hB := hB.only o30 (.inr (Nat.le_refl _))
          replace hL := LL.only hL o30
          replace hO := hO.other o30 nB
          replace hV := hV.other o30 nC
          rw [show ((rs ++ sp).drop i).take (rs.length - i) = rs.drop i from del_tail hi] at k29
          rw [List.take_of_length_le (l := rs.drop i) (by rw [List.length_drop]; omega), List.length_drop, show min (rs.length - i) (i + (rs.length + vs.length - i) - (i + vs.length)) = rs.length - i by omega, hg] at k29
          have hown := k29.own
          refine WL.nil ?_
          refine hK25 ?_
          refine WC.seq fun K31 hK31 => ?_
          refine WC.region ?_
          refine WL.val (dx_move rfl rfl) rfl rfl ?_
          refine WL.val (dx_assign rfl rfl) rfl rfl ?_
          refine WL.nil ?_
          refine hK31 ?_
          refine WC.ret fun a_ ha_ => ?_
          exact hQ (cw_ret1 rfl (.tmp rfl) ⟨w.heap.size, ins_own_eq hown hi ez.symm (by simp; omega), .inr (Nat.le_refl _)⟩ hB ha_)
      ·
        replace c19 := of_decide_eq_false c19
        refine WC.skip ?_
        refine hK17 ?_
        refine WC.seq fun K32 hK32 => ?_
        refine WC.region ?_
        refine WL.val (dx_move rfl rfl) rfl rfl ?_
        refine WL.val (dx_move rfl rfl) rfl rfl ?_
        refine WL.val (dx_move rfl rfl) rfl rfl ?_
        refine WL.val (dx_add (r := ((rs.length + vs.length : Nat) : Int)) rfl rfl rfl (by rw [wrap64_id (by omega)]; omega)) rfl rfl ?_
        refine WL.val (dx_slH (rs.length + vs.length) rfl ty_slice_38 rfl rfl rfl (by omega)) rfl rfl ?_
        refine WL.val (dx_assign rfl rfl) rfl rfl ?_
        refine WL.nil ?_
        refine hK32 ?_
        refine WC.seq fun K33 hK33 => ?_
        refine WC.seq fun K34 hK34 => ?_
        refine WC.region ?_
        refine WL.val (dx_move rfl rfl) rfl rfl ?_
        refine WL.val (dx_move rfl rfl) rfl rfl ?_
        refine WL.val (dx_move rfl rfl) rfl rfl ?_
        refine WL.val (dx_move rfl rfl) rfl rfl ?_
        refine WL.val (dx_add (r := ((i + vs.length : Nat) : Int)) rfl rfl rfl (by rw [wrap64_id (by omega)]; omega)) rfl rfl ?_
        refine WL.val (dx_slL (i + vs.length) rfl ty_slice_38 rfl rfl rfl (by omega) (by omega)) rfl rfl ?_
        refine WL.val (dx_ovl (U := (rs ++ sp)) (V := (vs ++ vp)) (s := 4) (tR := 4) rfl Tryz.func84 (by kernel_rfl) (by kernel_rfl) (by kernel_rfl) (by kernel_rfl) ty_slice_38 rfl rfl hV hO hCB (by intro e; rw [e] at hlen; simp only [List.length_nil] at hlen; omega)) rfl rfl ?_
        refine WL.val (dx_not rfl rfl) rfl rfl ?_
        refine WL.nil ?_
        refine hK34 ?_
        refine WC.condT rfl ?_
        refine WC.seq fun K35 hK35 => ?_
        refine WC.drawM 8 [(some 69, .is (.slice (some ⟨B, 0, none⟩) (rs.length + vs.length) ((rs ++ sp).length))), (some 70, .is (.int .i64 (i : Int))), (some 71, .is (.int .i64 (vs.length : Int))), (some 72, .is (.int .i64 ((i + vs.length : Nat) : Int))), (some 73, .is (.slice (some ⟨B, (offV ((rs ++ sp).length) (i + vs.length) 0 4), none⟩) ((rs.length + vs.length) - (i + vs.length)) ((rs ++ sp).length - (i + vs.length)))), (some 74, .is (.slice (some ⟨B, 0, none⟩) (rs.length + vs.length) ((rs ++ sp).length))), (some 75, .is (.int .i64 (i : Int))), (some 76, .is (.slice (some ⟨B, (offV ((rs ++ sp).length) i 0 4), none⟩) ((rs.length + vs.length) - i) ((rs ++ sp).length - i)))] [[], [], [], [1, 2], [0, 3], [], [], [5, 6]] (by kernel_rfl) (by kernel_rfl) (by kernel_rfl) (by kernel_rfl) (by kernel_rfl) (by kernel_rfl) (by kernel_rfl) (by exact trivial) ?_ ?_
        ·
          refine DSteps.cons (fun Wd hd => ?_) ?_
          ·
            exact DV.dr (dx_move rfl rfl) ⟨Below.refl _ _, rfl⟩
          refine DSteps.cons (fun Wd hd => ?_) ?_
          ·
            exact DV.dr (dx_move rfl rfl) ⟨Below.refl _ _, rfl⟩
          refine DSteps.cons (fun Wd hd => ?_) ?_
          ·
            exact DV.dr (dx_move rfl rfl) ⟨Below.refl _ _, rfl⟩
          refine DSteps.cons (fun Wd hd => ?_) ?_
          ·
            exact DV.dr (dx_add (r := ((i + vs.length : Nat) : Int)) rfl rfl rfl (by rw [wrap64_id (by omega)]; omega)) ⟨Below.refl _ _, rfl⟩
          refine DSteps.cons (fun Wd hd => ?_) ?_
          ·
            exact DV.dr (dx_slL (i + vs.length) rfl ty_slice_38 rfl rfl rfl (by omega) (by omega)) ⟨Below.refl _ _, rfl⟩
          refine DSteps.cons (fun Wd hd => ?_) ?_
          ·
            exact DV.dr (dx_move rfl rfl) ⟨Below.refl _ _, rfl⟩
          refine DSteps.cons (fun Wd hd => ?_) ?_
          ·
            exact DV.dr (dx_move rfl rfl) ⟨Below.refl _ _, rfl⟩
          refine DSteps.cons (fun Wd hd => ?_) ?_
          ·
            exact DV.dr (dx_slL i rfl ty_slice_38 rfl rfl rfl (by omega) (by omega)) ⟨Below.refl _ _, rfl⟩
          exact trivial
        ·
          intro W36 b37
          replace hO := hO.below b37
          replace hV := hV.below b37
          replace hB := hB.thenB b37
          replace hL := LL.below hL b37
          refine WL.get (dx_cpV (B := B) (R := (rs ++ sp)) (news := (((rs ++ sp).drop i).take (rs.length + vs.length - i))) (lo := (i + vs.length)) (n := (rs.length + vs.length - (i + vs.length))) rfl ty_slice_38 rfl (fun hn => by rw [offV_in (n := (rs.length + vs.length - (i + vs.length))) hn (by omega)]; simp) rfl hO (hO.part (L := []) (lo := i) (n := rs.length + vs.length - i) (by simp) (fun hn => by rw [offV_in (n := rs.length + vs.length - i) hn (by omega)]; simp) (by omega) (by omega)) (fun r hr => hone r (mem_tail2 hi (by omega) (by omega) hr)) (by omega)) rfl rfl ?_
          rintro _ W38 ⟨rfl, k39, o40⟩
          replace hB := hB.only o40 (.inl rfl)
          replace hL := LL.only hL o40
          replace hV := hV.other o40 hCB
          have ll : (((rs ++ sp).drop i).take (rs.length + vs.length - i)).length = rs.length + vs.length - i := (by rw [List.length_take, List.length_drop]; omega)
          rw [ll, show min (rs.length + vs.length - i) (rs.length + vs.length - (i + vs.length)) = rs.length - i by omega, show rs.length + vs.length - (i + vs.length) = rs.length - i by omega] at k39
          have l3 : ((rs ++ sp).take (i + vs.length) ++ ((((rs ++ sp).drop i).take (rs.length + vs.length - i)).take (rs.length - i) ++ (rs ++ sp).drop (i + vs.length + (rs.length - i)))).length = (rs ++ sp).length := (by simp; omega)
          have hg := ins_room (vs := vs) (sp := sp) hi (by omega)
          simp only at hg
          refine WL.nil ?_
          refine hK35 ?_
          refine WC.seq fun K41 hK41 => ?_
          refine WC.region ?_
          refine WL.val (dx_move rfl rfl) rfl rfl ?_
          refine WL.val (dx_move rfl rfl) rfl rfl ?_
          refine WL.val (dx_slL i rfl ty_slice_38 rfl rfl rfl (by omega) (by omega)) rfl rfl ?_
          refine WL.val (dx_move rfl rfl) rfl rfl ?_
          refine WL.get (dx_cpV (B := B) (R := ((rs ++ sp).take (i + vs.length) ++ ((((rs ++ sp).drop i).take (rs.length + vs.length - i)).take (rs.length - i) ++ (rs ++ sp).drop (i + vs.length + (rs.length - i))))) (news := vs) (lo := i) (n := (rs.length + vs.length - i)) rfl ty_slice_38 rfl (fun hn => by rw [offV_in (n := (rs.length + vs.length - i)) hn (by omega)]; simp) rfl k39 (hV.rd (L := []) (by simp)) (fun r hr => hvone r (List.mem_of_mem_take hr)) (by omega)) rfl rfl ?_
          rintro _ W42 ⟨rfl, k43, o44⟩
          replace hB := hB.only o44 (.inl rfl)
          replace hL := LL.only hL o44
          replace hV := hV.other o44 hCB
          rw [List.take_of_length_le (l := vs) (by omega), show min vs.length (rs.length + vs.length - i) = vs.length by omega, hg] at k43
          have hown := k43.own
          refine WL.nil ?_
          refine hK41 ?_
          refine WC.seq fun K45 hK45 => ?_
          refine WC.region ?_
          refine WL.val (dx_move rfl rfl) rfl rfl ?_
          refine WL.val (dx_assign rfl rfl) rfl rfl ?_
          refine WL.nil ?_
          refine hK45 ?_
          refine WC.ret fun a_ ha_ => ?_
          exact hQ (cw_ret1 rfl (.tmp rfl) ⟨B, ins_own_eq hown hi rfl (by simp; omega), .inl rfl⟩ hB ha_)

set_option maxHeartbeats 1000000 in
theorem insertNBond_v (vs vp : List (List Value)) (C : Nat) (w : World) (L : List Nat) (hL : LL L w)   (hV : RwB 4 w C (vs ++ vp)) (hvs : vs ≠ []) (hsm : vs.length * 56 ≤ 140737488355328) : CV Tryz.prog 61 [.slice none 0 0, .int .i64 0, .slice (some ⟨C, 0, none⟩) vs.length ((vs ++ vp).length)] w fun v W => ∃ B, w.heap.size ≤ B ∧ OwS 4 W v vs B := by
  refine cv_enter (N := 95) (f := [(0, .slice none 0 0), (1, .int .i64 0), (2, .slice (some ⟨C, 0, none⟩) vs.length ((vs ++ vp).length))]) Tryz.func61 rfl rfl rfl rfl fun Q hQ hE => ?_
  have hB := Below.refl w.heap.size w
  have hm0 := List.length_pos_iff.2 hvs
  refine WC.seq fun K1 hK1 => ?_
  refine WC.region ?_
  refine WL.val (dx_assign rfl rfl) rfl rfl ?_
  refine WL.nil ?_
  refine hK1 ?_
  refine WC.seq fun K2 hK2 => ?_
  refine WC.region ?_
  refine WL.val (dx_move rfl rfl) rfl rfl ?_
  refine WL.val (dx_move rfl rfl) rfl rfl ?_
  refine WL.val (dx_slN rfl ty_slice_38 rfl rfl) rfl rfl ?_
  refine WL.nil ?_
  refine hK2 ?_
  refine WC.seq fun K3 hK3 => ?_
  refine WC.region ?_
  refine WL.val (dx_move rfl rfl) rfl rfl ?_
  refine WL.val (dx_len rfl Tryz.underlying38 rfl) rfl rfl ?_
  refine WL.val (dx_assign rfl rfl) rfl rfl ?_
  refine WL.nil ?_
  refine hK3 ?_
  refine WC.seq fun K4 hK4 => ?_
  refine WC.seq fun K5 hK5 => ?_
  refine WC.region ?_
  refine WL.val (dx_move rfl rfl) rfl rfl ?_
  refine WL.val (dx_eql rfl rfl rfl) rfl rfl ?_
  refine WL.nil ?_
  refine hK5 ?_
  refine WC.cond rfl (fun c6 => ?_) (fun c6 => ?_)
  ·
    replace c6 := of_decide_eq_true c6
    exfalso; omega
  ·
    replace c6 := of_decide_eq_false c6
    refine WC.skip ?_
    refine hK4 ?_
    refine WC.seq fun K7 hK7 => ?_
    refine WC.region ?_
    refine WL.val (dx_move rfl rfl) rfl rfl ?_
    refine WL.val (dx_len rfl Tryz.underlying38 rfl) rfl rfl ?_
    refine WL.val (dx_assign rfl rfl) rfl rfl ?_
    refine WL.nil ?_
    refine hK7 ?_
    refine WC.seq fun K8 hK8 => ?_
    refine WC.seq fun K9 hK9 => ?_
    refine WC.region ?_
    refine WL.val (dx_move rfl rfl) rfl rfl ?_
    refine WL.val (dx_move rfl rfl) rfl rfl ?_
    refine WL.val (dx_eql rfl rfl rfl) rfl rfl ?_
    refine WL.nil ?_
    refine hK9 ?_
    refine WC.cond rfl (fun c10 => ?_) (fun c10 => ?_)
    ·
      replace c10 := of_decide_eq_true c10
      refine WC.seq fun K11 hK11 => ?_
      refine WC.region ?_
      refine WL.val (dx_move rfl rfl) rfl rfl ?_
      refine WL.val (dx_move rfl rfl) rfl rfl ?_
      refine WL.get (dx_apF (rs := []) (news := vs) rfl ty_ap_38 rfl rfl (RdF.nil (L := []) (by decide)) (hV.rd (L := []) (by simp)) hvs (by simp; unfold maxLen; omega) (by simp; omega)) rfl rfl ?_
      rintro u16 W12 ⟨k13, b14, z15⟩
      replace hB := below_then hB b14
      refine WL.val (dx_assign rfl rfl) rfl rfl ?_
      refine WL.nil ?_
      refine hK11 ?_
      refine WC.ret fun a_ ha_ => ?_
      exact hQ (cv_ret1 rfl (.tmp rfl) ⟨w.heap.size, Nat.le_refl _, k13⟩ hB ha_)
    ·
      replace c10 := of_decide_eq_false c10
      exact absurd rfl c10

set_option maxHeartbeats 1000000 in
theorem insertUser_v (rs sp vs vp : List (List Value)) (i : Nat) (B C : Nat) (w : World) (L : List Nat) (hL : LL (B :: L) w) (hO : RwB 3 w B (rs ++ sp)) (hV : RwB 3 w C (vs ++ vp)) (hCB : C ≠ B) (hi : i ≤ rs.length) (hvs : vs ≠ []) (hsm : (rs.length + vs.length) * 56 ≤ 140737488355328) (hone : ∀ r ∈ rs, ∀ u ∈ r, u.oneCell' = true) (hvone : ∀ r ∈ vs, ∀ u ∈ r, u.oneCell' = true) : CW Tryz.prog 42 [.slice (some ⟨B, 0, none⟩) rs.length ((rs ++ sp).length), .int .i64 (i : Int), .slice (some ⟨C, 0, none⟩) vs.length ((vs ++ vp).length)] w B fun v W => ∃ B', OwS 3 W v (rs.take i ++ (vs ++ rs.drop i)) B' ∧ (B' = B ∨ w.heap.size ≤ B') := by
  refine cw_enter (N := 95) (f := [(0, .slice (some ⟨B, 0, none⟩) rs.length ((rs ++ sp).length)), (1, .int .i64 (i : Int)), (2, .slice (some ⟨C, 0, none⟩) vs.length ((vs ++ vp).length))]) Tryz.func42 rfl rfl rfl rfl fun Q hQ hE => ?_
  have hB := Chg.refl B w
  have hlen : (rs ++ sp).length = rs.length + sp.length := List.length_append
  have hm0 := List.length_pos_iff.2 hvs
  refine WC.seq fun K1 hK1 => ?_
  refine WC.region ?_
  refine WL.val (dx_assign rfl rfl) rfl rfl ?_
  refine WL.nil ?_
  refine hK1 ?_
  refine WC.seq fun K2 hK2 => ?_
  refine WC.region ?_
  refine WL.val (dx_move rfl rfl) rfl rfl ?_
  refine WL.val (dx_move rfl rfl) rfl rfl ?_
  refine WL.val (dx_slL i rfl ty_slice_22 rfl rfl rfl (by omega) (by omega)) rfl rfl ?_
  refine WL.nil ?_
  refine hK2 ?_
  refine WC.seq fun K3 hK3 => ?_
  refine WC.region ?_
  refine WL.val (dx_move rfl rfl) rfl rfl ?_
  refine WL.val (dx_len rfl Tryz.underlying22 rfl) rfl rfl ?_
  refine WL.val (dx_assign rfl rfl) rfl rfl ?_
  refine WL.nil ?_
  refine hK3 ?_
  refine WC.seq fun K4 hK4 => ?_
  refine WC.seq fun K5 hK5 => ?_
  refine WC.region ?_
  refine WL.val (dx_move rfl rfl) rfl rfl ?_
  refine WL.val (dx_eql rfl rfl rfl) rfl rfl ?_
  refine WL.nil ?_
  refine hK5 ?_
  refine WC.cond rfl (fun c6 => ?_) (fun c6 => ?_)
  ·
    replace c6 := of_decide_eq_true c6
    exfalso; omega
  ·
    replace c6 := of_decide_eq_false c6
    refine WC.skip ?_
    refine hK4 ?_
    refine WC.seq fun K7 hK7 => ?_
    refine WC.region ?_
    refine WL.val (dx_move rfl rfl) rfl rfl ?_
    refine WL.val (dx_len rfl Tryz.underlying22 rfl) rfl rfl ?_
    refine WL.val (dx_assign rfl rfl) rfl rfl ?_
    refine WL.nil ?_
    refine hK7 ?_
    refine WC.seq fun K8 hK8 => ?_
    refine WC.seq fun K9 hK9 => ?_
    refine WC.region ?_
    refine WL.val (dx_move rfl rfl) rfl rfl ?_
    refine WL.val (dx_move rfl rfl) rfl rfl ?_
    refine WL.val (dx_eql rfl rfl rfl) rfl rfl ?_
    refine WL.nil ?_
    refine hK9 ?_
    refine WC.cond rfl (fun c10 => ?_) (fun c10 => ?_)
    ·
      replace c10 := of_decide_eq_true c10
      refine WC.seq fun K11 hK11 => ?_
      refine WC.region ?_
      refine WL.val (dx_move rfl rfl) rfl rfl ?_
      refine WL.val (dx_move rfl rfl) rfl rfl ?_
      refine WL.get (dx_apO' (rs := rs) (news := vs) rfl ty_ap_22 rfl rfl hO.own (hV.rd (L := []) (by simp)) hvone (by unfold maxLen; omega) (by omega)) rfl rfl ?_
      rintro u16 W12 ⟨B13, k14, g15⟩
      replace hB := hB.grow g15 (.inl rfl)
      refine WL.val (dx_assign rfl rfl) rfl rfl ?_
      refine WL.nil ?_
      refine hK11 ?_
      refine WC.ret fun a_ ha_ => ?_
      exact hQ (cw_ret1 rfl (.tmp rfl) ⟨B13, (by have e : i = rs.length := (by omega); rw [e, List.take_length, List.drop_length, List.append_nil]; exact k14), g15.new_or⟩ hB ha_)
    ·
      replace c10 := of_decide_eq_false c10
      refine WC.skip ?_
      refine hK8 ?_
      refine WC.seq fun K17 hK17 => ?_
      refine WC.seq fun K18 hK18 => ?_
      refine WC.region ?_
      refine WL.val (dx_move rfl rfl) rfl rfl ?_
      refine WL.val (dx_move rfl rfl) rfl rfl ?_
      refine WL.val (dx_add (r := ((rs.length + vs.length : Nat) : Int)) rfl rfl rfl (by rw [wrap64_id (by omega)]; omega)) rfl rfl ?_
      refine WL.val (dx_move rfl rfl) rfl rfl ?_
      refine WL.val (dx_cap rfl Tryz.underlying22 rfl) rfl rfl ?_
      refine WL.val (dx_gtr rfl rfl rfl) rfl rfl ?_
      refine WL.nil ?_
      refine hK18 ?_
      refine WC.cond rfl (fun c19 => ?_) (fun c19 => ?_)
      ·
        replace c19 := of_decide_eq_true c19
        refine WC.seq fun K20 hK20 => ?_
        refine WC.region ?_
        refine WL.val (dx_move rfl rfl) rfl rfl ?_
        refine WL.val (dx_move rfl rfl) rfl rfl ?_
        refine WL.val (dx_slH i rfl ty_slice_22 rfl rfl rfl (by omega)) rfl rfl ?_
        refine WL.val (dx_move rfl rfl) rfl rfl ?_
        refine WL.val (dx_move rfl rfl) rfl rfl ?_
        refine WL.val (dx_add (r := ((rs.length + vs.length : Nat) : Int)) rfl rfl rfl (by rw [wrap64_id (by omega)]; omega)) rfl rfl ?_
        refine WL.val (dx_move rfl rfl) rfl rfl ?_
        refine WL.val (dx_sub (r := ((rs.length + vs.length - i : Nat) : Int)) rfl rfl rfl (by rw [wrap64_id (by omega)]; omega)) rfl rfl ?_
        refine WL.get (dx_apZ (rs.length + vs.length - i) (R := (rs ++ sp)) rfl ty_ap_22 Tryz.underlying3 rfl rfl rfl hO (by omega) (by omega) (by unfold maxLen; omega) (by omega)) rfl rfl ?_
        rintro _ W1 ⟨Z, rfl, hz1, hz2, kZ, bZ, zZ⟩
        have nB : B ≠ w.heap.size := Nat.ne_of_lt hO.lt
        have nC : C ≠ w.heap.size := Nat.ne_of_lt hV.lt
        replace hO := hO.below bZ
        replace hV := hV.below bZ
        replace hB := hB.thenB bZ
        replace hL := LL.more hL zZ
        have hz3 : Z.take i = rs.take i := (by rw [hz2]; exact List.take_append_of_le_length hi)
        have ez : i + (rs.length + vs.length - i) = rs.length + vs.length := (by omega)
        rw [ez] at hz1
        refine WL.val (dx_assign rfl rfl) rfl rfl ?_
        refine WL.nil ?_
        refine hK20 ?_
        refine WC.seq fun K21 hK21 => ?_
        refine WC.region ?_
        refine WL.val (dx_move rfl rfl) rfl rfl ?_
        refine WL.val (dx_move rfl rfl) rfl rfl ?_
        refine WL.val (dx_slL i rfl ty_slice_22 rfl rfl rfl (by omega) (by omega)) rfl rfl ?_
        refine WL.val (dx_move rfl rfl) rfl rfl ?_
        refine WL.get (dx_cpV (B := w.heap.size) (R := Z) (news := vs) (lo := i) (n := (i + (rs.length + vs.length - i) - i)) rfl ty_slice_22 rfl (fun hn => by rw [offV_in (n := (i + (rs.length + vs.length - i) - i)) hn (by omega)]; simp) rfl kZ (hV.rd (L := []) (by simp)) (fun r hr => hvone r (List.mem_of_mem_take hr)) (by omega)) rfl rfl ?_
        rintro _ W22 ⟨rfl, k23, o24⟩
        replace hB := hB.only o24 (.inr (Nat.le_refl _))
        replace hL := LL.only hL o24
        replace hO := hO.other o24 nB
        replace hV := hV.other o24 nC
        rw [List.take_of_length_le (l := vs) (by omega), show min vs.length (i + (rs.length + vs.length - i) - i) = vs.length by omega] at k23
        have l3 : (Z.take i ++ (vs ++ Z.drop (i + vs.length))).length = Z.length := (by simp; omega)
        have hg := ins_grow (vs := vs) hi hz1 hz3
        simp only at hg
        refine WL.nil ?_
        refine hK21 ?_
        refine WC.seq fun K25 hK25 => ?_
        refine WC.drawM 8 [(some 46, .is (.slice (some ⟨w.heap.size, 0, none⟩) (i + (rs.length + vs.length - i)) Z.length)), (some 47, .is (.int .i64 (i : Int))), (some 48, .is (.int .i64 (vs.length : Int))), (some 49, .is (.int .i64 ((i + vs.length : Nat) : Int))), (some 50, .is (.slice (some ⟨w.heap.size, (offV Z.length (i + vs.length) 0 3), none⟩) ((i + (rs.length + vs.length - i)) - (i + vs.length)) (Z.length - (i + vs.length)))), (some 51, .is (.slice (some ⟨B, 0, none⟩) rs.length ((rs ++ sp).length))), (some 52, .is (.int .i64 (i : Int))), (some 53, .is (.slice (some ⟨B, (offV ((rs ++ sp).length) i 0 3), none⟩) (rs.length - i) ((rs ++ sp).length - i)))] [[], [], [], [1, 2], [0, 3], [], [], [5, 6]] (by kernel_rfl) (by kernel_rfl) (by kernel_rfl) (by kernel_rfl) (by kernel_rfl) (by kernel_rfl) (by kernel_rfl) (by exact trivial) ?_ ?_
        ·
          refine DSteps.cons (fun Wd hd => ?_) ?_
          ·
            exact DV.dr (dx_move rfl rfl) ⟨Below.refl _ _, rfl⟩
          refine DSteps.cons (fun Wd hd => ?_) ?_
          ·
            exact DV.dr (dx_move rfl rfl) ⟨Below.refl _ _, rfl⟩
          refine DSteps.cons (fun Wd hd => ?_) ?_
          ·
            exact DV.dr (dx_move rfl rfl) ⟨Below.refl _ _, rfl⟩
          refine DSteps.cons (fun Wd hd => ?_) ?_
          ·
            exact DV.dr (dx_add (r := ((i + vs.length : Nat) : Int)) rfl rfl rfl (by rw [wrap64_id (by omega)]; omega)) ⟨Below.refl _ _, rfl⟩
          refine DSteps.cons (fun Wd hd => ?_) ?_
          ·
            exact DV.dr (dx_slL (i + vs.length) rfl ty_slice_22 rfl rfl rfl (by omega) (by omega)) ⟨Below.refl _ _, rfl⟩
          refine DSteps.cons (fun Wd hd => ?_) ?_
          ·
            exact DV.dr (dx_move rfl rfl) ⟨Below.refl _ _, rfl⟩
          refine DSteps.cons (fun Wd hd => ?_) ?_
          ·
            exact DV.dr (dx_move rfl rfl) ⟨Below.refl _ _, rfl⟩
          refine DSteps.cons (fun Wd hd => ?_) ?_
          ·
            exact DV.dr (dx_slL i rfl ty_slice_22 rfl rfl rfl (by omega) (by omega)) ⟨Below.refl _ _, rfl⟩
          exact trivial
        ·
          intro W26 b27
          replace hO := hO.below b27
          replace hV := hV.below b27
          replace k23 := k23.below b27
          replace hB := hB.thenB b27
          replace hL := LL.below hL b27
          refine WL.get (dx_cpV (B := w.heap.size) (R := (Z.take i ++ (vs ++ Z.drop (i + vs.length)))) (news := (((rs ++ sp).drop i).take (rs.length - i))) (lo := (i + vs.length)) (n := (i + (rs.length + vs.length - i) - (i + vs.length))) rfl ty_slice_22 rfl (fun hn => by rw [offV_in (n := (i + (rs.length + vs.length - i) - (i + vs.length))) hn (by omega)]; simp) rfl k23 (hO.part (L := []) (lo := i) (n := rs.length - i) (by simp) (fun hn => by rw [offV_in (n := rs.length - i) hn (by rw [hlen]; omega)]; simp) (by rw [hlen]; omega) (by rw [hlen]; omega)) (fun r hr => hone r (mem_tail hi (List.mem_of_mem_take hr))) (by omega)) rfl rfl ?_
          rintro _ W28 ⟨rfl, k29, o30⟩
          replace hB := hB.only o30 (.inr (Nat.le_refl _))
          replace hL := LL.only hL o30
          replace hO := hO.other o30 nB
          replace hV := hV.other o30 nC
          rw [show ((rs ++ sp).drop i).take (rs.length - i) = rs.drop i from del_tail hi] at k29
          rw [List.take_of_length_le (l := rs.drop i) (by rw [List.length_drop]; omega), List.length_drop, show min (rs.length - i) (i + (rs.length + vs.length - i) - (i + vs.length)) = rs.length - i by omega, hg] at k29
          have hown := k29.own
          refine WL.nil ?_
          refine hK25 ?_
          refine WC.seq fun K31 hK31 => ?_
          refine WC.region ?_
          refine WL.val (dx_move rfl rfl) rfl rfl ?_
          refine WL.val (dx_assign rfl rfl) rfl rfl ?_
          refine WL.nil ?_
          refine hK31 ?_
          refine WC.ret fun a_ ha_ => ?_
          exact hQ (cw_ret1 rfl (.tmp rfl) ⟨w.heap.size, ins_own_eq hown hi ez.symm (by simp; omega), .inr (Nat.le_refl _)⟩ hB ha_)
      ·
        replace c19 := of_decide_eq_false c19
        refine WC.skip ?_
        refine hK17 ?_
        refine WC.seq fun K32 hK32 => ?_
        refine WC.region ?_
        refine WL.val (dx_move rfl rfl) rfl rfl ?_
        refine WL.val (dx_move rfl rfl) rfl rfl ?_
        refine WL.val (dx_move rfl rfl) rfl rfl ?_
        refine WL.val (dx_add (r := ((rs.length + vs.length : Nat) : Int)) rfl rfl rfl (by rw [wrap64_id (by omega)]; omega)) rfl rfl ?_
        refine WL.val (dx_slH (rs.length + vs.length) rfl ty_slice_22 rfl rfl rfl (by omega)) rfl rfl ?_
        refine WL.val (dx_assign rfl rfl) rfl rfl ?_
        refine WL.nil ?_
        refine hK32 ?_
        refine WC.seq fun K33 hK33 => ?_
        refine WC.seq fun K34 hK34 => ?_
        refine WC.region ?_
        refine WL.val (dx_move rfl rfl) rfl rfl ?_
        refine WL.val (dx_move rfl rfl) rfl rfl ?_
        refine WL.val (dx_move rfl rfl) rfl rfl ?_
        refine WL.val (dx_move rfl rfl) rfl rfl ?_
        refine WL.val (dx_add (r := ((i + vs.length : Nat) : Int)) rfl rfl rfl (by rw [wrap64_id (by omega)]; omega)) rfl rfl ?_
        refine WL.val (dx_slL (i + vs.length) rfl ty_slice_22 rfl rfl rfl (by omega) (by omega)) rfl rfl ?_
        refine WL.val (dx_ovl (U := (rs ++ sp)) (V := (vs ++ vp)) (s := 3) (tR := 4) rfl Tryz.func70 (by kernel_rfl) (by kernel_rfl) (by kernel_rfl) (by kernel_rfl) ty_slice_22 rfl rfl hV hO hCB (by intro e; rw [e] at hlen; simp only [List.length_nil] at hlen; omega)) rfl rfl ?_
        refine WL.val (dx_not rfl rfl) rfl rfl ?_
        refine WL.nil ?_
        refine hK34 ?_
        refine WC.condT rfl ?_
        refine WC.seq fun K35 hK35 => ?_
        refine WC.drawM 8 [(some 69, .is (.slice (some ⟨B, 0, none⟩) (rs.length + vs.length) ((rs ++ sp).length))), (some 70, .is (.int .i64 (i : Int))), (some 71, .is (.int .i64 (vs.length : Int))), (some 72, .is (.int .i64 ((i + vs.length : Nat) : Int))), (some 73, .is (.slice (some ⟨B, (offV ((rs ++ sp).length) (i + vs.length) 0 3), none⟩) ((rs.length + vs.length) - (i + vs.length)) ((rs ++ sp).length - (i + vs.length)))), (some 74, .is (.slice (some ⟨B, 0, none⟩) (rs.length + vs.length) ((rs ++ sp).length))), (some 75, .is (.int .i64 (i : Int))), (some 76, .is (.slice (some ⟨B, (offV ((rs ++ sp).length) i 0 3), none⟩) ((rs.length + vs.length) - i) ((rs ++ sp).length - i)))] [[], [], [], [1, 2], [0, 3], [], [], [5, 6]] (by kernel_rfl) (by kernel_rfl) (by kernel_rfl) (by kernel_rfl) (by kernel_rfl) (by kernel_rfl) (by kernel_rfl) (by exact trivial) ?_ ?_
        ·
          refine DSteps.cons (fun Wd hd => ?_) ?_
          ·
            exact DV.dr (dx_move rfl rfl) ⟨Below.refl _ _, rfl⟩
          refine DSteps.cons (fun Wd hd => ?_) ?_
          ·
            exact DV.dr (dx_move rfl rfl) ⟨Below.refl _ _, rfl⟩
          refine DSteps.cons (fun Wd hd => ?_) ?_
          ·
            exact DV.dr (dx_move rfl rfl) ⟨Below.refl _ _, rfl⟩
          refine DSteps.cons (fun Wd hd => ?_) ?_
          ·
            exact DV.dr (dx_add (r := ((i + vs.length : Nat) : Int)) rfl rfl rfl (by rw [wrap64_id (by omega)]; omega)) ⟨Below.refl _ _, rfl⟩
          refine DSteps.cons (fun Wd hd => ?_) ?_
          ·
            exact DV.dr (dx_slL (i + vs.length) rfl ty_slice_22 rfl rfl rfl (by omega) (by omega)) ⟨Below.refl _ _, rfl⟩
          refine DSteps.cons (fun Wd hd => ?_) ?_
          ·
            exact DV.dr (dx_move rfl rfl) ⟨Below.refl _ _, rfl⟩
          refine DSteps.cons (fun Wd hd => ?_) ?_
          ·
            exact DV.dr (dx_move rfl rfl) ⟨Below.refl _ _, rfl⟩
          refine DSteps.cons (fun Wd hd => ?_) ?_
          ·
            exact DV.dr (dx_slL i rfl ty_slice_22 rfl rfl rfl (by omega) (by omega)) ⟨Below.refl _ _, rfl⟩
          exact trivial
        ·
          intro W36 b37
          replace hO := hO.below b37
          replace hV := hV.below b37
          replace hB := hB.thenB b37
          replace hL := LL.below hL b37
          refine WL.get (dx_cpV (B := B) (R := (rs ++ sp)) (news := (((rs ++ sp).drop i).take (rs.length + vs.length - i))) (lo := (i + vs.length)) (n := (rs.length + vs.length - (i + vs.length))) rfl ty_slice_22 rfl (fun hn => by rw [offV_in (n := (rs.length + vs.length - (i + vs.length))) hn (by omega)]; simp) rfl hO (hO.part (L := []) (lo := i) (n := rs.length + vs.length - i) (by simp) (fun hn => by rw [offV_in (n := rs.length + vs.length - i) hn (by omega)]; simp) (by omega) (by omega)) (fun r hr => hone r (mem_tail2 hi (by omega) (by omega) hr)) (by omega)) rfl rfl ?_
          rintro _ W38 ⟨rfl, k39, o40⟩
          replace hB := hB.only o40 (.inl rfl)
          replace hL := LL.only hL o40
          replace hV := hV.other o40 hCB
          have ll : (((rs ++ sp).drop i).take (rs.length + vs.length - i)).length = rs.length + vs.length - i := (by rw [List.length_take, List.length_drop]; omega)
          rw [ll, show min (rs.length + vs.length - i) (rs.length + vs.length - (i + vs.length)) = rs.length - i by omega, show rs.length + vs.length - (i + vs.length) = rs.length - i by omega] at k39
          have l3 : ((rs ++ sp).take (i + vs.length) ++ ((((rs ++ sp).drop i).take (rs.length + vs.length - i)).take (rs.length - i) ++ (rs ++ sp).drop (i + vs.length + (rs.length - i)))).length = (rs ++ sp).length := (by simp; omega)
          have hg := ins_room (vs := vs) (sp := sp) hi (by omega)
          simp only at hg
          refine WL.nil ?_
          refine hK35 ?_
          refine WC.seq fun K41 hK41 => ?_
          refine WC.region ?_
          refine WL.val (dx_move rfl rfl) rfl rfl ?_
          refine WL.val (dx_move rfl rfl) rfl rfl ?_
          refine WL.val (dx_slL i rfl ty_slice_22 rfl rfl rfl (by omega) (by omega)) rfl rfl ?_
          refine WL.val (dx_move rfl rfl) rfl rfl ?_
          refine WL.get (dx_cpV (B := B) (R := ((rs ++ sp).take (i + vs.length) ++ ((((rs ++ sp).drop i).take (rs.length + vs.length - i)).take (rs.length - i) ++ (rs ++ sp).drop (i + vs.length + (rs.length - i))))) (news := vs) (lo := i) (n := (rs.length + vs.length - i)) rfl ty_slice_22 rfl (fun hn => by rw [offV_in (n := (rs.length + vs.length - i)) hn (by omega)]; simp) rfl k39 (hV.rd (L := []) (by simp)) (fun r hr => hvone r (List.mem_of_mem_take hr)) (by omega)) rfl rfl ?_
          rintro _ W42 ⟨rfl, k43, o44⟩
          replace hB := hB.only o44 (.inl rfl)
          replace hL := LL.only hL o44
          replace hV := hV.other o44 hCB
          rw [List.take_of_length_le (l := vs) (by omega), show min vs.length (rs.length + vs.length - i) = vs.length by omega, hg] at k43
          have hown := k43.own
          refine WL.nil ?_
          refine hK41 ?_
          refine WC.seq fun K45 hK45 => ?_
          refine WC.region ?_
          refine WL.val (dx_move rfl rfl) rfl rfl ?_
          refine WL.val (dx_assign rfl rfl) rfl rfl ?_
          refine WL.nil ?_
          refine hK45 ?_
          refine WC.ret fun a_ ha_ => ?_
          exact hQ (cw_ret1 rfl (.tmp rfl) ⟨B, ins_own_eq hown hi rfl (by simp; omega), .inl rfl⟩ hB ha_)

set_option maxHeartbeats 1000000 in
theorem insertNUser_v (vs vp : List (List Value)) (C : Nat) (w : World) (L : List Nat) (hL : LL L w)   (hV : RwB 3 w C (vs ++ vp)) (hvs : vs ≠ []) (hsm : vs.length * 56 ≤ 140737488355328) : CV Tryz.prog 42 [.slice none 0 0, .int .i64 0, .slice (some ⟨C, 0, none⟩) vs.length ((vs ++ vp).length)] w fun v W => ∃ B, w.heap.size ≤ B ∧ OwS 3 W v vs B := by
  refine cv_enter (N := 95) (f := [(0, .slice none 0 0), (1, .int .i64 0), (2, .slice (some ⟨C, 0, none⟩) vs.length ((vs ++ vp).length))]) Tryz.func42 rfl rfl rfl rfl fun Q hQ hE => ?_
  have hB := Below.refl w.heap.size w
  have hm0 := List.length_pos_iff.2 hvs
  refine WC.seq fun K1 hK1 => ?_
  refine WC.region ?_
  refine WL.val (dx_assign rfl rfl) rfl rfl ?_
  refine WL.nil ?_
  refine hK1 ?_
  refine WC.seq fun K2 hK2 => ?_
  refine WC.region ?_
  refine WL.val (dx_move rfl rfl) rfl rfl ?_
  refine WL.val (dx_move rfl rfl) rfl rfl ?_
  refine WL.val (dx_slN rfl ty_slice_22 rfl rfl) rfl rfl ?_
  refine WL.nil ?_
  refine hK2 ?_
  refine WC.seq fun K3 hK3 => ?_
  refine WC.region ?_
  refine WL.val (dx_move rfl rfl) rfl rfl ?_
  refine WL.val (dx_len rfl Tryz.underlying22 rfl) rfl rfl ?_
  refine WL.val (dx_assign rfl rfl) rfl rfl ?_
  refine WL.nil ?_
  refine hK3 ?_
  refine WC.seq fun K4 hK4 => ?_
  refine WC.seq fun K5 hK5 => ?_
  refine WC.region ?_
  refine WL.val (dx_move rfl rfl) rfl rfl ?_
  refine WL.val (dx_eql rfl rfl rfl) rfl rfl ?_
  refine WL.nil ?_
  refine hK5 ?_
  refine WC.cond rfl (fun c6 => ?_) (fun c6 => ?_)
  ·
    replace c6 := of_decide_eq_true c6
    exfalso; omega
  ·
    replace c6 := of_decide_eq_false c6
    refine WC.skip ?_
    refine hK4 ?_
    refine WC.seq fun K7 hK7 => ?_
    refine WC.region ?_
    refine WL.val (dx_move rfl rfl) rfl rfl ?_
    refine WL.val (dx_len rfl Tryz.underlying22 rfl) rfl rfl ?_
    refine WL.val (dx_assign rfl rfl) rfl rfl ?_
    refine WL.nil ?_
    refine hK7 ?_
    refine WC.seq fun K8 hK8 => ?_
    refine WC.seq fun K9 hK9 => ?_
    refine WC.region ?_
    refine WL.val (dx_move rfl rfl) rfl rfl ?_
    refine WL.val (dx_move rfl rfl) rfl rfl ?_
    refine WL.val (dx_eql rfl rfl rfl) rfl rfl ?_
    refine WL.nil ?_
    refine hK9 ?_
    refine WC.cond rfl (fun c10 => ?_) (fun c10 => ?_)
    ·
      replace c10 := of_decide_eq_true c10
      refine WC.seq fun K11 hK11 => ?_
      refine WC.region ?_
      refine WL.val (dx_move rfl rfl) rfl rfl ?_
      refine WL.val (dx_move rfl rfl) rfl rfl ?_
      refine WL.get (dx_apF (rs := []) (news := vs) rfl ty_ap_22 rfl rfl (RdF.nil (L := []) (by decide)) (hV.rd (L := []) (by simp)) hvs (by simp; unfold maxLen; omega) (by simp; omega)) rfl rfl ?_
      rintro u16 W12 ⟨k13, b14, z15⟩
      replace hB := below_then hB b14
      refine WL.val (dx_assign rfl rfl) rfl rfl ?_
      refine WL.nil ?_
      refine hK11 ?_
      refine WC.ret fun a_ ha_ => ?_
      exact hQ (cv_ret1 rfl (.tmp rfl) ⟨w.heap.size, Nat.le_refl _, k13⟩ hB ha_)
    ·
      replace c10 := of_decide_eq_false c10
      exact absurd rfl c10

end Go.Proofs.YthefddclefimoaaGreatDoor
namespace Go.Proofs.YthefddclefimoaaGreatDoor
open Go.RowKit
set_option linter.unusedVariables false
set_option linter.unusedSimpArgs false
/-- Nil, or new since the base: a block of its own. -/
def NewS (s base : Nat) (rs : List (List Value)) (u : Value) (w : World) : Prop := (u = .slice none 0 0 ∧ rs = [] ∧ 0 < s) ∨ ∃ B sp, base ≤ B ∧ u = .slice (some ⟨B, 0, none⟩) rs.length (rs ++ sp).length ∧ RwB s w B (rs ++ sp) ∧ (rs = [] → sp = [])
theorem NewS.below {s base : Nat} {rs : List (List Value)} {u : Value} {w w' : World} (h : NewS s base rs u w) (hb : Below w.heap.size w w') : NewS s base rs u w' := by
  rcases h with h | ⟨B, sp, h1, h2, h3, h4⟩
  · exact .inl h
  · exact .inr ⟨B, sp, h1, h2, h3.below hb, h4⟩
theorem NewS.le {s base n : Nat} {rs : List (List Value)} {u : Value} {w : World} (h : NewS s base rs u w) (hn : n ≤ base) : NewS s n rs u w := by
  rcases h with h | ⟨B, sp, h1, h2⟩
  · exact .inl h
  · exact .inr ⟨B, sp, Nat.le_trans hn h1, h2⟩
theorem NewS.of_own {s base B : Nat} {rs : List (List Value)} {u : Value} {w : World} (h : OwS s w u rs B) (hb : base ≤ B) (hn : rs ≠ []) : NewS s base rs u w := by
  obtain ⟨sp, h1, h2⟩ := h.open
  exact .inr ⟨B, sp, hb, h1, h2, fun e => absurd e hn⟩
theorem NewS.of_lit {s base : Nat} {u : Value} {w : World} (h : NewE s base u w) : NewS s base [] u w := by
  obtain ⟨B, hb, rfl, ho⟩ := h
  obtain ⟨sp, h1, h2⟩ := ho.open
  have e : sp = [] := by
    have := congrArg (fun v : Value => match v with | .slice _ _ c => c | _ => 0) h1
    simp at this
    exact List.length_eq_zero_iff.1 this.symm
  subst e
  exact .inr ⟨B, [], hb, rfl, h2, fun _ => rfl⟩
theorem NewS.rd {s base : Nat} {rs : List (List Value)} {u : Value} {w : World} (h : NewS s base rs u w) {L : List Nat} (hL : ∀ x ∈ L, x < base) : RdF s L w u rs := by
  rcases h with ⟨rfl, rfl, h0⟩ | ⟨B, sp, h1, rfl, h3, h4⟩
  · exact RdF.nil h0
  · exact h3.rd (fun hx => by have := hL B hx; omega)
theorem rwb_ne {s : Nat} {w : World} {B C : Nat} {rs sp vp : List (List Value)} {row : List Value} (h : RwB s w B (rs ++ sp)) (hc : RwB s w C (row :: vp)) (he : rs = [] → sp = []) (hn : ∀ r ∈ rs, r ≠ row) : C ≠ B := fun e => by
  subst e
  obtain ⟨h0, hr, _, t, hb⟩ := h
  obtain ⟨_, hr', _, t', hb'⟩ := hc
  rw [hb] at hb'
  have e1 : (rs ++ sp).flatten = (row :: vp).flatten := by
    have := (Obj.cells.inj (Option.some.inj hb')).1
    simpa using this
  cases rs with
  | nil =>
    rw [he rfl] at e1
    have := congrArg List.length e1
    rw [List.flatten_cons, List.length_append, hr' row (.head _)] at this
    simp at this
    omega
  | cons r rs =>
    refine hn r (.head _) ?_
    rw [List.cons_append, List.flatten_cons, List.flatten_cons] at e1
    exact (List.append_inj e1 (by rw [hr r (.head _), hr' row (.head _)])).1
theorem Chg.from_base {B base : Nat} {w w' : World} (h : Chg B w w') (hB : base ≤ B) (hs : base ≤ w.heap.size) : Below base w w' := ⟨h.os, h.tape, h.output, h.size, fun k hk => h.block k (by omega) (by omega)⟩
section
variable {P : Program} {ops : Array Oper} {o : Oper} {N : Nat} {f : Fl} {w : World} {R : Value → World → Prop}
/-- An append to a literal of nothing. -/
theorem dx_apN {t s bytes base : Nat} {x y : Operand} {u v2 : Value} {news : List (List Value)} {L : List Nat} (ho : o.op = .call { callee := .builtin .append, args := #[x, y], argTypes := #[t, t] }) (ht : apB P t s bytes = true) (hx : ev f x = some u) (hy : ev f y = some v2)
    (h : NewE s base u w) (h2 : RdF s L w v2 news) (h1 : ∀ r ∈ news, ∀ u ∈ r, u.oneCell' = true) (hm : news.length ≤ maxLen) (hby : news.length * bytes ≤ 140737488355328) (hb : base ≤ w.heap.size) (hw : wantF ops o f = some true := by rfl) : DR P ops o N f w fun u W => Below w.heap.size w W ∧ NewS s base news u W := fun a ha => by
  by_cases hn : news = []
  · subst hn
    obtain ⟨e, q, Z, hu, hi, hz, rfl, rfl, hzs⟩ := of_apB ht
    have hx := ha.ev hx
    have hy := ha.ev hy
    have hN := NewS.of_lit h
    obtain ⟨B, hB, rfl, ho'⟩ := h
    obtain ⟨_, hl2, a2, cap2, rfl, hd1, hd2, hd3, hd4⟩ := h2
    have hr0 : (Builtin.append_ #[t, t] o.type #[.slice (some ⟨B, 0, none⟩) 0 0, .slice a2 0 cap2]).run P w = .ok (.slice (some ⟨B, 0, none⟩) 0 0) w := by
      cases a2 with
      | none => simp [Builtin.append_, run_underlying hu, sizeOf, typeInfo, hi, Builtin.lenOf, Builtin.firstCells, storeCells]
      | some a2 => simp [Builtin.append_, run_underlying hu, sizeOf, typeInfo, hi, Builtin.lenOf, Builtin.firstCells, loadCells, loadCellsFrom, storeCells]
    refine Does.of_wp (wantF_of ha hw) fun K hK => ?_
    unfold Oper.wp execOp
    simp only [List.length_nil] at hy
    simp only [ho, resolve, invoke, builtin, Sem.run_bind, Sem.run_pure, Result.andThen_ok, List.map_toArray, List.map_cons, List.map_nil, hx, hy, hr0]
    exact hK _ _ ⟨Below.refl _ _, hN⟩
  · exact Does.mono (dx_apE ho ht hx hy h h2 hm hby hb hw a ha) fun v W ⟨hb', B, hB, hO⟩ => ⟨hb', NewS.of_own hO hB hn⟩
/-- A call, by what it gives. -/
theorem dx_callA {F : FuncId} {fn : Func} {xs : List Operand} {ts : Array TypeId} {vs : List Value} (ho : o.op = .call { callee := .value (.func F), args := xs.toArray, argTypes := ts }) (hf : P.funcs[F]? = some fn) (hn : (fn.name == "runtime.NumGoroutine") = false) (hb : fn.body.isNone = false)
    (hx : evl f xs = some vs) (hc : Calls P F vs.toArray w fun e w' => ∃ v, e = .returned v ∧ R v w') (hw : wantF ops o f = some true := by rfl) : DR P ops o N f w R :=
  dx_call (cap := #[]) ho rfl hf hn hb hx (by rw [Array.append_empty]; exact hc) hw
end
/-- What was there at a base is as it was, behind what changed only what is newer. -/
theorem Below.then_base {base : Nat} {w0 w w' : World} (h : Below base w0 w) (k : Below base w w') : Below base w0 w' := h.trans k
end Go.Proofs.YthefddclefimoaaGreatDoor
namespace Go.Proofs.YthefddclefimoaaGreatDoor
open Go.RowKit
set_option linter.unusedVariables false
set_option linter.unusedSimpArgs false
set_option maxRecDepth 8000

set_option maxHeartbeats 1000000 in
theorem cloneNUser_v  (w : World) (L : List Nat) (hL : LL L w)  : CV Tryz.prog 43 [.slice none 0 0] w fun v W => v = .slice none 0 0 := by
  refine cv_enter (N := 8) (f := [(0, .slice none 0 0)]) Tryz.func43 rfl rfl rfl rfl fun Q hQ hE => ?_
  have hB := Below.refl w.heap.size w
  refine WC.seq fun K1 hK1 => ?_
  refine WC.region ?_
  refine WL.val (dx_assign rfl rfl) rfl rfl ?_
  refine WL.nil ?_
  refine hK1 ?_
  refine WC.seq fun K2 hK2 => ?_
  refine WC.seq fun K3 hK3 => ?_
  refine WC.region ?_
  refine WL.val (dx_move rfl rfl) rfl rfl ?_
  refine WL.val (dx_nilT rfl Tryz.underlying22 rfl) rfl rfl ?_
  refine WL.nil ?_
  refine hK3 ?_
  refine WC.condT rfl ?_
  refine WC.seq fun K4 hK4 => ?_
  refine WC.region ?_
  refine WL.val (dx_assign rfl rfl) rfl rfl ?_
  refine WL.nil ?_
  refine hK4 ?_
  refine WC.ret fun a_ ha_ => ?_
  exact hQ (cv_ret1 rfl (.tmp rfl) rfl hB ha_)

set_option maxHeartbeats 1000000 in
theorem cloneEUser_v (rs : List (List Value)) (sv : Value) (a : Addr) (n c : Nat) (w : World) (L : List Nat) (hL : LL L w) (h1 : RdF 3 L w sv rs)  (hs : sv = .slice (some a) n c) (hone : ∀ r ∈ rs, ∀ u ∈ r, u.oneCell' = true) (hsm : rs.length * 56 ≤ 140737488355328) : CV Tryz.prog 43 [sv] w fun v W => NewS 3 w.heap.size rs v W := by
  refine cv_enter (N := 8) (f := [(0, sv)]) Tryz.func43 rfl rfl rfl rfl fun Q hQ hE => ?_
  have hB := Below.refl w.heap.size w
  refine WC.seq fun K1 hK1 => ?_
  refine WC.region ?_
  refine WL.val (dx_assign rfl rfl) rfl rfl ?_
  refine WL.nil ?_
  refine hK1 ?_
  refine WC.seq fun K2 hK2 => ?_
  refine WC.seq fun K3 hK3 => ?_
  refine WC.region ?_
  refine WL.val (dx_move rfl rfl) rfl rfl ?_
  refine WL.val (dx_nilS rfl Tryz.underlying22 rfl hs) rfl rfl ?_
  refine WL.nil ?_
  refine hK3 ?_
  refine WC.condF rfl ?_
  refine WC.skip ?_
  refine hK2 ?_
  refine WC.seq fun K4 hK4 => ?_
  refine WC.region ?_
  refine WL.get (dx_lit0E rfl ty_ap_22 (by decide)) rfl rfl ?_
  rintro u5 W6 ⟨b7, e8⟩
  replace h1 := h1.below b7
  replace hB := below_then hB b7
  replace hL := LL.below hL b7
  refine WL.val (dx_move rfl rfl) rfl rfl ?_
  refine WL.get (dx_apN rfl ty_ap_22 rfl rfl e8 h1 hone (by unfold maxLen; omega) (by omega) hB.size) rfl rfl ?_
  rintro u9 W10 ⟨b11, e12⟩
  replace h1 := h1.below b11
  replace hB := below_then hB b11
  replace hL := LL.below hL b11
  refine WL.val (dx_assign rfl rfl) rfl rfl ?_
  refine WL.nil ?_
  refine hK4 ?_
  refine WC.ret fun a_ ha_ => ?_
  exact hQ (cv_ret1 rfl (.tmp rfl) e12 hB ha_)

theorem cloneSUser_v (rs : List (List Value)) (sv : Value) (w : World) (L : List Nat) (hL : LL L w) (h1 : RdF 3 L w sv rs) (hone : ∀ r ∈ rs, ∀ u ∈ r, u.oneCell' = true) (hsm : rs.length * 56 ≤ 140737488355328) : CV Tryz.prog 43 [sv] w fun v W => NewS 3 w.heap.size rs v W := by
  rcases h1.nil_or with ⟨rfl, rfl⟩ | ⟨a, n, c, hs⟩
  · exact (cloneNUser_v w L hL).mono fun v W _ h => .inl ⟨h, rfl, by decide⟩
  · exact cloneEUser_v rs sv a n c w L hL h1 hs hone hsm
/-- An insert of one behind a clone. -/
theorem insertSUser_v (rs : List (List Value)) (row : List Value) (i base : Nat) (j : Int) (u v : Value) (w : World) (hj : j = (i : Int)) (hu : NewS 3 base rs u w) (hv : NewS 3 base [row] v w) (hb : base ≤ w.heap.size) (hi : i ≤ rs.length) (hsm : (rs.length + 1) * 56 ≤ 140737488355328) (hone : ∀ r ∈ rs, ∀ u ∈ r, u.oneCell' = true) (hrow : ∀ u ∈ row, u.oneCell' = true) (hne : ∀ r ∈ rs, r ≠ row) :
    Calls Tryz.prog 42 [u, .int .i64 j, v].toArray w fun e w' => ∃ x, e = .returned x ∧ (∃ B, base ≤ B ∧ OwS 3 w' x (rs.take i ++ ([row] ++ rs.drop i)) B) ∧ Below base w w' := by
  subst hj
  have hrow' : ∀ r ∈ [row], ∀ u ∈ r, u.oneCell' = true := fun r hr => by rw [List.mem_singleton.1 hr]; exact hrow
  rcases hv with ⟨_, h, _⟩ | ⟨C, vp, hC, rfl, hV, _⟩
  · cases h
  rcases hu with ⟨rfl, rfl, _⟩ | ⟨B, sp, hB, rfl, hO, he⟩
  · have hi0 : i = 0 := by simpa using hi
    subst hi0
    refine Calls.mono (insertNUser_v [row] vp C w [] (LL.nil _) hV (by simp) (by simp)) fun e w' ⟨x, h1, ⟨B, h2, h3⟩, h4⟩ => ⟨x, h1, ⟨B, Nat.le_trans hb h2, by simpa using h3⟩, h4.mono hb⟩
  · have hCB : C ≠ B := rwb_ne hO hV he hne
    refine Calls.mono (insertUser_v rs sp [row] vp i B C w [] (fun x hx => by rw [List.mem_singleton.1 hx]; exact hO.lt) hO hV hCB hi (by simp) (by simpa using hsm) hone hrow') fun e w' ⟨x, h1, ⟨B', h2, h3⟩, h4⟩ => ⟨x, h1, ⟨B', ?_, h2⟩, h4.from_base hB hb⟩
    rcases h3 with rfl | h3
    · exact hB
    · exact Nat.le_trans hb h3
/-- A delete of one behind a clone. -/
theorem deleteSUser_v (rs : List (List Value)) (i base : Nat) (j j' : Int) (u : Value) (w : World) (hj : j = (i : Int)) (hj' : j' = (i : Int) + 1) (hu : NewS 3 base rs u w) (hb : base ≤ w.heap.size) (hi : i < rs.length) (hone : ∀ r ∈ rs, ∀ u ∈ r, u.oneCell' = true) :
    Calls Tryz.prog 48 [u, .int .i64 j, .int .i64 j'].toArray w fun e w' => ∃ x, e = .returned x ∧ (∃ B, base ≤ B ∧ OwS 3 w' x (rs.take i ++ rs.drop (i + 1)) B) ∧ Below base w w' := by
  subst hj hj'
  rcases hu with ⟨rfl, rfl, _⟩ | ⟨B, sp, hB, rfl, hO, he⟩
  · simp at hi
  · refine Calls.mono (deleteUser_v rs sp i (i + 1) B w [] (fun x hx => by rw [List.mem_singleton.1 hx]; exact hO.lt) hO (by omega) (by omega) hone) fun e w' ⟨x, h1, ⟨B', h2, h3⟩, h4⟩ => ⟨x, h1, ⟨B', ?_, h2⟩, h4.from_base hB hb⟩
    rcases h3 with rfl | h3
    · exact hB
    · exact Nat.le_trans hb h3
set_option maxHeartbeats 1000000 in
theorem cloneNBond_v  (w : World) (L : List Nat) (hL : LL L w)  : CV Tryz.prog 60 [.slice none 0 0] w fun v W => v = .slice none 0 0 := by
  refine cv_enter (N := 8) (f := [(0, .slice none 0 0)]) Tryz.func60 rfl rfl rfl rfl fun Q hQ hE => ?_
  have hB := Below.refl w.heap.size w
  refine WC.seq fun K1 hK1 => ?_
  refine WC.region ?_
  refine WL.val (dx_assign rfl rfl) rfl rfl ?_
  refine WL.nil ?_
  refine hK1 ?_
  refine WC.seq fun K2 hK2 => ?_
  refine WC.seq fun K3 hK3 => ?_
  refine WC.region ?_
  refine WL.val (dx_move rfl rfl) rfl rfl ?_
  refine WL.val (dx_nilT rfl Tryz.underlying38 rfl) rfl rfl ?_
  refine WL.nil ?_
  refine hK3 ?_
  refine WC.condT rfl ?_
  refine WC.seq fun K4 hK4 => ?_
  refine WC.region ?_
  refine WL.val (dx_assign rfl rfl) rfl rfl ?_
  refine WL.nil ?_
  refine hK4 ?_
  refine WC.ret fun a_ ha_ => ?_
  exact hQ (cv_ret1 rfl (.tmp rfl) rfl hB ha_)

set_option maxHeartbeats 1000000 in
theorem cloneEBond_v (rs : List (List Value)) (sv : Value) (a : Addr) (n c : Nat) (w : World) (L : List Nat) (hL : LL L w) (h1 : RdF 4 L w sv rs)  (hs : sv = .slice (some a) n c) (hone : ∀ r ∈ rs, ∀ u ∈ r, u.oneCell' = true) (hsm : rs.length * 56 ≤ 140737488355328) : CV Tryz.prog 60 [sv] w fun v W => NewS 4 w.heap.size rs v W := by
  refine cv_enter (N := 8) (f := [(0, sv)]) Tryz.func60 rfl rfl rfl rfl fun Q hQ hE => ?_
  have hB := Below.refl w.heap.size w
  refine WC.seq fun K1 hK1 => ?_
  refine WC.region ?_
  refine WL.val (dx_assign rfl rfl) rfl rfl ?_
  refine WL.nil ?_
  refine hK1 ?_
  refine WC.seq fun K2 hK2 => ?_
  refine WC.seq fun K3 hK3 => ?_
  refine WC.region ?_
  refine WL.val (dx_move rfl rfl) rfl rfl ?_
  refine WL.val (dx_nilS rfl Tryz.underlying38 rfl hs) rfl rfl ?_
  refine WL.nil ?_
  refine hK3 ?_
  refine WC.condF rfl ?_
  refine WC.skip ?_
  refine hK2 ?_
  refine WC.seq fun K4 hK4 => ?_
  refine WC.region ?_
  refine WL.get (dx_lit0E rfl ty_ap_38 (by decide)) rfl rfl ?_
  rintro u5 W6 ⟨b7, e8⟩
  replace h1 := h1.below b7
  replace hB := below_then hB b7
  replace hL := LL.below hL b7
  refine WL.val (dx_move rfl rfl) rfl rfl ?_
  refine WL.get (dx_apN rfl ty_ap_38 rfl rfl e8 h1 hone (by unfold maxLen; omega) (by omega) hB.size) rfl rfl ?_
  rintro u9 W10 ⟨b11, e12⟩
  replace h1 := h1.below b11
  replace hB := below_then hB b11
  replace hL := LL.below hL b11
  refine WL.val (dx_assign rfl rfl) rfl rfl ?_
  refine WL.nil ?_
  refine hK4 ?_
  refine WC.ret fun a_ ha_ => ?_
  exact hQ (cv_ret1 rfl (.tmp rfl) e12 hB ha_)

theorem cloneSBond_v (rs : List (List Value)) (sv : Value) (w : World) (L : List Nat) (hL : LL L w) (h1 : RdF 4 L w sv rs) (hone : ∀ r ∈ rs, ∀ u ∈ r, u.oneCell' = true) (hsm : rs.length * 56 ≤ 140737488355328) : CV Tryz.prog 60 [sv] w fun v W => NewS 4 w.heap.size rs v W := by
  rcases h1.nil_or with ⟨rfl, rfl⟩ | ⟨a, n, c, hs⟩
  · exact (cloneNBond_v w L hL).mono fun v W _ h => .inl ⟨h, rfl, by decide⟩
  · exact cloneEBond_v rs sv a n c w L hL h1 hs hone hsm
/-- An insert of one behind a clone. -/
theorem insertSBond_v (rs : List (List Value)) (row : List Value) (i base : Nat) (j : Int) (u v : Value) (w : World) (hj : j = (i : Int)) (hu : NewS 4 base rs u w) (hv : NewS 4 base [row] v w) (hb : base ≤ w.heap.size) (hi : i ≤ rs.length) (hsm : (rs.length + 1) * 56 ≤ 140737488355328) (hone : ∀ r ∈ rs, ∀ u ∈ r, u.oneCell' = true) (hrow : ∀ u ∈ row, u.oneCell' = true) (hne : ∀ r ∈ rs, r ≠ row) :
    Calls Tryz.prog 61 [u, .int .i64 j, v].toArray w fun e w' => ∃ x, e = .returned x ∧ (∃ B, base ≤ B ∧ OwS 4 w' x (rs.take i ++ ([row] ++ rs.drop i)) B) ∧ Below base w w' := by
  subst hj
  have hrow' : ∀ r ∈ [row], ∀ u ∈ r, u.oneCell' = true := fun r hr => by rw [List.mem_singleton.1 hr]; exact hrow
  rcases hv with ⟨_, h, _⟩ | ⟨C, vp, hC, rfl, hV, _⟩
  · cases h
  rcases hu with ⟨rfl, rfl, _⟩ | ⟨B, sp, hB, rfl, hO, he⟩
  · have hi0 : i = 0 := by simpa using hi
    subst hi0
    refine Calls.mono (insertNBond_v [row] vp C w [] (LL.nil _) hV (by simp) (by simp)) fun e w' ⟨x, h1, ⟨B, h2, h3⟩, h4⟩ => ⟨x, h1, ⟨B, Nat.le_trans hb h2, by simpa using h3⟩, h4.mono hb⟩
  · have hCB : C ≠ B := rwb_ne hO hV he hne
    refine Calls.mono (insertBond_v rs sp [row] vp i B C w [] (fun x hx => by rw [List.mem_singleton.1 hx]; exact hO.lt) hO hV hCB hi (by simp) (by simpa using hsm) hone hrow') fun e w' ⟨x, h1, ⟨B', h2, h3⟩, h4⟩ => ⟨x, h1, ⟨B', ?_, h2⟩, h4.from_base hB hb⟩
    rcases h3 with rfl | h3
    · exact hB
    · exact Nat.le_trans hb h3
/-- A delete of one behind a clone. -/
theorem deleteSBond_v (rs : List (List Value)) (i base : Nat) (j j' : Int) (u : Value) (w : World) (hj : j = (i : Int)) (hj' : j' = (i : Int) + 1) (hu : NewS 4 base rs u w) (hb : base ≤ w.heap.size) (hi : i < rs.length) (hone : ∀ r ∈ rs, ∀ u ∈ r, u.oneCell' = true) :
    Calls Tryz.prog 65 [u, .int .i64 j, .int .i64 j'].toArray w fun e w' => ∃ x, e = .returned x ∧ (∃ B, base ≤ B ∧ OwS 4 w' x (rs.take i ++ rs.drop (i + 1)) B) ∧ Below base w w' := by
  subst hj hj'
  rcases hu with ⟨rfl, rfl, _⟩ | ⟨B, sp, hB, rfl, hO, he⟩
  · simp at hi
  · refine Calls.mono (deleteBond_v rs sp i (i + 1) B w [] (fun x hx => by rw [List.mem_singleton.1 hx]; exact hO.lt) hO (by omega) (by omega) hone) fun e w' ⟨x, h1, ⟨B', h2, h3⟩, h4⟩ => ⟨x, h1, ⟨B', ?_, h2⟩, h4.from_base hB hb⟩
    rcases h3 with rfl | h3
    · exact hB
    · exact Nat.le_trans hb h3
end Go.Proofs.YthefddclefimoaaGreatDoor
namespace Go.Proofs.YthefddclefimoaaGreatDoor
open Go.RowKit
set_option linter.unusedVariables false
theorem bl_irrefl : ∀ x : List UInt8, Op.bytesLess x x = false
  | [] => rfl
  | a :: x => by
    have h : ¬ a < a := by simp
    rw [Op.bytesLess, bl_irrefl x, decide_eq_false h]; simp
theorem u8_tri (a b : UInt8) : a < b ∨ a = b ∨ b < a := by
  rcases Nat.lt_trichotomy a.toNat b.toNat with h | h | h
  · exact .inl (UInt8.lt_iff_toNat_lt.2 h)
  · exact .inr (.inl (UInt8.toNat_inj.1 h))
  · exact .inr (.inr (UInt8.lt_iff_toNat_lt.2 h))
theorem u8_no {a b : UInt8} (h : a < b) : ¬ b < a ∧ a ≠ b := by
  have := UInt8.lt_iff_toNat_lt.1 h
  constructor
  · intro g; have := UInt8.lt_iff_toNat_lt.1 g; omega
  · intro g; rw [g] at this; omega
theorem bl_tri : ∀ x y : List UInt8, (Op.bytesLess x y = true ∧ Op.bytesLess y x = false ∧ x ≠ y) ∨ (Op.bytesLess x y = false ∧ Op.bytesLess y x = true ∧ x ≠ y) ∨ x = y
  | [], [] => .inr (.inr rfl)
  | [], _ :: _ => .inl ⟨rfl, rfl, by simp⟩
  | _ :: _, [] => .inr (.inl ⟨rfl, rfl, by simp⟩)
  | a :: x, b :: y => by
    rcases u8_tri a b with h | h | h
    · obtain ⟨h1, h2⟩ := u8_no h
      exact .inl ⟨by simp [Op.bytesLess, h], by simp [Op.bytesLess, h1]; exact fun e => absurd e.symm h2, fun e => h2 (List.cons.inj e).1⟩
    · subst h
      have h0 : ¬ a < a := by simp
      rcases bl_tri x y with ⟨p, q, r⟩ | ⟨p, q, r⟩ | r
      · exact .inl ⟨by simp [Op.bytesLess, p], by simp [Op.bytesLess, h0, q], fun e => r (List.cons.inj e).2⟩
      · exact .inr (.inl ⟨by simp [Op.bytesLess, h0, p], by simp [Op.bytesLess, q], fun e => r (List.cons.inj e).2⟩)
      · exact .inr (.inr (by rw [r]))
    · obtain ⟨h1, h2⟩ := u8_no h
      exact .inr (.inl ⟨by simp [Op.bytesLess, h1]; exact fun e => absurd e.symm h2, by simp [Op.bytesLess, h], fun e => h2 (List.cons.inj e).1.symm⟩)
theorem bl_trans : ∀ x y z : List UInt8, Op.bytesLess x y = true → Op.bytesLess y z = true → Op.bytesLess x z = true
  | [], [], _, h, _ => by simp [Op.bytesLess] at h
  | _ :: _, [], _, h, _ => by simp [Op.bytesLess] at h
  | [], _ :: _, [], _, g => by simp [Op.bytesLess] at g
  | _ :: _, _ :: _, [], _, g => by simp [Op.bytesLess] at g
  | [], _ :: _, _ :: _, _, _ => rfl
  | a :: x, b :: y, c :: z, h, g => by
    have h' : a < b ∨ (a = b ∧ Op.bytesLess x y = true) := by simpa [Op.bytesLess] using h
    have g' : b < c ∨ (b = c ∧ Op.bytesLess y z = true) := by simpa [Op.bytesLess] using g
    have : a < c ∨ (a = c ∧ Op.bytesLess x z = true) := by
      rcases h' with h' | ⟨rfl, h'⟩
      · rcases g' with g' | ⟨rfl, g'⟩
        · exact .inl (UInt8.lt_iff_toNat_lt.2 (by have := UInt8.lt_iff_toNat_lt.1 h'; have := UInt8.lt_iff_toNat_lt.1 g'; omega))
        · exact .inl h'
      · rcases g' with g' | ⟨rfl, g'⟩
        · exact .inl g'
        · exact .inr ⟨rfl, bl_trans x y z h' g'⟩
    simpa [Op.bytesLess] using this
theorem toList_inj {a b : ByteArray} (h : a.toList = b.toList) : a = b := by
  rw [ByteArray.toList_eq, ByteArray.toList_eq] at h
  exact ByteArray.ext (Array.toList_inj.mp h)
theorem sless_irrefl (a : ByteArray) : sless a a = false := bl_irrefl _
theorem sless_trans (a b c : ByteArray) (h : sless a b = true) (g : sless b c = true) : sless a c = true := bl_trans _ _ _ h g
theorem sless_tri (a b : ByteArray) : (sless a b = true ∧ sless b a = false ∧ a ≠ b) ∨ (sless a b = false ∧ sless b a = true ∧ a ≠ b) ∨ a = b := by
  rcases bl_tri a.toList b.toList with ⟨p, q, r⟩ | ⟨p, q, r⟩ | r
  · exact .inl ⟨p, q, fun e => r (by rw [e])⟩
  · exact .inr (.inl ⟨p, q, fun e => r (by rw [e])⟩)
  · exact .inr (.inr (toList_inj r))
theorem sless_ne {a b : ByteArray} (h : sless a b = true) : a ≠ b := fun e => by rw [e, sless_irrefl] at h; cases h
theorem sless_asymm {a b : ByteArray} (h : sless a b = true) : sless b a = false := by
  rcases sless_tri a b with ⟨_, q, _⟩ | ⟨p, _, _⟩ | rfl
  · exact q
  · rw [p] at h; cases h
  · rw [sless_irrefl] at h; cases h
end Go.Proofs.YthefddclefimoaaGreatDoor
namespace Go.Proofs.YthefddclefimoaaGreatDoor
open Go.RowKit
set_option linter.unusedVariables false
set_option linter.unusedSimpArgs false
set_option maxRecDepth 8000

theorem lessA_tri (a b : ByteArray × ByteArray) : (lessA a b = true ∧ lessA b a = false ∧ a ≠ b) ∨ (lessA a b = false ∧ lessA b a = true ∧ a ≠ b) ∨ a = b := by
  unfold lessA
  by_cases h : a.1 = b.1
  · simp only [if_pos h, if_pos h.symm]
    rcases sless_tri a.2 b.2 with ⟨p, q, r⟩ | ⟨p, q, r⟩ | r
    · exact .inl ⟨p, q, fun e => r (by rw [e])⟩
    · exact .inr (.inl ⟨p, q, fun e => r (by rw [e])⟩)
    · exact .inr (.inr (Prod.ext h r))
  · simp only [if_neg h, if_neg (fun e => h e.symm : ¬ b.1 = a.1)]
    rcases sless_tri a.1 b.1 with ⟨p, q, r⟩ | ⟨p, q, r⟩ | r
    · exact .inl ⟨p, q, fun e => r (by rw [e])⟩
    · exact .inr (.inl ⟨p, q, fun e => r (by rw [e])⟩)
    · exact absurd r h
theorem lessA_irrefl (a : ByteArray × ByteArray) : lessA a a = false := by unfold lessA; rw [if_pos rfl]; exact sless_irrefl _
theorem lessA_trans (a b c : ByteArray × ByteArray) (h : lessA a b = true) (g : lessA b c = true) : lessA a c = true := by
  unfold lessA at h g ⊢
  by_cases h1 : a.1 = b.1
  · rw [if_pos h1] at h
    by_cases h2 : b.1 = c.1
    · rw [if_pos h2] at g
      rw [if_pos (h1.trans h2)]
      exact sless_trans _ _ _ h g
    · rw [if_neg h2] at g
      rw [if_neg (fun e => h2 (h1 ▸ e)), h1]
      exact g
  · rw [if_neg h1] at h
    by_cases h2 : b.1 = c.1
    · rw [if_pos h2] at g
      rw [← h2, if_neg h1]
      exact h
    · rw [if_neg h2] at g
      have h3 := sless_trans _ _ _ h g
      rw [if_neg (sless_ne h3)]
      exact h3
def goodB (b : BondX) : Bool := rightA b.1.1 b.1.2 && (userB b.2.1 && (decide (0 ≤ b.2.2) && decide (b.2.2 ≤ 1099511627776)))
abbrev ltB (a b : BondX) : Bool := lessA (a.1.1, a.1.2) (b.1.1, b.1.2)
abbrev rightB (xs : List BondX) : Bool := rightL 64 goodB (fun a b => lessA (a.1.1, a.1.2) (b.1.1, b.1.2)) xs
theorem placeB_cases (xs : List BondX) (m x : ByteArray) : ∃ k : Nat, (placeB xs m x).1 = (k : Int) ∧ k ≤ xs.length ∧ (∀ c ∈ xs.take k, lessA (c.1.1, c.1.2) (m, x) = true) ∧ (((placeB xs m x).2 = true ∧ ∃ b, xs[k]? = some b ∧ b.1.1 = m ∧ b.1.2 = x) ∨ ((placeB xs m x).2 = false ∧ ∀ b, xs[k]? = some b → lessA (m, x) (b.1.1, b.1.2) = true)) := by
  unfold placeB
  rcases Int.lt_or_le (idxX (geA m x) xs 0) 0 with h | h
  · rw [if_pos h]
    refine ⟨xs.length, rfl, Nat.le_refl _, fun c hc => ?_, .inr ⟨rfl, fun b hb => by rw [List.getElem?_eq_none (Nat.le_refl _)] at hb; cases hb⟩⟩
    have := idxX_no xs 0 (by omega) h c (List.mem_of_mem_take hc)
    simpa [geA] using this
  · rw [if_neg (by omega)]
    obtain ⟨k, a, h1, h2, h3, h4⟩ := idxX_is xs 0 (by omega) h
    have hk := (List.getElem?_eq_some_iff.1 h2).1
    rw [h1]
    simp only [Int.zero_add, Int.toNat_natCast]
    refine ⟨k, rfl, by omega, fun c hc => ?_, ?_⟩
    · obtain ⟨j, hj, rfl⟩ := List.getElem_of_mem hc
      rw [List.length_take] at hj
      rw [List.getElem_take]
      have := h4 j xs[j] (by omega) (List.getElem?_eq_getElem (by omega))
      simpa [geA] using this
    · by_cases he : a.1.1 = m ∧ a.1.2 = x
      · exact .inl ⟨by rw [h2]; simp [he], a, h2, he.1, he.2⟩
      · refine .inr ⟨by rw [h2]; simpa using he, fun b hb => ?_⟩
        rw [h2] at hb
        cases hb
        simp only [geA, Bool.not_eq_true'] at h3
        rcases lessA_tri (a.1.1, a.1.2) (m, x) with ⟨p, _, _⟩ | ⟨_, q, _⟩ | p
        · rw [p] at h3; cases h3
        · exact q
        · exact absurd ⟨congrArg Prod.fst p, congrArg Prod.snd p⟩ he
theorem rightB_iff (xs : List BondX) : rightB xs = true ↔ xs.length ≤ 64 ∧ (∀ x ∈ xs, goodB x = true) ∧ xs.Pairwise (fun a b => ltB a b = true) := right_iff (r := ltB) (g := goodB) (n := 64) fun a b c h g => lessA_trans _ _ _ h g
/-- Where it isn't, it is nowhere. -/
theorem place_none {xs : List BondX} {m x : ByteArray} (hr : rightB xs = true) (h : (placeB xs m x).2 = false) : ∀ b ∈ xs, ¬ (b.1.1 = m ∧ b.1.2 = x) := fun b hb he => by
  obtain ⟨k, h1, h2, h3, h4 | ⟨_, h4⟩⟩ := placeB_cases xs m x
  · rw [h] at h4; cases h4.1
  · obtain ⟨j, hj, rfl⟩ := List.getElem_of_mem hb
    have hirr := lessA_irrefl (m, x)
    rcases Nat.lt_or_ge j k with hl | hl
    · have := h3 xs[j] (by rw [List.mem_iff_getElem]; exact ⟨j, by rw [List.length_take]; omega, by rw [List.getElem_take]⟩)
      rw [he.1, he.2, hirr] at this; cases this
    · have hk := h4 xs[k] (List.getElem?_eq_getElem (by omega))
      by_cases e : k = j
      · subst e
        rw [he.1, he.2, hirr] at hk; cases hk
      · have := List.pairwise_iff_getElem.1 ((rightB_iff xs).1 hr).2.2 k j (by omega) hj (by omega)
        have := lessA_trans _ _ _ hk this
        rw [he.1, he.2, hirr] at this; cases this
theorem bind_ne {xs : List BondX} {wt : BondX} (hr : rightB xs = true) (h : (placeB xs wt.1.1 wt.1.2).2 = false) : ∀ r ∈ xs.map encB, r ≠ encB wt := fun r hr' e => by
  obtain ⟨u, hu, rfl⟩ := List.mem_map.1 hr'
  unfold encB at e
  simp only [List.cons.injEq, Value.string.injEq] at e
  exact place_none hr h u hu ⟨e.1, e.2.1⟩
abbrev smallB (xs : List BondX) : Prop := ∀ b ∈ xs, b.1.2.size ≤ 140737488355328
set_option maxHeartbeats 1000000 in
theorem goodB_v (b : BondX) (w : World) (L : List Nat) (hL : LL L w) (hM : MaxL L w)  (hs : b.1.2.size ≤ 140737488355328) : CV Tryz.prog 58 [.agg #[.string b.1.1, .string b.1.2, .string b.2.1, .int .i64 b.2.2]] w fun v W => v = .bool (goodB b) := by
  refine cv_enter (N := 16) (f := [(0, .agg #[.string b.1.1, .string b.1.2, .string b.2.1, .int .i64 b.2.2])]) Tryz.func58 rfl rfl rfl rfl fun Q hQ hE => ?_
  have hB := Below.refl w.heap.size w
  refine WC.seq fun K1 hK1 => ?_
  refine WC.region ?_
  refine WL.get (dx_box rfl rfl rfl) rfl rfl ?_
  rintro _ W2 ⟨rfl, k3, b4, z5⟩
  have l6 := hB.size
  replace hM := hM.more b4 (Nat.le_refl _)
  replace hB := below_then hB b4
  replace hL := LL.more hL z5
  refine WL.val (dx_assign rfl rfl) rfl rfl ?_
  refine WL.nil ?_
  refine hK1 ?_
  refine WC.seq fun K7 hK7 => ?_
  refine WC.region ?_
  refine WL.val (dx_fld (o1 := 0) rfl ty_fld_42_0_0 rfl rfl) rfl rfl ?_
  refine WL.val (dx_loadN (cs := [.string b.1.1, .string b.1.2]) rfl ty_agg_40_2 rfl (k3.part 0 2) rfl) rfl rfl ?_
  refine WL.get (dx_cv rfl Tryz.func80 rfl rfl rfl (right_v b.1.1 b.1.2 W2 _ hL hM hs)) rfl rfl ?_
  rintro _ W9 ⟨rfl, b8⟩
  replace hM := hM.below b8
  replace k3 := k3.below b8
  replace hB := below_then hB b8
  replace hL := LL.below hL b8
  refine WL.val (dx_move rfl rfl) rfl rfl ?_
  refine WL.split 6 rfl (fun g10 => ?_) (fun g10 => ?_)
  ·
    refine WL.val (dx_fld (o1 := 2) rfl ty_fld_42_1_2 rfl rfl) rfl rfl ?_
    refine WL.val (dx_load rfl ty_one_9 rfl (k3.cell (k := 2) rfl)) rfl rfl ?_
    refine WL.get (dx_cv rfl Tryz.func37 rfl rfl rfl (user_v b.2.1 W9 hM.1)) rfl rfl ?_
    rintro _ W12 ⟨rfl, b11⟩
    replace hM := hM.below b11
    replace k3 := k3.below b11
    replace hB := below_then hB b11
    replace hL := LL.below hL b11
    refine WL.val (dx_pick rfl rfl rfl) rfl rfl ?_
    refine WL.val (dx_move rfl rfl) rfl rfl ?_
    refine WL.split 11 rfl (fun g13 => ?_) (fun g13 => ?_)
    ·
      refine WL.val (dx_fld (o1 := 3) rfl ty_fld_42_2_3 rfl rfl) rfl rfl ?_
      refine WL.val (dx_load rfl ty_one_3 rfl (k3.cell (k := 3) rfl)) rfl rfl ?_
      refine WL.get (dx_cv rfl Tryz.func81 rfl rfl rfl (number_v b.2.2 0 W12 [] (LL.nil _))) rfl rfl ?_
      rintro _ W15 ⟨rfl, b14⟩
      replace hM := hM.below b14
      replace k3 := k3.below b14
      replace hB := below_then hB b14
      replace hL := LL.below hL b14
      refine WL.val (dx_pick rfl rfl rfl) rfl rfl ?_
      refine WL.val (dx_assign rfl rfl) rfl rfl ?_
      refine WL.nil ?_
      refine hK7 ?_
      refine WC.ret fun a_ ha_ => ?_
      exact hQ (cv_ret1 rfl (.tmp rfl) (by simp [goodB, *]) hB ha_)
    ·
      refine WL.off rfl rfl rfl ?_
      refine WL.off rfl rfl rfl ?_
      refine WL.off rfl rfl rfl ?_
      refine WL.val (dx_pick rfl rfl rfl) rfl rfl ?_
      refine WL.val (dx_assign rfl rfl) rfl rfl ?_
      refine WL.nil ?_
      refine hK7 ?_
      refine WC.ret fun a_ ha_ => ?_
      exact hQ (cv_ret1 rfl (.tmp rfl) (by simp [goodB, *]) hB ha_)
  ·
    refine WL.off rfl rfl rfl ?_
    refine WL.off rfl rfl rfl ?_
    refine WL.off rfl rfl rfl ?_
    refine WL.val (dx_pick rfl rfl rfl) rfl rfl ?_
    refine WL.val (dx_move rfl rfl) rfl rfl ?_
    refine WL.off rfl rfl rfl ?_
    refine WL.off rfl rfl rfl ?_
    refine WL.off rfl rfl rfl ?_
    refine WL.val (dx_pick rfl rfl rfl) rfl rfl ?_
    refine WL.val (dx_assign rfl rfl) rfl rfl ?_
    refine WL.nil ?_
    refine hK7 ?_
    refine WC.ret fun a_ ha_ => ?_
    exact hQ (cv_ret1 rfl (.tmp rfl) (by simp [goodB, *]) hB ha_)

set_option maxHeartbeats 1000000 in
theorem rightB_v (xs : List BondX) (sv : Value) (w : World) (L : List Nat) (hL : LL L w) (h1 : RdF 4 L w sv (xs.map encB)) (hM : MaxL L w)  (hsz : smallB xs) : CV Tryz.prog 31 [sv] w fun v W => v = .bool (rightB xs) := by
  refine cv_enter (N := 35) (f := [(0, sv)]) Tryz.func31 rfl rfl rfl rfl fun Q hQ hE => ?_
  have hB := Below.refl w.heap.size w
  have h1m : xs.length ≤ maxLen := by have := h1.len; rwa [List.length_map] at this
  unfold maxLen at h1m
  refine WC.seq fun K1 hK1 => ?_
  refine WC.region ?_
  refine WL.val (dx_assign rfl rfl) rfl rfl ?_
  refine WL.nil ?_
  refine hK1 ?_
  refine WC.seq fun K2 hK2 => ?_
  refine WC.seq fun K3 hK3 => ?_
  refine WC.region ?_
  refine WL.val (dx_move rfl rfl) rfl rfl ?_
  refine WL.val (dx_lenX rfl ty_slice_38 rfl h1) rfl rfl ?_
  refine WL.val (dx_gtr rfl rfl rfl) rfl rfl ?_
  refine WL.nil ?_
  refine hK3 ?_
  refine WC.cond rfl (fun c4 => ?_) (fun c4 => ?_)
  ·
    replace c4 := of_decide_eq_true c4
    refine WC.seq fun K5 hK5 => ?_
    refine WC.region ?_
    refine WL.val (dx_assign rfl rfl) rfl rfl ?_
    refine WL.nil ?_
    refine hK5 ?_
    refine WC.ret fun a_ ha_ => ?_
    exact hQ (cv_ret1 rfl (.tmp rfl) (by rw [show rightB xs = false from right_f1 (by omega)]) hB ha_)
  ·
    replace c4 := of_decide_eq_false c4
    refine WC.skip ?_
    refine hK2 ?_
    refine WC.seq fun K6 hK6 => ?_
    refine WC.seq fun K7 hK7 => ?_
    refine WC.region ?_
    refine WL.val (dx_move rfl rfl) rfl rfl ?_
    refine WL.val (dx_lenX rfl ty_slice_38 rfl h1) rfl rfl ?_
    refine WL.val (dx_move rfl rfl) rfl rfl ?_
    refine WL.nil ?_
    refine hK7 ?_
    refine WC.block ?_
    refine WC.loop (fun (i : Nat) => [(0, sv), (8, sv), (9, .int .i64 (xs.length : Int)), (10, .int .i64 (i : Int))]) (fun (i : Nat) W => i ≤ xs.length ∧ (∀ k a, k < i → xs[k]? = some a → goodB a = true) ∧ (∀ k a b, k + 1 < i → xs[k]? = some a → xs[k + 1]? = some b → (fun a b => lessA (a.1.1, a.1.2) (b.1.1, b.1.2)) a b = true) ∧ Below w.heap.size w W ∧ LL (L) W ∧ RdF 4 (L) W sv (xs.map encB) ∧ MaxL (L) W) (fun (i : Nat) => xs.length - i) 0 (by repeat first | exact trivial | exact And.intro rfl trivial | refine And.intro rfl ?_ | refine And.intro (congrArg (fun z : Int => some (Value.int .i64 z)) (by omega)) ?_) ⟨Nat.zero_le _, (fun k a hk => by omega), (fun k a b hk => by omega), hB, hL, h1, hM⟩ ?_
    clear h1 hM hB hL
    rintro K8 i W9 ⟨hi, hv, hu, hB, hL, h1, hM⟩ hK8
    refine WC.seq fun K10 hK10 => ?_
    refine WC.region ?_
    refine WL.val (dx_lss rfl rfl rfl) rfl rfl ?_
    refine WL.nil ?_
    refine hK10 ?_
    refine WC.seq fun K11 hK11 => ?_
    refine WC.cond rfl (fun c12 => ?_) (fun c12 => ?_)
    ·
      replace c12 := of_decide_eq_true c12
      refine WC.skip ?_
      refine hK11 ?_
      refine WC.seq fun K13 hK13 => ?_
      refine WC.block ?_
      refine WC.seq fun K14 hK14 => ?_
      refine WC.region ?_
      refine WL.val (dx_move rfl rfl) rfl rfl ?_
      obtain ⟨r15, e16⟩ : ∃ x, xs[i]? = some x := ⟨_, List.getElem?_eq_getElem (by omega)⟩
      refine WL.get (dx_idxF i rfl ty_slice_38 rfl rfl h1 (by omega) (at_mapX e16)) rfl rfl ?_
      rintro u17 _ ⟨rfl, p18⟩
      refine WL.val (dx_loadPN rfl ty_agg_42_4 rfl p18 rfl) rfl rfl ?_
      refine WL.get (dx_alloc rfl ty_zero_42 rfl) rfl rfl ?_
      rintro _ W19 ⟨rfl, k20, b21, z22⟩
      have l23 := hB.size
      replace h1 := h1.more b21 (Nat.le_refl _)
      replace hM := hM.more b21 (Nat.le_refl _)
      replace p18 := p18.more b21 (Nat.le_refl _)
      replace hB := below_then hB b21
      replace hL := LL.more hL z22
      refine WL.val (dx_assign rfl rfl) rfl rfl ?_
      refine WL.do (dx_store (cs' := [.string r15.1.1, .string r15.1.2, .string r15.2.1, .int .i64 r15.2.2]) (vs := [.string r15.1.1, .string r15.1.2, .string r15.2.1, .int .i64 r15.2.2]) rfl ty_size_42_4 rfl rfl rfl (oc_cons rfl (oc_cons rfl (oc_cons rfl (oc_cons rfl oc_nil)))) k20 rfl (Nat.le_of_ble_eq_true rfl) rfl) rfl ?_
      rintro _ W24 ⟨k26, o25⟩
      clear k20
      replace h1 := h1.only o25 (.head _)
      replace hM := hM.only o25 (.head _)
      replace p18 := p18.only o25 (.head _)
      replace hB := o25.below hB l23
      replace hL := LL.only hL o25
      refine WL.nil ?_
      refine hK14 ?_
      refine WC.seq fun K27 hK27 => ?_
      obtain ⟨b28, hb28⟩ : ∃ b, b = (!(goodB r15)) := ⟨_, rfl⟩
      obtain ⟨b29, hb29⟩ : ∃ b, b = ((!b28) && (decide (0 < (i : Int)))) := ⟨_, rfl⟩
      obtain ⟨r30, e31⟩ : ∃ x, xs[(i - 1)]? = some x := ⟨_, List.getElem?_eq_getElem (by omega)⟩
      refine WC.drawM 19 [(some 15, .is (.agg #[.string r15.1.1, .string r15.1.2, .string r15.2.1, .int .i64 r15.2.2])), (some 16, .is (.bool (goodB r15))), (some 17, .is (.bool (!(goodB r15)))), (some 18, .is (.bool b28)), (some 19, .is (bif b28 then undef else .int .i64 (i : Int))), (some 20, .is (bif b28 then undef else .bool (decide (0 < (i : Int))))), (some 21, .is (bif b28 then undef else .bool b29)), (some 22, .is (bif b29 then sv else undef)), (some 23, .is (bif b29 then .int .i64 (i : Int) else undef)), (some 24, .is (bif b29 then .int .i64 ((i : Int) - 1) else undef)), (some 25, .by fun u W => b29 = true → PtR (W9.heap.size :: L) W u (encB r30)), (some 26, .by fun u W => b29 = true → PtR (W9.heap.size :: L) W u [.string r30.1.1, .string r30.1.2]), (some 27, .is (bif b29 then .agg #[.string r30.1.1, .string r30.1.2] else undef)), (some 28, .is (bif b29 then .pointer (some ⟨W9.heap.size, 0, none⟩) else undef)), (some 29, .is (bif b29 then .agg #[.string r15.1.1, .string r15.1.2] else undef)), (some 30, .is (bif b29 then .bool (lessA (r30.1.1, r30.1.2) (r15.1.1, r15.1.2)) else undef)), (some 31, .is (bif b29 then .bool (!(lessA (r30.1.1, r30.1.2) (r15.1.1, r15.1.2))) else undef)), (some 32, .is (bif b28 then undef else .bool (b29 && (!(lessA (r30.1.1, r30.1.2) (r15.1.1, r15.1.2)))))), (some 33, .is (.bool (b28 || (b29 && (!(lessA (r30.1.1, r30.1.2) (r15.1.1, r15.1.2)))))))] [[], [0], [1], [2, 1], [3], [4, 3], [5, 3, 3], [6], [6], [8, 6], [7, 9, 6], [10, 6], [11, 6], [6], [13, 6], [12, 14, 6, 6], [15, 6], [6, 16, 3], [3, 17]] (by kernel_rfl) (by kernel_rfl) (by kernel_rfl) (by kernel_rfl) (by kernel_rfl) (by kernel_rfl) (by kernel_rfl) ⟨fun _ _ _ hb h g => (h g).below hb, fun _ _ _ hb h g => (h g).below hb, trivial⟩ ?_ ?_
      ·
        refine DSteps.cons (fun Wd hd => ?_) ?_
        ·
          have k26 := k26.below hd
          exact DV.dr (dx_loadN rfl ty_agg_42_4 rfl k26.range rfl) ⟨Below.refl _ _, rfl⟩
        refine DSteps.cons (fun Wd hd => ?_) ?_
        ·
          have hM := hM.below hd
          exact DR.mono (dx_cv rfl Tryz.func58 rfl rfl rfl (goodB_v r15 Wd _ (LL.below hL hd) hM (hsz r15 (List.mem_of_getElem? e16)))) (fun v W' ⟨h, hb⟩ => ⟨hb, (by rw [h]; exact rfl)⟩)
        refine DSteps.cons (fun Wd hd => ?_) ?_
        ·
          exact DV.dr (dx_not rfl rfl) ⟨Below.refl _ _, rfl⟩
        refine DSteps.cons (fun Wd hd => ?_) ?_
        ·
          exact DV.dr (dx_move rfl rfl) ⟨Below.refl _ _, by rw [hb28]; rfl⟩
        refine DSteps.cons (fun Wd hd => ?_) ?_
        ·
          cases b28
          ·
            exact DV.dr (dx_move rfl rfl) ⟨Below.refl _ _, rfl⟩
          ·
            exact DV.dr (dv_off rfl) ⟨Below.refl _ _, rfl⟩
        refine DSteps.cons (fun Wd hd => ?_) ?_
        ·
          cases b28
          ·
            exact DV.dr (dx_gtr rfl rfl rfl) ⟨Below.refl _ _, rfl⟩
          ·
            exact DV.dr (dv_off rfl) ⟨Below.refl _ _, rfl⟩
        refine DSteps.cons (fun Wd hd => ?_) ?_
        ·
          cases b28
          ·
            exact DV.dr (dx_move rfl rfl) ⟨Below.refl _ _, by rw [hb29]; rfl⟩
          ·
            exact DV.dr (dv_off rfl) ⟨Below.refl _ _, by rw [hb29]; rfl⟩
        refine DSteps.cons (fun Wd hd => ?_) ?_
        ·
          cases b28
          ·
            cases b29
            ·
              exact DV.dr (dv_off rfl) ⟨Below.refl _ _, rfl⟩
            ·
              exact DV.dr (dx_move rfl rfl) ⟨Below.refl _ _, rfl⟩
          ·
            cases b29
            ·
              exact DV.dr (dv_off rfl) ⟨Below.refl _ _, rfl⟩
            ·
              exact absurd hb29 (by simp)
        refine DSteps.cons (fun Wd hd => ?_) ?_
        ·
          cases b28
          ·
            cases b29
            ·
              exact DV.dr (dv_off rfl) ⟨Below.refl _ _, rfl⟩
            ·
              exact DV.dr (dx_move rfl rfl) ⟨Below.refl _ _, rfl⟩
          ·
            cases b29
            ·
              exact DV.dr (dv_off rfl) ⟨Below.refl _ _, rfl⟩
            ·
              exact absurd hb29 (by simp)
        refine DSteps.cons (fun Wd hd => ?_) ?_
        ·
          cases b28
          ·
            cases b29
            ·
              exact DV.dr (dv_off rfl) ⟨Below.refl _ _, rfl⟩
            ·
              exact DV.dr (dx_sub (r := (i : Int) - 1) rfl rfl rfl (wrap64_id (by omega))) ⟨Below.refl _ _, rfl⟩
          ·
            cases b29
            ·
              exact DV.dr (dv_off rfl) ⟨Below.refl _ _, rfl⟩
            ·
              exact absurd hb29 (by simp)
        refine DSteps.cons (fun Wd hd => ?_) ?_
        ·
          cases b28
          ·
            cases b29
            ·
              exact DV.dr (dv_off rfl) ⟨Below.refl _ _, fun h => by cases h⟩
            ·
              have h1 := h1.below hd
              exact (dx_idxF (i - 1) rfl ty_slice_38 rfl rfl h1 (by first | omega | (have hq_ := of_decide_eq_true hb29.symm; omega)) (at_mapX e31)).mono (fun v W' h => ⟨by rw [← h.1]; exact Below.refl _ _, fun _ => by rw [← h.1]; exact h.2⟩)
          ·
            cases b29
            ·
              exact DV.dr (dv_off rfl) ⟨Below.refl _ _, fun h => by cases h⟩
            ·
              exact absurd hb29 (by simp)
        refine DSteps.cons (fun Wd hd => ?_) ?_
        ·
          intro u6_10 p6_10
          cases b28
          ·
            cases b29
            ·
              exact DV.dr (dv_off rfl) ⟨Below.refl _ _, fun h => by cases h⟩
            ·
              replace p6_10 := p6_10 rfl
              exact (dx_fldP 2 rfl ty_fld_42_0_0 rfl p6_10 (cs' := [.string r30.1.1, .string r30.1.2]) rfl (Nat.succ_pos _)).mono (fun v W' h => ⟨by rw [← h.1]; exact Below.refl _ _, fun _ => by rw [← h.1]; exact h.2⟩)
          ·
            cases b29
            ·
              exact DV.dr (dv_off rfl) ⟨Below.refl _ _, fun h => by cases h⟩
            ·
              replace p6_10 := p6_10 rfl
              exact absurd hb29 (by simp)
        refine DSteps.cons (fun Wd hd => ?_) ?_
        ·
          intro u6_11 p6_11
          cases b28
          ·
            cases b29
            ·
              exact DV.dr (dv_off rfl) ⟨Below.refl _ _, rfl⟩
            ·
              replace p6_11 := p6_11 rfl
              exact DV.dr (dx_loadPN rfl ty_agg_40_2 rfl p6_11 rfl) ⟨Below.refl _ _, rfl⟩
          ·
            cases b29
            ·
              exact DV.dr (dv_off rfl) ⟨Below.refl _ _, rfl⟩
            ·
              replace p6_11 := p6_11 rfl
              exact absurd hb29 (by simp)
        refine DSteps.cons (fun Wd hd => ?_) ?_
        ·
          cases b28
          ·
            cases b29
            ·
              exact DV.dr (dv_off rfl) ⟨Below.refl _ _, rfl⟩
            ·
              exact DV.dr (dx_fld (o1 := 0) rfl ty_fld_42_0_0 rfl rfl) ⟨Below.refl _ _, rfl⟩
          ·
            cases b29
            ·
              exact DV.dr (dv_off rfl) ⟨Below.refl _ _, rfl⟩
            ·
              exact absurd hb29 (by simp)
        refine DSteps.cons (fun Wd hd => ?_) ?_
        ·
          cases b28
          ·
            cases b29
            ·
              exact DV.dr (dv_off rfl) ⟨Below.refl _ _, rfl⟩
            ·
              have k26 := k26.below hd
              exact DV.dr (dx_loadN (cs := [.string r15.1.1, .string r15.1.2]) rfl ty_agg_40_2 rfl (k26.part 0 2) rfl) ⟨Below.refl _ _, rfl⟩
          ·
            cases b29
            ·
              exact DV.dr (dv_off rfl) ⟨Below.refl _ _, rfl⟩
            ·
              exact absurd hb29 (by simp)
        refine DSteps.cons (fun Wd hd => ?_) ?_
        ·
          cases b28
          ·
            cases b29
            ·
              exact DV.dr (dv_off rfl) ⟨Below.refl _ _, rfl⟩
            ·
              exact DR.mono (dx_cv rfl Tryz.func66 rfl rfl rfl (lessA_v r30.1.1 r30.1.2 r15.1.1 r15.1.2 Wd [] (LL.nil _))) (fun v W' ⟨h, hb⟩ => ⟨hb, (by rw [h]; exact rfl)⟩)
          ·
            cases b29
            ·
              exact DV.dr (dv_off rfl) ⟨Below.refl _ _, rfl⟩
            ·
              exact absurd hb29 (by simp)
        refine DSteps.cons (fun Wd hd => ?_) ?_
        ·
          cases b28
          ·
            cases b29
            ·
              exact DV.dr (dv_off rfl) ⟨Below.refl _ _, rfl⟩
            ·
              exact DV.dr (dx_not rfl rfl) ⟨Below.refl _ _, rfl⟩
          ·
            cases b29
            ·
              exact DV.dr (dv_off rfl) ⟨Below.refl _ _, rfl⟩
            ·
              exact absurd hb29 (by simp)
        refine DSteps.cons (fun Wd hd => ?_) ?_
        ·
          cases b28
          ·
            cases b29
            ·
              exact DV.dr (dx_pick rfl rfl rfl) ⟨Below.refl _ _, rfl⟩
            ·
              exact DV.dr (dx_pick rfl rfl rfl) ⟨Below.refl _ _, rfl⟩
          ·
            cases b29
            ·
              exact DV.dr (dv_off rfl) ⟨Below.refl _ _, rfl⟩
            ·
              exact absurd hb29 (by simp)
        refine DSteps.cons (fun Wd hd => ?_) ?_
        ·
          cases b28
          ·
            exact DV.dr (dx_pick rfl rfl rfl) ⟨Below.refl _ _, rfl⟩
          ·
            exact DV.dr (dx_pick rfl rfl rfl) ⟨Below.refl _ _, rfl⟩
        exact trivial
      ·
        intro W32 b33
        intro _ _
        intro _ _
        replace h1 := h1.below b33
        replace hM := hM.below b33
        replace k26 := k26.below b33
        replace hB := below_then hB b33
        replace hL := LL.below hL b33
        refine WL.nil ?_
        refine hK27 ?_
        refine WC.cond rfl (fun c34 => ?_) (fun c34 => ?_)
        ·
          refine WC.seq fun K35 hK35 => ?_
          refine WC.region ?_
          refine WL.val (dx_assign rfl rfl) rfl rfl ?_
          refine WL.nil ?_
          refine hK35 ?_
          refine WC.ret fun a_ ha_ => ?_
          exact hQ (cv_ret1 rfl (.tmp rfl) (by rw [show rightB xs = false from right_fD (g := goodB) (r := (fun a b => lessA (a.1.1, a.1.2) (b.1.1, b.1.2))) e31 e16 hb28 hb29 c34]) hB ha_)
        ·
          obtain ⟨g36, g37⟩ := bor_f c34
          refine WC.skip ?_
          refine hK13 ?_
          refine WC.region ?_
          refine WL.val (dx_add (r := (i : Int) + 1) rfl rfl rfl (wrap64_id (by omega))) rfl rfl ?_
          refine WL.val (dx_move rfl rfl) rfl rfl ?_
          refine WL.nil ?_
          obtain ⟨hv', hu'⟩ := stepD (g := goodB) (r := (fun a b => lessA (a.1.1, a.1.2) (b.1.1, b.1.2))) hv hu e31 e16 hb28 hb29 g36 g37
          replace hL := hL.less (fun x hx => (.tail _ hx))
          replace h1 := h1.less (fun x hx => (.tail _ hx))
          replace hM := hM.less (fun x hx => (.tail _ hx))
          exact hK8 (i + 1) ⟨(by omega), hv', hu', hB, hL, h1, hM⟩ (by omega) (by repeat first | exact trivial | exact And.intro rfl trivial | refine And.intro rfl ?_ | refine And.intro (congrArg (fun z : Int => some (Value.int .i64 z)) (by omega)) ?_)
    ·
      replace c12 := of_decide_eq_false c12
      refine WC.exit ?_
      refine hK6 ?_
      refine WC.seq fun K38 hK38 => ?_
      refine WC.region ?_
      refine WL.val (dx_assign rfl rfl) rfl rfl ?_
      refine WL.nil ?_
      refine hK38 ?_
      refine WC.ret fun a_ ha_ => ?_
      exact hQ (cv_ret1 rfl (.tmp rfl) (by rw [show rightB xs = true from right_t (by omega) (fun k a hk => hv k a (by omega)) (fun k a b hk => hu k a b (by omega))]) hB ha_)

def noB : BondX := ((⟨#[]⟩, ⟨#[]⟩), ⟨#[]⟩, 0)
def findB (xs : List BondX) (m x : ByteArray) : BondX × Bool := if rightB xs = true ∧ (placeB xs m x).2 = true then ((xs[(placeB xs m x).1.toNat]?).getD noB, true) else (noB, false)
set_option maxHeartbeats 1000000 in
theorem find_v (xs : List BondX) (m x : ByteArray) (sv : Value) (w : World) (L : List Nat) (hL : LL L w) (h1 : RdF 4 L w sv (xs.map encB)) (hM : MaxL L w)  (hsz : smallB xs) : CV Tryz.prog 28 [sv, .agg #[.string m, .string x]] w fun v W => v = .tuple #[.agg (encB (findB xs m x).1).toArray, .bool (findB xs m x).2] := by
  refine cv_enter (N := 25) (f := [(0, sv), (1, .agg #[.string m, .string x])]) Tryz.func28 rfl rfl rfl rfl fun Q hQ hE => ?_
  have hB := Below.refl w.heap.size w
  have h1m : xs.length ≤ maxLen := by have := h1.len; rwa [List.length_map] at this
  unfold maxLen at h1m
  refine WC.seq fun K1 hK1 => ?_
  refine WC.region ?_
  refine WL.get (dx_box rfl rfl rfl) rfl rfl ?_
  rintro _ W2 ⟨rfl, k3, b4, z5⟩
  have l6 := hB.size
  replace h1 := h1.more b4 (Nat.le_refl _)
  replace hM := hM.more b4 (Nat.le_refl _)
  replace hB := below_then hB b4
  replace hL := LL.more hL z5
  refine WL.get (dx_alloc rfl ty_zero_42 rfl) rfl rfl ?_
  rintro _ W7 ⟨rfl, k8, b9, z10⟩
  have n11 : w.heap.size ≠ W2.heap.size := Nat.ne_of_lt k3.lt
  have l12 := hB.size
  replace h1 := h1.more b9 (Nat.le_refl _)
  replace hM := hM.more b9 (Nat.le_refl _)
  replace k3 := k3.below b9
  replace hB := below_then hB b9
  replace hL := LL.more hL z10
  refine WL.val (dx_assign rfl rfl) rfl rfl ?_
  refine WL.nil ?_
  refine hK1 ?_
  refine WC.seq fun K13 hK13 => ?_
  refine WC.seq fun K14 hK14 => ?_
  refine WC.region ?_
  refine WL.val (dx_move rfl rfl) rfl rfl ?_
  refine WL.get (dx_cv rfl Tryz.func31 rfl rfl rfl (rightB_v xs _ W7 _ hL h1 hM hsz)) rfl rfl ?_
  rintro _ W16 ⟨rfl, b15⟩
  replace h1 := h1.below b15
  replace hM := hM.below b15
  replace k3 := k3.below b15
  replace k8 := k8.below b15
  replace hB := below_then hB b15
  replace hL := LL.below hL b15
  refine WL.val (dx_not rfl rfl) rfl rfl ?_
  refine WL.nil ?_
  refine hK14 ?_
  refine WC.cond rfl (fun c17 => ?_) (fun c17 => ?_)
  ·
    replace c17 := bnot_t c17
    refine WC.seq fun K18 hK18 => ?_
    refine WC.region ?_
    refine WL.val (dx_build rfl rfl (built_of_O (cs := [.string ⟨#[]⟩, .string ⟨#[]⟩, .string ⟨#[]⟩, .int .i64 0]) (by kernel_rfl) oc_nil)) rfl rfl ?_
    refine WL.do (dx_store (cs' := [.string ⟨#[]⟩, .string ⟨#[]⟩, .string ⟨#[]⟩, .int .i64 0]) (vs := [.string ⟨#[]⟩, .string ⟨#[]⟩, .string ⟨#[]⟩, .int .i64 0]) rfl ty_size_42_4 rfl rfl rfl (oc_cons rfl (oc_cons rfl (oc_cons rfl (oc_cons rfl oc_nil)))) k8 rfl (Nat.le_of_ble_eq_true rfl) rfl) rfl ?_
    rintro _ W19 ⟨k21, o20⟩
    replace k3 := k3.other o20 n11
    clear k8
    replace h1 := h1.only o20 (.head _)
    replace hM := hM.only o20 (.head _)
    replace hB := o20.below hB l12
    replace hL := LL.only hL o20
    refine WL.val (dx_assign rfl rfl) rfl rfl ?_
    refine WL.nil ?_
    refine hK18 ?_
    refine WC.ret fun a_ ha_ => ?_
    exact hQ (cv_ret2 rfl (.agg rfl ty_agg_42_4 k21.range rfl) (.tmp rfl) (by unfold findB; rw [if_neg (by intro h; simp_all)]; rfl) hB ha_)
  ·
    replace c17 := bnot_f c17
    refine WC.skip ?_
    refine hK13 ?_
    refine WC.seq fun K22 hK22 => ?_
    refine WC.region ?_
    refine WL.val (dx_move rfl rfl) rfl rfl ?_
    refine WL.val (dx_loadN rfl ty_agg_40_2 rfl k3.range rfl) rfl rfl ?_
    refine WL.get (dx_cv rfl Tryz.func59 rfl rfl rfl (place_v xs m x _ W16 _ hL h1)) rfl rfl ?_
    rintro _ W24 ⟨rfl, b23⟩
    replace h1 := h1.below b23
    replace hM := hM.below b23
    replace k3 := k3.below b23
    replace k8 := k8.below b23
    replace hB := below_then hB b23
    replace hL := LL.below hL b23
    refine WL.val (dx_move rfl rfl) rfl rfl ?_
    refine WL.val (dx_extract rfl rfl rfl) rfl rfl ?_
    refine WL.val (dx_extract rfl rfl rfl) rfl rfl ?_
    refine WL.val (dx_assign rfl rfl) rfl rfl ?_
    refine WL.val (dx_assign rfl rfl) rfl rfl ?_
    refine WL.nil ?_
    refine hK22 ?_
    refine WC.seq fun K25 hK25 => ?_
    refine WC.seq fun K26 hK26 => ?_
    refine WC.region ?_
    refine WL.val (dx_move rfl rfl) rfl rfl ?_
    refine WL.val (dx_not rfl rfl) rfl rfl ?_
    refine WL.nil ?_
    refine hK26 ?_
    refine WC.cond rfl (fun c27 => ?_) (fun c27 => ?_)
    ·
      replace c27 := bnot_t c27
      refine WC.seq fun K28 hK28 => ?_
      refine WC.region ?_
      refine WL.val (dx_build rfl rfl (built_of_O (cs := [.string ⟨#[]⟩, .string ⟨#[]⟩, .string ⟨#[]⟩, .int .i64 0]) (by kernel_rfl) oc_nil)) rfl rfl ?_
      refine WL.do (dx_store (cs' := [.string ⟨#[]⟩, .string ⟨#[]⟩, .string ⟨#[]⟩, .int .i64 0]) (vs := [.string ⟨#[]⟩, .string ⟨#[]⟩, .string ⟨#[]⟩, .int .i64 0]) rfl ty_size_42_4 rfl rfl rfl (oc_cons rfl (oc_cons rfl (oc_cons rfl (oc_cons rfl oc_nil)))) k8 rfl (Nat.le_of_ble_eq_true rfl) rfl) rfl ?_
      rintro _ W29 ⟨k31, o30⟩
      replace k3 := k3.other o30 n11
      clear k8
      replace h1 := h1.only o30 (.head _)
      replace hM := hM.only o30 (.head _)
      replace hB := o30.below hB l12
      replace hL := LL.only hL o30
      refine WL.val (dx_assign rfl rfl) rfl rfl ?_
      refine WL.nil ?_
      refine hK28 ?_
      refine WC.ret fun a_ ha_ => ?_
      exact hQ (cv_ret2 rfl (.agg rfl ty_agg_42_4 k31.range rfl) (.tmp rfl) (by unfold findB; rw [if_neg (by intro h; simp_all)]; rfl) hB ha_)
    ·
      replace c27 := bnot_f c27
      refine WC.skip ?_
      refine hK25 ?_
      refine WC.seq fun K32 hK32 => ?_
      obtain ⟨k0, hk0, hkl, hlo, hcs⟩ := placeB_cases xs m x
      obtain ⟨b0, hb0, hbm, hbx⟩ : ∃ b, xs[k0]? = some b ∧ b.1.1 = m ∧ b.1.2 = x := (by rcases hcs with ⟨_, h⟩ | ⟨h, _⟩; exact h; exact absurd (show (placeB xs m x).2 = true by assumption) (by rw [h]; decide))
      have hl0 := (List.getElem?_eq_some_iff.1 hb0).1
      refine WC.region ?_
      refine WL.val (dx_move rfl rfl) rfl rfl ?_
      refine WL.val (dx_move rfl rfl) rfl rfl ?_
      refine WL.get (dx_idxF k0 rfl ty_slice_38 rfl rfl h1 (by omega) (at_mapX hb0)) rfl rfl ?_
      rintro u33 _ ⟨rfl, p34⟩
      refine WL.val (dx_loadPN rfl ty_agg_42_4 rfl p34 rfl) rfl rfl ?_
      refine WL.do (dx_store (cs' := [.string b0.1.1, .string b0.1.2, .string b0.2.1, .int .i64 b0.2.2]) (vs := [.string b0.1.1, .string b0.1.2, .string b0.2.1, .int .i64 b0.2.2]) rfl ty_size_42_4 rfl rfl rfl (oc_cons rfl (oc_cons rfl (oc_cons rfl (oc_cons rfl oc_nil)))) k8 rfl (Nat.le_of_ble_eq_true rfl) rfl) rfl ?_
      rintro _ W35 ⟨k37, o36⟩
      replace k3 := k3.other o36 n11
      clear k8
      replace h1 := h1.only o36 (.head _)
      replace hM := hM.only o36 (.head _)
      replace p34 := p34.only o36 (.head _)
      replace hB := o36.below hB l12
      replace hL := LL.only hL o36
      refine WL.val (dx_assign rfl rfl) rfl rfl ?_
      refine WL.nil ?_
      refine hK32 ?_
      refine WC.ret fun a_ ha_ => ?_
      exact hQ (cv_ret2 rfl (.agg rfl ty_agg_42_4 k37.range rfl) (.tmp rfl) (by unfold findB; rw [if_pos ⟨by assumption, by assumption⟩, hk0, Int.toNat_natCast, hb0]; rfl) hB ha_)

end Go.Proofs.YthefddclefimoaaGreatDoor
namespace Go.Proofs.YthefddclefimoaaGreatDoor
open Go.ChangeShapes Go.WideShapes Go.ChangeAt Go.RowKit
set_option linter.unusedVariables false
section
variable {P : Program} {H : Type} {enc : TypeId × Value → H} {W : World} {base : Nat} {sp : Nat → Bool} {held : Bool}
theorem rd_of_sliceD {α : Type} (en : α → List Value) (good : α → DataW H → Prop) {s : Nat} (hs : 0 < s) {t e : TypeId} {fuel : Nat} {cs : List Value} {x : DataW H × List MemPlace} (ht : P.underlying t = some (.slice e)) (hce : P.cellsOf e = s) (hl : ∀ a d, good a d → (en a).length = s)
    (hel : ∀ n cs x, DataW.trod enc P W base sp held n e cs = some x → ∃ a, cs = en a ∧ good a x.1) (h : DataW.trod enc P W base sp held fuel t cs = some x) : ∃ (v : Value) (xs : List α), cs = [v] ∧ RdF s [] W v (xs.map en) ∧ ∀ a ∈ xs, ∃ es sps d, x.1 = .slice es sps ∧ d ∈ es ∧ good a d := by
  rcases DataW.trod_slice ht h with ⟨rfl, _⟩ | ⟨a, len, cap, elems, rest, n, rfl, rfl, hxe, hb, hlc, hcm, hlen, hx, _⟩
  · exact ⟨_, [], rfl, RdF.nil hs, fun a ha => by cases ha⟩
  · obtain ⟨xs, hxl, hxs⟩ := choose_list (fun i (y : α) => (∃ d, d ∈ elems ∧ good y d.1) ∧ W.cells? base (a.add (i * s)) s = some (en y)) len (fun i hi => by
      have h1 := hx i hi
      rw [hce, List.getElem?_eq_getElem (by omega)] at h1
      obtain ⟨cs', h2, h3⟩ := Option.bind_eq_some_iff.1 h1
      obtain ⟨y, rfl, hg⟩ := hel n cs' _ h3
      exact ⟨y, ⟨_, List.getElem_mem _, hg⟩, h2⟩)
    have hgood : ∀ y ∈ xs, ∃ d, d ∈ elems ∧ good y d.1 := fun y hy => by
      obtain ⟨i, hi⟩ := List.getElem?_of_mem hy
      exact (hxs i y hi).1
    have hrl : ∀ r ∈ xs.map en, r.length = s := fun r hr => by
      obtain ⟨y, hy, rfl⟩ := List.mem_map.1 hr
      obtain ⟨d, _, hd⟩ := hgood y hy
      exact hl y _ hd
    refine ⟨_, xs, rfl, ⟨hs, hrl, some a, cap, by rw [List.length_map, hxl], by rw [List.length_map, hxl]; exact hlc, hcm, (fun e => by cases e), fun hn => ?_⟩, fun a ha => by
      obtain ⟨d, h1, h2⟩ := hgood a ha
      exact ⟨_, _, d.1, by rw [hxe], List.mem_map.2 ⟨d, h1, rfl⟩, h2⟩⟩
    have cellat : ∀ i y, xs[i]? = some y → ∀ j v, (en y)[j]? = some v → W.cell? ((a.add (i * s)).add j) = some v := fun i y hi j v hj => by
      have h2 := (hxs i y hi).2
      unfold World.cells? at h2
      split at h2
      · have hj' : j < s := by have := (List.getElem?_eq_some_iff.1 hj).1; obtain ⟨d, _, hd⟩ := (hxs i y hi).1; rw [hl y _ hd] at this; exact this
        have := mapM_some_get h2 j j (by simp [hj'])
        rw [this]; exact hj
      · cases h2
    have hne : 0 < xs.length := by
      rcases Nat.eq_zero_or_pos xs.length with h0 | h0
      · exact absurd (by rw [List.length_eq_zero_iff.1 h0]; rfl) hn
      · exact h0
    have hx0 : xs[0]? = some xs[0] := List.getElem?_eq_getElem hne
    have hspot : a.spot = none := by
      have hlen0 : 0 < (en xs[0]).length := by obtain ⟨d, _, hd⟩ := (hxs 0 _ hx0).1; rw [hl _ _ hd]; exact hs
      have := cellat 0 _ hx0 0 _ (List.getElem?_eq_getElem hlen0)
      have h3 := World.cell?_spot this
      have e0 : (a.add (0 * s)).add 0 = a := by simp [Addr.add]
      rw [e0] at h3
      exact h3
    obtain ⟨b, off, spot⟩ := a
    simp only at hspot
    subst hspot
    refine ⟨b, off, rfl, by simp, range_flat _ off hrl fun i r hi => ?_⟩
    rw [List.getElem?_map] at hi
    cases hy : xs[i]? with
    | none => rw [hy] at hi; cases hi
    | some y =>
      rw [hy] at hi
      cases hi
      intro j v hj
      have := cellat i y hy j v hj
      rw [addr_at, addr_at] at this
      exact this
theorem weights_all {e : TypeId} {n : Nat} {d : DataW H} : ∀ {es : List (DataW H)}, d ∈ es → n ∈ d.weights P e → n ∈ DataW.weightsAll P e es
  | x :: l, hd, hn => by
    rw [DataW.weightsAll]
    rcases List.mem_cons.1 hd with rfl | hd
    · exact List.mem_append_left _ hn
    · exact List.mem_append_right _ (weights_all hd hn)
theorem weights_slice {t e : TypeId} {n : Nat} {d : DataW H} {es sps : List (DataW H)} (ht : P.underlying t = some (.slice e)) (hd : d ∈ es) (hn : n ∈ d.weights P e) : n ∈ (DataW.slice es sps).weights P t := by
  rw [DataW.weights, ht]
  exact List.mem_cons_of_mem _ (List.mem_append_left _ (weights_all hd hn))
end
end Go.Proofs.YthefddclefimoaaGreatDoor
namespace Go.Proofs.YthefddclefimoaaGreatDoor
open Go.ChangeShapes Go.WideShapes Go.ChangeAt Go.RowKit
set_option linter.unusedVariables false
set_option maxRecDepth 8000
theorem own : ownKnob Tryz.prog.godebug = none := by kernel_rfl
theorem laidOut : laidOutB Tryz.prog = true := by kernel_rfl
theorem cB : Tryz.prog.cellsOf 42 = 4 := by kernel_rfl
theorem cA : Tryz.prog.cellsOf 40 = 2 := by kernel_rfl
theorem cT : Tryz.prog.cellsOf 9 = 1 := by kernel_rfl
theorem cI : Tryz.prog.cellsOf 3 = 1 := by kernel_rfl
section
variable {H : Type} {enc : TypeId × Value → H} {W : World} {base : Nat} {sp : Nat → Bool} {held : Bool}
theorem el_A (n : Nat) (cs : List Value) (x : DataW H × List MemPlace) (h : DataW.trod enc Tryz.prog W base sp held n 40 cs = some x) : ∃ a b : ByteArray, cs = [.string a, .string b] ∧ b.size ∈ x.1.weights Tryz.prog 40 := by
  obtain ⟨y0, y1, m, rfl, hl, h0, h1⟩ := trod_struct2 Tryz.underlying40 h
  rw [cA] at hl
  match cs, hl with
  | [c, d], _ =>
    obtain ⟨a, ha, _, _⟩ := DataW.trod_string Tryz.underlying9 h0
    obtain ⟨b, hb, rfl, _⟩ := DataW.trod_string Tryz.underlying9 h1
    simp only [cT] at ha hb
    simp at ha hb
    exact ⟨a, b, by rw [ha, hb], by simp [DataW.weights, DataW.weightsEach, Tryz.underlying40]⟩
theorem el_B (n : Nat) (cs : List Value) (x : DataW H × List MemPlace) (h : DataW.trod enc Tryz.prog W base sp held n 42 cs = some x) : ∃ b : BondX, cs = encB b ∧ b.1.2.size ∈ x.1.weights Tryz.prog 42 := by
  obtain ⟨y0, y1, y2, m, rfl, hl, h0, h1, h2⟩ := Go.Deep.trod_struct3 Tryz.underlying42 h
  rw [cB] at hl
  match cs, hl with
  | [c, d, e, f], _ =>
    obtain ⟨a, b, ha, hw⟩ := el_A m _ _ h0
    obtain ⟨c', hc, _, _⟩ := DataW.trod_string Tryz.underlying9 h1
    obtain ⟨g, hg, _⟩ := DataW.trod_int Tryz.underlying3 h2
    simp only [cA, cT, cI] at ha hc hg
    simp at ha hc hg
    exact ⟨((a, b), c', g), by simp [encB, ha, hc, hg], by
      simp only [DataW.weights, Tryz.underlying42]
      simp only [DataW.weightsEach, List.map_cons, List.mem_append]
      exact .inl hw⟩
theorem open_bond {v : Value} {d : DataW H} {p : List MemPlace} (h0 : DataW.Trod enc Tryz.prog W base sp held 42 v d p) : ∃ b : BondX, v = .agg (encB b).toArray := by
  obtain ⟨fuel, hf⟩ := h0
  obtain ⟨b, e, _⟩ := el_B fuel _ _ hf
  cases v with
  | agg cs =>
    simp only [Value.cells] at e
    exact ⟨b, by rw [← e]⟩
  | _ => simp [Value.cells, encB] at e
theorem open_bonds {r : Reach} {b0 : Nat} {v : Value} {d : DataW H} {p : List MemPlace} (hv : Value.okWide Tryz.prog W r b0 38 v) (h : DataW.Trod enc Tryz.prog W base sp held 38 v d p) (hw : ∀ n ∈ d.weights Tryz.prog 38, n ≤ reachBytes) : ∃ xs : List BondX, RdF 4 [] W v (xs.map encB) ∧ smallB xs := by
  obtain ⟨a, len, cap, rfl⟩ := okWide_slice Tryz.underlying38 hv
  obtain ⟨fuel, hf⟩ := h
  obtain ⟨v, xs, e, r, g⟩ := rd_of_sliceD (s := 4) encB (fun b d => b.1.2.size ∈ d.weights Tryz.prog 42) (by decide) Tryz.underlying38 cB (fun _ _ _ => rfl) el_B hf
  simp [Value.cells] at e
  subst e
  refine ⟨xs, r, fun b hb => ?_⟩
  obtain ⟨es, sps, d', h1, h2, h3⟩ := g b hb
  have := hw _ (by simp only at h1; rw [h1]; exact weights_slice Tryz.underlying38 h2 h3)
  unfold reachBytes at this
  omega
end
end Go.Proofs.YthefddclefimoaaGreatDoor
namespace Go.Proofs.YthefddclefimoaaGreatDoor
open Go.RowKit
set_option linter.unusedVariables false

set_option maxHeartbeats 400000 in
theorem ref_digit_any (c : Int) (w : World) : Calls Tryz.prog 74 #[.int .u8 c] w fun e w' => e = .returned (.bool (digI c)) ∧ w = w' := by
  go_enter Tryz.func74, Tryz.ntmps74
  go_wp2
  all_goals go_ret
  all_goals exact ⟨by simp [digI, *]; try omega, rfl⟩
set_option maxHeartbeats 400000 in
theorem ref_small_any (c : Int) (w : World) : Calls Tryz.prog 73 #[.int .u8 c] w fun e w' => e = .returned (.bool (smlI c)) ∧ w = w' := by
  go_enter Tryz.func73, Tryz.ntmps73
  go_wp2
  all_goals go_ret
  all_goals exact ⟨by simp [smlI, *]; try omega, rfl⟩
set_option maxHeartbeats 400000 in
theorem ref_great_any (c : Int) (w : World) : Calls Tryz.prog 131 #[.int .u8 c] w fun e w' => e = .returned (.bool (grtI c)) ∧ w = w' := by
  go_enter Tryz.func131, Tryz.ntmps131
  go_wp2
  all_goals go_ret
  all_goals exact ⟨by simp [grtI, *]; try omega, rfl⟩
/-- The place of the first colon, or -1. -/
def colV (l : List Int) : Int := if colI l < l.length then (colI l : Int) else -1
theorem findIdx_at {p : Int → Bool} {l : List Int} {k : Nat} (hk : k < l.length) (h : (l.take k).all (fun x => !p x) = true) (hp : p (at0 l k) = true) : l.findIdx p = k := by
  rw [List.findIdx_eq hk]
  refine ⟨by rw [← at0_lt hk]; exact hp, fun j hj => ?_⟩
  have hm : l[j] ∈ l.take k := List.mem_take_iff_getElem.2 ⟨j, by omega, rfl⟩
  have := List.all_eq_true.1 h _ hm
  simpa using this
set_option maxHeartbeats 400000 in
theorem ref_colon_any (s : ByteArray) (w : World) (hs : s.size ≤ maxLen) :
    Calls Tryz.prog 94 #[.string s] w fun e w' => e = .returned (.int .i64 (colV (sb s))) ∧ w = w' := by
  unfold maxLen at hs
  have HL := Lib.hid (sb_length s)
  go_enter Tryz.func94, Tryz.ntmps94
  go_wp2
  go_loop [3] (fun i => ∃ k : Nat, k ≤ s.size ∧ i = .int .i64 k ∧ ((sb s).take k).all (fun x => !(x == 58)) = true) (fun i => s.size - (intOf i).toNat)
  case atStart => exact ⟨0, Nat.zero_le _, rfl, rfl⟩
  case round =>
    obtain ⟨k, hk, rfl, hall⟩ := hrel
    have H := Lib.hid hall; clear hall
    by_cases hlt : k < s.size
    · have hlk : k < (sb s).length := by have := HL.out; omega
      have hat := at0_sb s k hlt
      have HA := Lib.hid hat; clear hat
      by_cases hc : at0 (sb s) k = 58
      · have hb : (((s[k]'hlt).toNat : Int) == 58) = true := by rw [← HA.out, hc]; rfl
        have HC := Lib.hid hc; clear hc
        go_wp2
        go_ret
        refine ⟨?_, rfl⟩
        have e : colI (sb s) = k := findIdx_at hlk H.out (by rw [HC.out]; rfl)
        rw [colV, e, if_pos hlk]; rfl
      · have hb : (((s[k]'hlt).toNat : Int) == 58) = false := by rw [← HA.out, beq_eq_false_iff_ne]; exact hc
        have HC := Lib.hid hc; clear hc
        go_wp2
        go_round
        case rel =>
          refine ⟨k + 1, by omega, by go_num, ?_⟩
          rw [List.take_add_one, List.getElem?_eq_getElem hlk, List.all_append, H.out, Option.toList_some, ← at0_lt hlk]
          simp [HC.out]
        case measure => simp [intOf]; omega
    · go_wp2
      go_ret
      refine ⟨?_, rfl⟩
      have h := H.out
      rw [List.take_of_length_le (by have := HL.out; omega)] at h
      have e : ¬ colI (sb s) < (sb s).length := by
        have : colI (sb s) = (sb s).length := by
          unfold colI
          rw [List.findIdx_eq_length]
          intro x hx
          simpa using List.all_eq_true.1 h x hx
        omega
      rw [colV, if_neg e]; rfl
end Go.Proofs.YthefddclefimoaaGreatDoor
namespace Go.Proofs.YthefddclefimoaaGreatDoor
open Go.RowKit
set_option linter.unusedVariables false

/-- May this byte stand in this place of a host? -/
def hokB (l : List Int) (i : Nat) : Bool := hostI (at0 l i) && !(signI (at0 l i) && (i == 0 || i + 1 == l.length || (at0 l i == 46 && at0 l (i - 1) == 46)))
theorem dots_iff (l : List Int) : dotsI l = true ↔ ∃ j, j + 1 < l.length ∧ at0 l j = 46 ∧ at0 l (j + 1) = 46 := by
  induction l with
  | nil => simp [dotsI]
  | cons x r ih =>
    rw [dotsI, Bool.or_eq_true, ih]
    constructor
    · rintro (h | ⟨j, h1, h2, h3⟩)
      · simp only [Bool.and_eq_true, beq_iff_eq] at h
        cases r with
        | nil => simp at h
        | cons y r =>
          simp only [List.head?_cons, Option.some.injEq] at h
          exact ⟨0, by simp only [List.length_cons]; omega, by rw [at0_cons_zero]; exact h.1, by rw [at0_cons_succ, at0_cons_zero]; exact h.2⟩
      · exact ⟨j + 1, by simp only [List.length_cons]; omega, by rw [at0_cons_succ]; exact h2, by rw [at0_cons_succ]; exact h3⟩
    · rintro ⟨j, h1, h2, h3⟩
      cases j with
      | zero =>
        left
        cases r with
        | nil => simp at h1
        | cons y r =>
          rw [at0_cons_zero] at h2
          rw [at0_cons_succ, at0_cons_zero] at h3
          simp [h2, h3]
      | succ j =>
        right
        rw [at0_cons_succ] at h2 h3
        exact ⟨j, by simp at h1; omega, h2, h3⟩
theorem last_at (l : List Int) (h : 0 < l.length) : l.getLast? = some (at0 l (l.length - 1)) := by
  rw [List.getLast?_eq_getElem?, at0_lt (by omega), List.getElem?_eq_getElem (by omega)]
theorem host_iff (l : List Int) (h1 : 1 ≤ l.length) (h2 : l.length ≤ 230) : hostL l = true ↔ ∀ i, i < l.length → hokB l i = true := by
  have hm : madeI l 230 hostI = l.all hostI := made_yes l 230 hostI h1 (by omega)
  rw [hostL, hm, edgesI, head_at l (by omega), last_at l (by omega)]
  simp only [Bool.and_eq_true, List.all_eq_true, Bool.not_eq_true', Option.any_some]
  constructor
  · rintro ⟨ha, hd, h0, hl⟩ i hi
    unfold hokB
    rw [ha _ (at0_mem hi), Bool.true_and, Bool.not_eq_true']
    cases hs : signI (at0 l i)
    · rfl
    · simp only [Bool.true_and, Bool.or_eq_false_iff, beq_eq_false_iff_ne]
      refine ⟨⟨?_, ?_⟩, ?_⟩
      · rintro rfl; rw [h0] at hs; cases hs
      · intro e
        rw [show l.length - 1 = i by omega] at hl
        rw [hl] at hs; cases hs
      · rw [Bool.and_eq_false_iff]
        by_cases e : at0 l i = 46
        · right
          rw [beq_eq_false_iff_ne]
          intro e2
          have hi0 : i ≠ 0 := by rintro rfl; rw [h0] at hs; cases hs
          have : dotsI l = true := (dots_iff l).2 ⟨i - 1, by omega, e2, by rw [show i - 1 + 1 = i by omega]; exact e⟩
          rw [this] at hd; cases hd
        · left; rw [beq_eq_false_iff_ne]; exact e
  · intro h
    have key : ∀ i, i < l.length → hostI (at0 l i) = true ∧ (signI (at0 l i) = true → i ≠ 0 ∧ i + 1 ≠ l.length ∧ ¬ (at0 l i = 46 ∧ at0 l (i - 1) = 46)) := by
      intro i hi
      have := h i hi
      unfold hokB at this
      simp only [Bool.and_eq_true, Bool.not_eq_true', Bool.and_eq_false_iff, Bool.or_eq_false_iff, beq_eq_false_iff_ne] at this
      refine ⟨this.1, fun hs => ?_⟩
      rcases this.2 with e | ⟨⟨a, b⟩, c⟩
      · rw [hs] at e; cases e
      · refine ⟨a, b, fun ⟨d, e⟩ => ?_⟩
        rcases c with c | c
        · exact c d
        · exact c e
    refine ⟨fun x hx => ?_, ?_, ?_, ?_⟩
    · obtain ⟨j, hj, rfl⟩ := List.getElem_of_mem hx
      rw [← at0_lt hj]; exact (key j hj).1
    · cases hd : dotsI l
      · rfl
      · obtain ⟨j, j1, j2, j3⟩ := (dots_iff l).1 hd
        have := (key (j + 1) j1).2 (by rw [j3]; decide)
        exact (this.2.2 ⟨j3, by simpa using j2⟩).elim
    · cases hs : signI (at0 l 0)
      · rfl
      · exact (((key 0 (by omega)).2 hs).1 rfl).elim
    · cases hs : signI (at0 l (l.length - 1))
      · rfl
      · exact (((key (l.length - 1) (by omega)).2 hs).2.1 (by omega)).elim
theorem ref_digit_is (c : Int) (b : Bool) (w : World) (h : digI c = b) : Calls Tryz.prog 74 #[.int .u8 c] w fun e w' => e = .returned (.bool b) ∧ w = w' := by rw [← h]; exact ref_digit_any c w
theorem ref_small_is (c : Int) (b : Bool) (w : World) (h : smlI c = b) : Calls Tryz.prog 73 #[.int .u8 c] w fun e w' => e = .returned (.bool b) ∧ w = w' := by rw [← h]; exact ref_small_any c w
theorem ref_great_is (c : Int) (b : Bool) (w : World) (h : grtI c = b) : Calls Tryz.prog 131 #[.int .u8 c] w fun e w' => e = .returned (.bool b) ∧ w = w' := by rw [← h]; exact ref_great_any c w
set_option maxHeartbeats 1000000 in
theorem ref_host_any (s : ByteArray) (w : World) (hs : s.size ≤ maxLen) :
    Calls Tryz.prog 114 #[.string s] w fun e w' => e = .returned (.bool (hostL (sb s))) ∧ w = w' := by
  unfold maxLen at hs
  have hl := sb_length s
  by_cases g1 : (s.size : Int) < 1
  · have HF := Lib.hid (show hostL (sb s) = false by rw [hostL, made_no _ _ _ (by omega)]; rfl)
    clear hl
    go_enter Tryz.func114, Tryz.ntmps114
    go_wp2
    go_ret
    exact ⟨by rw [HF.out]; rfl, rfl⟩
  by_cases g2 : (230 : Int) < (s.size : Int)
  · have HF := Lib.hid (show hostL (sb s) = false by rw [hostL, made_no _ _ _ (by omega)]; rfl)
    clear hl
    go_enter Tryz.func114, Tryz.ntmps114
    go_wp2
    go_ret
    exact ⟨by rw [HF.out]; rfl, rfl⟩
  have HI := Lib.hid (host_iff (sb s) (by omega) (by omega))
  have HL := Lib.hid hl; clear hl
  go_enter Tryz.func114, Tryz.ntmps114
  go_wp2
  go_loop [3] (fun i => ∃ k : Nat, k ≤ s.size ∧ i = .int .i64 k ∧ ∀ j, j < k → hokB (sb s) j = true) (fun i => s.size - (intOf i).toNat)
  case atStart => exact ⟨0, Nat.zero_le _, rfl, fun j h => by omega⟩
  case round =>
    obtain ⟨k, hk, rfl, hall⟩ := hrel
    have H := Lib.hid hall; clear hall
    by_cases hlt : k < s.size
    · have hlk : k < (sb s).length := by have := HL.out; omega
      have hat := at0_sb s k hlt
      have HA := Lib.hid hat; clear hat
      have c0 := (s[k]'hlt).toNat_lt
      by_cases hc : at0 (sb s) k = 46
      · by_cases q0 : k = 0
        · have hb46 : (((s[k]'hlt).toNat : Int) == 46) = true := by rw [← HA.out]; first | rw [hc]; rfl | (rw [beq_eq_false_iff_ne]; omega)
          have hb45 : (((s[k]'hlt).toNat : Int) == 45) = false := by rw [← HA.out]; first | rw [hc]; rfl | (rw [beq_eq_false_iff_ne]; omega)
          have HSm := Lib.hid (show smlI ((s[k]'hlt).toNat : Int) = false by rw [← HA.out]; first | (rw [hc]; decide) | exact hcs)
          have HGr := Lib.hid (show grtI ((s[k]'hlt).toNat : Int) = false by rw [← HA.out]; first | (rw [hc]; decide) | exact hcg)
          have HDi := Lib.hid (show digI ((s[k]'hlt).toNat : Int) = false by rw [← HA.out]; first | (rw [hc]; decide) | exact hcd)
          have hk0 : ((k : Int) == 0) = true := by rw [beq_iff_eq]; omega
          have HK := Lib.hid (show hokB (sb s) k = false by rw [hokB, hc, q0]; simp [signI])
          clear hc q0
          go_wp2_with (first | (go_at_call 73; refine (ref_small_is _ _ _ HSm.out).mono ?_; rintro e w' ⟨rfl, rfl⟩) | (go_at_call 131; refine (ref_great_is _ _ _ HGr.out).mono ?_; rintro e w' ⟨rfl, rfl⟩) | (go_at_call 74; refine (ref_digit_is _ _ _ HDi.out).mono ?_; rintro e w' ⟨rfl, rfl⟩))
          go_ret
          refine ⟨?_, rfl⟩
          have : hostL (sb s) = false := by
            cases h : hostL (sb s)
            · rfl
            · have := HI.out.1 h k hlk; rw [HK.out] at this; cases this
          rw [this]; rfl
        by_cases q1 : k + 1 = s.size
        · have hb46 : (((s[k]'hlt).toNat : Int) == 46) = true := by rw [← HA.out]; first | rw [hc]; rfl | (rw [beq_eq_false_iff_ne]; omega)
          have hb45 : (((s[k]'hlt).toNat : Int) == 45) = false := by rw [← HA.out]; first | rw [hc]; rfl | (rw [beq_eq_false_iff_ne]; omega)
          have HSm := Lib.hid (show smlI ((s[k]'hlt).toNat : Int) = false by rw [← HA.out]; first | (rw [hc]; decide) | exact hcs)
          have HGr := Lib.hid (show grtI ((s[k]'hlt).toNat : Int) = false by rw [← HA.out]; first | (rw [hc]; decide) | exact hcg)
          have HDi := Lib.hid (show digI ((s[k]'hlt).toNat : Int) = false by rw [← HA.out]; first | (rw [hc]; decide) | exact hcd)
          have hk0 : ((k : Int) == 0) = false := by rw [beq_eq_false_iff_ne]; omega
          have hkl : ((k : Int) == (s.size : Int) - 1) = true := by rw [beq_iff_eq]; omega
          have HK := Lib.hid (show hokB (sb s) k = false by rw [hokB, hc, show k + 1 = (sb s).length by have := HL.out; omega]; simp [signI])
          clear hc
          go_wp2_with (first | (go_at_call 73; refine (ref_small_is _ _ _ HSm.out).mono ?_; rintro e w' ⟨rfl, rfl⟩) | (go_at_call 131; refine (ref_great_is _ _ _ HGr.out).mono ?_; rintro e w' ⟨rfl, rfl⟩) | (go_at_call 74; refine (ref_digit_is _ _ _ HDi.out).mono ?_; rintro e w' ⟨rfl, rfl⟩))
          go_ret
          refine ⟨?_, rfl⟩
          have : hostL (sb s) = false := by
            cases h : hostL (sb s)
            · rfl
            · have := HI.out.1 h k hlk; rw [HK.out] at this; cases this
          rw [this]; rfl
        have hp := at0_sb s (k - 1) (by omega)
        have HP := Lib.hid hp; clear hp
        have hi1 : (1 : Int) ≤ k := by omega
        have hi2 : (k : Int) - 1 < s.size := by omega
        have hi3 : ((k : Int) - 1).toNat = k - 1 := by omega
        by_cases q2 : at0 (sb s) (k - 1) = 46
        · have hb46 : (((s[k]'hlt).toNat : Int) == 46) = true := by rw [← HA.out]; first | rw [hc]; rfl | (rw [beq_eq_false_iff_ne]; omega)
          have hb45 : (((s[k]'hlt).toNat : Int) == 45) = false := by rw [← HA.out]; first | rw [hc]; rfl | (rw [beq_eq_false_iff_ne]; omega)
          have HSm := Lib.hid (show smlI ((s[k]'hlt).toNat : Int) = false by rw [← HA.out]; first | (rw [hc]; decide) | exact hcs)
          have HGr := Lib.hid (show grtI ((s[k]'hlt).toNat : Int) = false by rw [← HA.out]; first | (rw [hc]; decide) | exact hcg)
          have HDi := Lib.hid (show digI ((s[k]'hlt).toNat : Int) = false by rw [← HA.out]; first | (rw [hc]; decide) | exact hcd)
          have hk0 : ((k : Int) == 0) = false := by rw [beq_eq_false_iff_ne]; omega
          have hkl : ((k : Int) == (s.size : Int) - 1) = false := by rw [beq_eq_false_iff_ne]; omega
          have hb9 : (((s[k - 1]'(by omega)).toNat : Int) == 46) = true := by rw [← HP.out, q2]; rfl
          have HK := Lib.hid (show hokB (sb s) k = false by rw [hokB, hc, q2]; simp [signI])
          clear hc
          go_wp2_with (first | (go_at_call 73; refine (ref_small_is _ _ _ HSm.out).mono ?_; rintro e w' ⟨rfl, rfl⟩) | (go_at_call 131; refine (ref_great_is _ _ _ HGr.out).mono ?_; rintro e w' ⟨rfl, rfl⟩) | (go_at_call 74; refine (ref_digit_is _ _ _ HDi.out).mono ?_; rintro e w' ⟨rfl, rfl⟩))
          go_ret
          refine ⟨?_, rfl⟩
          have : hostL (sb s) = false := by
            cases h : hostL (sb s)
            · rfl
            · have := HI.out.1 h k hlk; rw [HK.out] at this; cases this
          rw [this]; rfl
        · have hb46 : (((s[k]'hlt).toNat : Int) == 46) = true := by rw [← HA.out]; first | rw [hc]; rfl | (rw [beq_eq_false_iff_ne]; omega)
          have hb45 : (((s[k]'hlt).toNat : Int) == 45) = false := by rw [← HA.out]; first | rw [hc]; rfl | (rw [beq_eq_false_iff_ne]; omega)
          have HSm := Lib.hid (show smlI ((s[k]'hlt).toNat : Int) = false by rw [← HA.out]; first | (rw [hc]; decide) | exact hcs)
          have HGr := Lib.hid (show grtI ((s[k]'hlt).toNat : Int) = false by rw [← HA.out]; first | (rw [hc]; decide) | exact hcg)
          have HDi := Lib.hid (show digI ((s[k]'hlt).toNat : Int) = false by rw [← HA.out]; first | (rw [hc]; decide) | exact hcd)
          have hk0 : ((k : Int) == 0) = false := by rw [beq_eq_false_iff_ne]; omega
          have hkl : ((k : Int) == (s.size : Int) - 1) = false := by rw [beq_eq_false_iff_ne]; omega
          have hb9 : (((s[k - 1]'(by omega)).toNat : Int) == 46) = false := by rw [← HP.out, beq_eq_false_iff_ne]; exact q2
          have HK := Lib.hid (show hokB (sb s) k = true by have hl9 := HL.out; simp [hokB, hc, q2, signI, q0, hostI]; omega)
          clear hc
          go_wp2_with (first | (go_at_call 73; refine (ref_small_is _ _ _ HSm.out).mono ?_; rintro e w' ⟨rfl, rfl⟩) | (go_at_call 131; refine (ref_great_is _ _ _ HGr.out).mono ?_; rintro e w' ⟨rfl, rfl⟩) | (go_at_call 74; refine (ref_digit_is _ _ _ HDi.out).mono ?_; rintro e w' ⟨rfl, rfl⟩))
          refine ⟨⟨k + 1, by omega, by go_num, fun j hj => ?_⟩, by simp [intOf]; omega⟩
          rcases Nat.lt_or_ge j k with h | h
          · exact H.out j h
          · obtain rfl : j = k := by omega
            exact HK.out
      have hc46 := hc; clear hc
      by_cases hc : at0 (sb s) k = 45
      · by_cases q0 : k = 0
        · have hb46 : (((s[k]'hlt).toNat : Int) == 46) = false := by rw [← HA.out]; first | rw [hc]; rfl | (rw [beq_eq_false_iff_ne]; omega)
          have hb45 : (((s[k]'hlt).toNat : Int) == 45) = true := by rw [← HA.out]; first | rw [hc]; rfl | (rw [beq_eq_false_iff_ne]; omega)
          have HSm := Lib.hid (show smlI ((s[k]'hlt).toNat : Int) = false by rw [← HA.out]; first | (rw [hc]; decide) | exact hcs)
          have HGr := Lib.hid (show grtI ((s[k]'hlt).toNat : Int) = false by rw [← HA.out]; first | (rw [hc]; decide) | exact hcg)
          have HDi := Lib.hid (show digI ((s[k]'hlt).toNat : Int) = false by rw [← HA.out]; first | (rw [hc]; decide) | exact hcd)
          have hk0 : ((k : Int) == 0) = true := by rw [beq_iff_eq]; omega
          have HK := Lib.hid (show hokB (sb s) k = false by rw [hokB, hc, q0]; simp [signI])
          clear hc q0
          go_wp2_with (first | (go_at_call 73; refine (ref_small_is _ _ _ HSm.out).mono ?_; rintro e w' ⟨rfl, rfl⟩) | (go_at_call 131; refine (ref_great_is _ _ _ HGr.out).mono ?_; rintro e w' ⟨rfl, rfl⟩) | (go_at_call 74; refine (ref_digit_is _ _ _ HDi.out).mono ?_; rintro e w' ⟨rfl, rfl⟩))
          go_ret
          refine ⟨?_, rfl⟩
          have : hostL (sb s) = false := by
            cases h : hostL (sb s)
            · rfl
            · have := HI.out.1 h k hlk; rw [HK.out] at this; cases this
          rw [this]; rfl
        by_cases q1 : k + 1 = s.size
        · have hb46 : (((s[k]'hlt).toNat : Int) == 46) = false := by rw [← HA.out]; first | rw [hc]; rfl | (rw [beq_eq_false_iff_ne]; omega)
          have hb45 : (((s[k]'hlt).toNat : Int) == 45) = true := by rw [← HA.out]; first | rw [hc]; rfl | (rw [beq_eq_false_iff_ne]; omega)
          have HSm := Lib.hid (show smlI ((s[k]'hlt).toNat : Int) = false by rw [← HA.out]; first | (rw [hc]; decide) | exact hcs)
          have HGr := Lib.hid (show grtI ((s[k]'hlt).toNat : Int) = false by rw [← HA.out]; first | (rw [hc]; decide) | exact hcg)
          have HDi := Lib.hid (show digI ((s[k]'hlt).toNat : Int) = false by rw [← HA.out]; first | (rw [hc]; decide) | exact hcd)
          have hk0 : ((k : Int) == 0) = false := by rw [beq_eq_false_iff_ne]; omega
          have hkl : ((k : Int) == (s.size : Int) - 1) = true := by rw [beq_iff_eq]; omega
          have HK := Lib.hid (show hokB (sb s) k = false by rw [hokB, hc, show k + 1 = (sb s).length by have := HL.out; omega]; simp [signI])
          clear hc
          go_wp2_with (first | (go_at_call 73; refine (ref_small_is _ _ _ HSm.out).mono ?_; rintro e w' ⟨rfl, rfl⟩) | (go_at_call 131; refine (ref_great_is _ _ _ HGr.out).mono ?_; rintro e w' ⟨rfl, rfl⟩) | (go_at_call 74; refine (ref_digit_is _ _ _ HDi.out).mono ?_; rintro e w' ⟨rfl, rfl⟩))
          go_ret
          refine ⟨?_, rfl⟩
          have : hostL (sb s) = false := by
            cases h : hostL (sb s)
            · rfl
            · have := HI.out.1 h k hlk; rw [HK.out] at this; cases this
          rw [this]; rfl
        have hb46 : (((s[k]'hlt).toNat : Int) == 46) = false := by rw [← HA.out]; first | rw [hc]; rfl | (rw [beq_eq_false_iff_ne]; omega)
        have hb45 : (((s[k]'hlt).toNat : Int) == 45) = true := by rw [← HA.out]; first | rw [hc]; rfl | (rw [beq_eq_false_iff_ne]; omega)
        have HSm := Lib.hid (show smlI ((s[k]'hlt).toNat : Int) = false by rw [← HA.out]; first | (rw [hc]; decide) | exact hcs)
        have HGr := Lib.hid (show grtI ((s[k]'hlt).toNat : Int) = false by rw [← HA.out]; first | (rw [hc]; decide) | exact hcg)
        have HDi := Lib.hid (show digI ((s[k]'hlt).toNat : Int) = false by rw [← HA.out]; first | (rw [hc]; decide) | exact hcd)
        have hk0 : ((k : Int) == 0) = false := by rw [beq_eq_false_iff_ne]; omega
        have hkl : ((k : Int) == (s.size : Int) - 1) = false := by rw [beq_eq_false_iff_ne]; omega
        have HK := Lib.hid (show hokB (sb s) k = true by have hl9 := HL.out; simp [hokB, hc, signI, q0, hostI]; omega)
        clear hc
        go_wp2_with (first | (go_at_call 73; refine (ref_small_is _ _ _ HSm.out).mono ?_; rintro e w' ⟨rfl, rfl⟩) | (go_at_call 131; refine (ref_great_is _ _ _ HGr.out).mono ?_; rintro e w' ⟨rfl, rfl⟩) | (go_at_call 74; refine (ref_digit_is _ _ _ HDi.out).mono ?_; rintro e w' ⟨rfl, rfl⟩))
        refine ⟨⟨k + 1, by omega, by go_num, fun j hj => ?_⟩, by simp [intOf]; omega⟩
        rcases Nat.lt_or_ge j k with h | h
        · exact H.out j h
        · obtain rfl : j = k := by omega
          exact HK.out
      have hc45 := hc; clear hc
      have hc : True := trivial
      cases hcs : smlI (at0 (sb s) k) <;> cases hcg : grtI (at0 (sb s) k) <;> cases hcd : digI (at0 (sb s) k)
      · have hb46 : (((s[k]'hlt).toNat : Int) == 46) = false := by rw [← HA.out, beq_eq_false_iff_ne]; exact hc46
        have hb45 : (((s[k]'hlt).toNat : Int) == 45) = false := by rw [← HA.out, beq_eq_false_iff_ne]; exact hc45
        have HSm := Lib.hid (show smlI ((s[k]'hlt).toNat : Int) = false by rw [← HA.out]; exact hcs)
        have HGr := Lib.hid (show grtI ((s[k]'hlt).toNat : Int) = false by rw [← HA.out]; exact hcg)
        have HDi := Lib.hid (show digI ((s[k]'hlt).toNat : Int) = false by rw [← HA.out]; exact hcd)
        have HX := Lib.hid (And.intro hcs (And.intro hcg (And.intro hcd (And.intro hc46 hc45)))); clear hcs hcg hcd hc46 hc45
        have HK := Lib.hid (show hokB (sb s) k = false by obtain ⟨x1, x2, x3, x4, x5⟩ := HX.out; simp [hokB, hostI, signI, x1, x2, x3, x4, x5])
        clear hc
        go_wp2_with (first | (go_at_call 73; refine (ref_small_is _ _ _ HSm.out).mono ?_; rintro e w' ⟨rfl, rfl⟩) | (go_at_call 131; refine (ref_great_is _ _ _ HGr.out).mono ?_; rintro e w' ⟨rfl, rfl⟩) | (go_at_call 74; refine (ref_digit_is _ _ _ HDi.out).mono ?_; rintro e w' ⟨rfl, rfl⟩))
        go_ret
        refine ⟨?_, rfl⟩
        have : hostL (sb s) = false := by
          cases h : hostL (sb s)
          · rfl
          · have := HI.out.1 h k hlk; rw [HK.out] at this; cases this
        rw [this]; rfl
      · have hb46 : (((s[k]'hlt).toNat : Int) == 46) = false := by rw [← HA.out, beq_eq_false_iff_ne]; exact hc46
        have hb45 : (((s[k]'hlt).toNat : Int) == 45) = false := by rw [← HA.out, beq_eq_false_iff_ne]; exact hc45
        have HSm := Lib.hid (show smlI ((s[k]'hlt).toNat : Int) = false by rw [← HA.out]; exact hcs)
        have HGr := Lib.hid (show grtI ((s[k]'hlt).toNat : Int) = false by rw [← HA.out]; exact hcg)
        have HDi := Lib.hid (show digI ((s[k]'hlt).toNat : Int) = true by rw [← HA.out]; exact hcd)
        have HX := Lib.hid (And.intro hcs (And.intro hcg (And.intro hcd (And.intro hc46 hc45)))); clear hcs hcg hcd hc46 hc45
        have HK := Lib.hid (show hokB (sb s) k = true by obtain ⟨x1, x2, x3, x4, x5⟩ := HX.out; simp [hokB, hostI, signI, x1, x2, x3, x4, x5])
        clear hc
        go_wp2_with (first | (go_at_call 73; refine (ref_small_is _ _ _ HSm.out).mono ?_; rintro e w' ⟨rfl, rfl⟩) | (go_at_call 131; refine (ref_great_is _ _ _ HGr.out).mono ?_; rintro e w' ⟨rfl, rfl⟩) | (go_at_call 74; refine (ref_digit_is _ _ _ HDi.out).mono ?_; rintro e w' ⟨rfl, rfl⟩))
        refine ⟨⟨k + 1, by omega, by go_num, fun j hj => ?_⟩, by simp [intOf]; omega⟩
        rcases Nat.lt_or_ge j k with h | h
        · exact H.out j h
        · obtain rfl : j = k := by omega
          exact HK.out
      · have hb46 : (((s[k]'hlt).toNat : Int) == 46) = false := by rw [← HA.out, beq_eq_false_iff_ne]; exact hc46
        have hb45 : (((s[k]'hlt).toNat : Int) == 45) = false := by rw [← HA.out, beq_eq_false_iff_ne]; exact hc45
        have HSm := Lib.hid (show smlI ((s[k]'hlt).toNat : Int) = false by rw [← HA.out]; exact hcs)
        have HGr := Lib.hid (show grtI ((s[k]'hlt).toNat : Int) = true by rw [← HA.out]; exact hcg)
        have HDi := Lib.hid (show digI ((s[k]'hlt).toNat : Int) = false by rw [← HA.out]; exact hcd)
        have HX := Lib.hid (And.intro hcs (And.intro hcg (And.intro hcd (And.intro hc46 hc45)))); clear hcs hcg hcd hc46 hc45
        have HK := Lib.hid (show hokB (sb s) k = true by obtain ⟨x1, x2, x3, x4, x5⟩ := HX.out; simp [hokB, hostI, signI, x1, x2, x3, x4, x5])
        clear hc
        go_wp2_with (first | (go_at_call 73; refine (ref_small_is _ _ _ HSm.out).mono ?_; rintro e w' ⟨rfl, rfl⟩) | (go_at_call 131; refine (ref_great_is _ _ _ HGr.out).mono ?_; rintro e w' ⟨rfl, rfl⟩) | (go_at_call 74; refine (ref_digit_is _ _ _ HDi.out).mono ?_; rintro e w' ⟨rfl, rfl⟩))
        refine ⟨⟨k + 1, by omega, by go_num, fun j hj => ?_⟩, by simp [intOf]; omega⟩
        rcases Nat.lt_or_ge j k with h | h
        · exact H.out j h
        · obtain rfl : j = k := by omega
          exact HK.out
      · have hb46 : (((s[k]'hlt).toNat : Int) == 46) = false := by rw [← HA.out, beq_eq_false_iff_ne]; exact hc46
        have hb45 : (((s[k]'hlt).toNat : Int) == 45) = false := by rw [← HA.out, beq_eq_false_iff_ne]; exact hc45
        have HSm := Lib.hid (show smlI ((s[k]'hlt).toNat : Int) = false by rw [← HA.out]; exact hcs)
        have HGr := Lib.hid (show grtI ((s[k]'hlt).toNat : Int) = true by rw [← HA.out]; exact hcg)
        have HDi := Lib.hid (show digI ((s[k]'hlt).toNat : Int) = true by rw [← HA.out]; exact hcd)
        have HX := Lib.hid (And.intro hcs (And.intro hcg (And.intro hcd (And.intro hc46 hc45)))); clear hcs hcg hcd hc46 hc45
        have HK := Lib.hid (show hokB (sb s) k = true by obtain ⟨x1, x2, x3, x4, x5⟩ := HX.out; simp [hokB, hostI, signI, x1, x2, x3, x4, x5])
        clear hc
        go_wp2_with (first | (go_at_call 73; refine (ref_small_is _ _ _ HSm.out).mono ?_; rintro e w' ⟨rfl, rfl⟩) | (go_at_call 131; refine (ref_great_is _ _ _ HGr.out).mono ?_; rintro e w' ⟨rfl, rfl⟩) | (go_at_call 74; refine (ref_digit_is _ _ _ HDi.out).mono ?_; rintro e w' ⟨rfl, rfl⟩))
        refine ⟨⟨k + 1, by omega, by go_num, fun j hj => ?_⟩, by simp [intOf]; omega⟩
        rcases Nat.lt_or_ge j k with h | h
        · exact H.out j h
        · obtain rfl : j = k := by omega
          exact HK.out
      · have hb46 : (((s[k]'hlt).toNat : Int) == 46) = false := by rw [← HA.out, beq_eq_false_iff_ne]; exact hc46
        have hb45 : (((s[k]'hlt).toNat : Int) == 45) = false := by rw [← HA.out, beq_eq_false_iff_ne]; exact hc45
        have HSm := Lib.hid (show smlI ((s[k]'hlt).toNat : Int) = true by rw [← HA.out]; exact hcs)
        have HGr := Lib.hid (show grtI ((s[k]'hlt).toNat : Int) = false by rw [← HA.out]; exact hcg)
        have HDi := Lib.hid (show digI ((s[k]'hlt).toNat : Int) = false by rw [← HA.out]; exact hcd)
        have HX := Lib.hid (And.intro hcs (And.intro hcg (And.intro hcd (And.intro hc46 hc45)))); clear hcs hcg hcd hc46 hc45
        have HK := Lib.hid (show hokB (sb s) k = true by obtain ⟨x1, x2, x3, x4, x5⟩ := HX.out; simp [hokB, hostI, signI, x1, x2, x3, x4, x5])
        clear hc
        go_wp2_with (first | (go_at_call 73; refine (ref_small_is _ _ _ HSm.out).mono ?_; rintro e w' ⟨rfl, rfl⟩) | (go_at_call 131; refine (ref_great_is _ _ _ HGr.out).mono ?_; rintro e w' ⟨rfl, rfl⟩) | (go_at_call 74; refine (ref_digit_is _ _ _ HDi.out).mono ?_; rintro e w' ⟨rfl, rfl⟩))
        refine ⟨⟨k + 1, by omega, by go_num, fun j hj => ?_⟩, by simp [intOf]; omega⟩
        rcases Nat.lt_or_ge j k with h | h
        · exact H.out j h
        · obtain rfl : j = k := by omega
          exact HK.out
      · have hb46 : (((s[k]'hlt).toNat : Int) == 46) = false := by rw [← HA.out, beq_eq_false_iff_ne]; exact hc46
        have hb45 : (((s[k]'hlt).toNat : Int) == 45) = false := by rw [← HA.out, beq_eq_false_iff_ne]; exact hc45
        have HSm := Lib.hid (show smlI ((s[k]'hlt).toNat : Int) = true by rw [← HA.out]; exact hcs)
        have HGr := Lib.hid (show grtI ((s[k]'hlt).toNat : Int) = false by rw [← HA.out]; exact hcg)
        have HDi := Lib.hid (show digI ((s[k]'hlt).toNat : Int) = true by rw [← HA.out]; exact hcd)
        have HX := Lib.hid (And.intro hcs (And.intro hcg (And.intro hcd (And.intro hc46 hc45)))); clear hcs hcg hcd hc46 hc45
        have HK := Lib.hid (show hokB (sb s) k = true by obtain ⟨x1, x2, x3, x4, x5⟩ := HX.out; simp [hokB, hostI, signI, x1, x2, x3, x4, x5])
        clear hc
        go_wp2_with (first | (go_at_call 73; refine (ref_small_is _ _ _ HSm.out).mono ?_; rintro e w' ⟨rfl, rfl⟩) | (go_at_call 131; refine (ref_great_is _ _ _ HGr.out).mono ?_; rintro e w' ⟨rfl, rfl⟩) | (go_at_call 74; refine (ref_digit_is _ _ _ HDi.out).mono ?_; rintro e w' ⟨rfl, rfl⟩))
        refine ⟨⟨k + 1, by omega, by go_num, fun j hj => ?_⟩, by simp [intOf]; omega⟩
        rcases Nat.lt_or_ge j k with h | h
        · exact H.out j h
        · obtain rfl : j = k := by omega
          exact HK.out
      · have hb46 : (((s[k]'hlt).toNat : Int) == 46) = false := by rw [← HA.out, beq_eq_false_iff_ne]; exact hc46
        have hb45 : (((s[k]'hlt).toNat : Int) == 45) = false := by rw [← HA.out, beq_eq_false_iff_ne]; exact hc45
        have HSm := Lib.hid (show smlI ((s[k]'hlt).toNat : Int) = true by rw [← HA.out]; exact hcs)
        have HGr := Lib.hid (show grtI ((s[k]'hlt).toNat : Int) = true by rw [← HA.out]; exact hcg)
        have HDi := Lib.hid (show digI ((s[k]'hlt).toNat : Int) = false by rw [← HA.out]; exact hcd)
        have HX := Lib.hid (And.intro hcs (And.intro hcg (And.intro hcd (And.intro hc46 hc45)))); clear hcs hcg hcd hc46 hc45
        have HK := Lib.hid (show hokB (sb s) k = true by obtain ⟨x1, x2, x3, x4, x5⟩ := HX.out; simp [hokB, hostI, signI, x1, x2, x3, x4, x5])
        clear hc
        go_wp2_with (first | (go_at_call 73; refine (ref_small_is _ _ _ HSm.out).mono ?_; rintro e w' ⟨rfl, rfl⟩) | (go_at_call 131; refine (ref_great_is _ _ _ HGr.out).mono ?_; rintro e w' ⟨rfl, rfl⟩) | (go_at_call 74; refine (ref_digit_is _ _ _ HDi.out).mono ?_; rintro e w' ⟨rfl, rfl⟩))
        refine ⟨⟨k + 1, by omega, by go_num, fun j hj => ?_⟩, by simp [intOf]; omega⟩
        rcases Nat.lt_or_ge j k with h | h
        · exact H.out j h
        · obtain rfl : j = k := by omega
          exact HK.out
      · have hb46 : (((s[k]'hlt).toNat : Int) == 46) = false := by rw [← HA.out, beq_eq_false_iff_ne]; exact hc46
        have hb45 : (((s[k]'hlt).toNat : Int) == 45) = false := by rw [← HA.out, beq_eq_false_iff_ne]; exact hc45
        have HSm := Lib.hid (show smlI ((s[k]'hlt).toNat : Int) = true by rw [← HA.out]; exact hcs)
        have HGr := Lib.hid (show grtI ((s[k]'hlt).toNat : Int) = true by rw [← HA.out]; exact hcg)
        have HDi := Lib.hid (show digI ((s[k]'hlt).toNat : Int) = true by rw [← HA.out]; exact hcd)
        have HX := Lib.hid (And.intro hcs (And.intro hcg (And.intro hcd (And.intro hc46 hc45)))); clear hcs hcg hcd hc46 hc45
        have HK := Lib.hid (show hokB (sb s) k = true by obtain ⟨x1, x2, x3, x4, x5⟩ := HX.out; simp [hokB, hostI, signI, x1, x2, x3, x4, x5])
        clear hc
        go_wp2_with (first | (go_at_call 73; refine (ref_small_is _ _ _ HSm.out).mono ?_; rintro e w' ⟨rfl, rfl⟩) | (go_at_call 131; refine (ref_great_is _ _ _ HGr.out).mono ?_; rintro e w' ⟨rfl, rfl⟩) | (go_at_call 74; refine (ref_digit_is _ _ _ HDi.out).mono ?_; rintro e w' ⟨rfl, rfl⟩))
        refine ⟨⟨k + 1, by omega, by go_num, fun j hj => ?_⟩, by simp [intOf]; omega⟩
        rcases Nat.lt_or_ge j k with h | h
        · exact H.out j h
        · obtain rfl : j = k := by omega
          exact HK.out
    · go_wp2
      go_ret
      refine ⟨?_, rfl⟩
      have : hostL (sb s) = true := HI.out.2 (fun i hi => H.out i (by have := HL.out; omega))
      rw [this]; rfl
end Go.Proofs.YthefddclefimoaaGreatDoor
namespace Go.Proofs.YthefddclefimoaaGreatDoor
open Go.RowKit
set_option linter.unusedVariables false

theorem ref_colon_yes (s : ByteArray) (w : World) (hs : s.size ≤ maxLen) (h : colI (sb s) < (sb s).length) :
    Calls Tryz.prog 94 #[.string s] w fun e w' => e = .returned (.int .i64 (colI (sb s) : Nat)) ∧ w = w' := by
  have := ref_colon_any s w hs
  rwa [colV, if_pos h] at this
theorem ref_colon_no (s : ByteArray) (w : World) (hs : s.size ≤ maxLen) (h : ¬ colI (sb s) < (sb s).length) :
    Calls Tryz.prog 94 #[.string s] w fun e w' => e = .returned (.int .i64 (-1)) ∧ w = w' := by
  have := ref_colon_any s w hs
  rwa [colV, if_neg h] at this
theorem ref_host_is (s : ByteArray) (b : Bool) (w : World) (hs : s.size ≤ maxLen) (h : hostL (sb s) = b) :
    Calls Tryz.prog 114 #[.string s] w fun e w' => e = .returned (.bool b) ∧ w = w' := by
  rw [← h]; exact ref_host_any s w hs
set_option maxHeartbeats 1000000 in
theorem ref_server_any (s : ByteArray) (w : World) (hs : s.size ≤ 1000000) :
    Calls Tryz.prog 95 #[.string s] w fun e w' => e = .returned (.bool (serverL (sb s))) ∧ w = w' := by
  have hl := sb_length s
  have hs' : s.size ≤ maxLen := by unfold maxLen; omega
  by_cases hc : colI (sb s) < (sb s).length
  rotate_left
  · have HC := ref_colon_no s w hs' hc
    have HF := Lib.hid (show serverL (sb s) = hostL (sb s) by rw [serverL, List.take_of_length_le (by omega), decide_eq_true (show (sb s).length ≤ colI (sb s) by omega)]; rfl)
    have HH := ref_host_any s w hs'
    clear hc hl
    go_enter Tryz.func95, Tryz.ntmps95
    go_wp2_with fail
    refine HC.mono ?_
    rintro e w' ⟨rfl, rfl⟩
    go_wp2_with fail
    refine HH.mono ?_
    rintro e w' ⟨rfl, rfl⟩
    go_wp2
    go_ret
    exact ⟨by rw [HF.out]; rfl, rfl⟩
  have HC := ref_colon_yes s w hs' hc
  have hsv : serverL (sb s) = (madeI ((sb s).drop (colI (sb s) + 1)) 5 digI && hostL ((sb s).take (colI (sb s)))) := by
    rw [serverL, decide_eq_false (show ¬ (sb s).length ≤ colI (sb s) by omega)]; rfl
  generalize colI (sb s) = k at *
  rw [hl] at hc
  have ht := sb_tail s (k + 1)
  have ha := sb_extract s 0 k
  rw [List.drop_zero] at ha
  rw [← ht, ← ha] at hsv
  have hts : (s.extract (k + 1) s.size).size ≤ 1000000 := size_of_sb ht (by rw [List.length_drop]; omega)
  have has : (s.extract 0 k).size ≤ 1000000 := size_of_sb ha (by rw [List.length_take]; omega)
  have hk1 : (k : Int) + 1 ≤ s.size := by omega
  have hk0 : decide ((k : Int) < 0) = false := by simp
  have HV := Lib.hid hsv; clear hsv
  have HT := Lib.hid ht; clear ht
  have HA := Lib.hid ha; clear ha
  have HL := Lib.hid hl; clear hl
  go_enter Tryz.func95, Tryz.ntmps95
  go_wp2_with fail
  refine HC.mono ?_
  rintro e w' ⟨rfl, rfl⟩
  go_wp2
  generalize s.extract (k + 1) s.size = t at *
  have HTL := Lib.hid (sb_length t)
  have HHa := fun w' => ref_host_any (s.extract 0 k) w' (by unfold maxLen; omega)
  have hkle : (k : Int) ≤ s.size := by omega
  go_loop [5] (fun i => ∃ j : Nat, j ≤ t.size ∧ i = .int .i64 j ∧ ((sb t).take j).all digI = true) (fun i => t.size - (intOf i).toNat)
  case atStart => exact ⟨0, Nat.zero_le _, rfl, rfl⟩
  case round =>
    obtain ⟨j, hj, rfl, hall⟩ := hrel
    have H := Lib.hid hall; clear hall
    by_cases hlt : j < t.size
    · have hlj : j < (sb t).length := by have := HTL.out; omega
      have hat := at0_sb t j hlt
      have HAt := Lib.hid hat; clear hat
      have c0 := (t[j]'hlt).toNat_lt
      cases hd : digI (at0 (sb t) j)
      · have HD := Lib.hid (show digI ((t[j]'hlt).toNat : Int) = false by rw [← HAt.out]; exact hd)
        have HF := Lib.hid (show (sb t).all digI = false by rw [List.all_eq_false]; exact ⟨_, at0_mem hlj, by rw [hd]; decide⟩)
        clear hd
        go_wp2_with (go_at_call 74; refine (ref_digit_is _ _ _ HD.out).mono ?_; rintro e w' ⟨rfl, rfl⟩)
        go_ret
        refine ⟨?_, rfl⟩
        rw [HV.out, madeI, HF.out]; simp
      · have HD := Lib.hid (show digI ((t[j]'hlt).toNat : Int) = true by rw [← HAt.out]; exact hd)
        have HDD := Lib.hid hd; clear hd
        go_wp2_with (go_at_call 74; refine (ref_digit_is _ _ _ HD.out).mono ?_; rintro e w' ⟨rfl, rfl⟩)
        refine ⟨⟨j + 1, by omega, by go_num, ?_⟩, by simp [intOf]; omega⟩
        rw [List.take_add_one, List.getElem?_eq_getElem hlj, List.all_append, H.out, Option.toList_some, ← at0_lt hlj]
        simp [HDD.out]
    · obtain rfl : j = t.size := by omega
      have hall : (sb t).all digI = true := by
        have h := H.out
        rwa [List.take_of_length_le (by have := HTL.out; omega)] at h
      have HALL := Lib.hid hall; clear hall hlt hj
      have hfin : serverL (sb s) = ((decide (1 ≤ t.size) && decide ((t.size : Int) ≤ 5)) && hostL (sb (s.extract 0 k))) := by
        rw [HV.out, madeI, HALL.out, HTL.out]
        simp
      have HFIN := Lib.hid hfin; clear hfin
      cases hh : hostL (sb (s.extract 0 k))
      · have HR := ref_host_is (s.extract 0 k) false w (by unfold maxLen; omega) hh
        have HH := Lib.hid hh; clear hh
        go_wp2_with fail
        refine HR.mono ?_
        rintro e w' ⟨rfl, rfl⟩
        go_wp2
        go_ret
        refine ⟨?_, rfl⟩
        rw [HFIN.out, HH.out]; simp
      · have HR := ref_host_is (s.extract 0 k) true w (by unfold maxLen; omega) hh
        have HH := Lib.hid hh; clear hh
        by_cases h1 : 1 ≤ t.size
        · by_cases h5 : t.size ≤ 5
          · have b1 : decide ((1 : Int) ≤ (t.size : Int)) = true := by simp; omega
            have b5 : decide ((t.size : Int) ≤ 5) = true := by simp; omega
            go_wp2_with fail
            refine HR.mono ?_
            rintro e w' ⟨rfl, rfl⟩
            go_wp2
            go_ret
            refine ⟨?_, rfl⟩
            rw [HFIN.out, HH.out, b5, decide_eq_true h1]; rfl
          · have b1 : decide ((1 : Int) ≤ (t.size : Int)) = true := by simp; omega
            have b5 : decide ((t.size : Int) ≤ 5) = false := by simp; omega
            go_wp2_with fail
            refine HR.mono ?_
            rintro e w' ⟨rfl, rfl⟩
            go_wp2
            go_ret
            refine ⟨?_, rfl⟩
            rw [HFIN.out, HH.out, b5, decide_eq_true h1]; rfl
        · have b1 : decide ((1 : Int) ≤ (t.size : Int)) = false := by simp; omega
          go_wp2_with fail
          refine HR.mono ?_
          rintro e w' ⟨rfl, rfl⟩
          go_wp2
          go_ret
          refine ⟨?_, rfl⟩
          rw [HFIN.out, HH.out, decide_eq_false h1]; rfl
end Go.Proofs.YthefddclefimoaaGreatDoor
