--@optional
/- Layer 5 (ids): the document's words over lists of bytes, as numbers; and what the library's words are in these. No program stands here. -/
import Derived.Test.YthefddclefimoaaDoorRow
import Derived.Lib.CutLaws
import Derived.Lib.SlTrimSet
namespace Go.Proofs.YthefddclefimoaaDoor
open Go.RowKit
set_option linter.unusedVariables false

def digI (c : Int) : Bool := decide (48 ≤ c) && decide (c ≤ 57)
def smlI (c : Int) : Bool := decide (97 ≤ c) && decide (c ≤ 122)
def grtI (c : Int) : Bool := decide (65 ≤ c) && decide (c ≤ 90)
def hostI (c : Int) : Bool := smlI c || grtI c || digI c || c == 46 || c == 45
def userI (c : Int) : Bool := smlI c || digI c || c == 46 || c == 95 || c == 61 || c == 47 || c == 43 || c == 45
def roomI (c : Int) : Bool := smlI c || grtI c || digI c
def signI (c : Int) : Bool := c == 46 || c == 45

/-- From 1 to so many, all of a kind. -/
def madeI (l : List Int) (most : Int) (K : Int → Bool) : Bool := decide (1 ≤ l.length) && (decide ((l.length : Int) ≤ most) && l.all K)
/-- Two points side by side. -/
def dotsI : List Int → Bool
  | [] => false
  | x :: r => (x == 46 && r.head? == some 46) || dotsI r
/-- Neither end is a sign. -/
def edgesI (l : List Int) : Bool := !(l.head?.any signI) && !(l.getLast?.any signI)
def hostL (l : List Int) : Bool := madeI l 230 hostI && (!dotsI l && edgesI l)
/-- The place of the first colon; the length, where there is none. -/
def colI (l : List Int) : Nat := l.findIdx (· == 58)
def serverL (l : List Int) : Bool := (decide (l.length ≤ colI l) || madeI (l.drop (colI l + 1)) 5 digI) && hostL (l.take (colI l))
def namedL (l : List Int) (sigil most : Int) (K : Int → Bool) : Bool :=
  decide (l.length ≤ 255) && (l.head? == some sigil && (madeI ((l.drop 1).take (colI (l.drop 1))) most K && serverL ((l.drop 1).drop (colI (l.drop 1) + 1))))
def userL (l : List Int) : Bool := namedL l 64 200 userI
def roomL (l : List Int) : Bool := namedL l 33 64 roomI

theorem sb_mk (l : List UInt8) : sb ⟨l.toArray⟩ = l.map fun c => (c.toNat : Int) := by simp [sb]
theorem toNat_beq (x c : UInt8) : ((x.toNat : Int) == (c.toNat : Int)) = (x == c) := by
  rw [Bool.eq_iff_iff, beq_iff_eq, beq_iff_eq]
  constructor
  · intro h
    exact UInt8.toNat_inj.1 (by omega)
  · rintro rfl; rfl

/-- Where the first instance of a byte is. -/
theorem index_one (l : List UInt8) (c : UInt8) : Lib.index l [c] = if l.findIdx (· == c) < l.length then (l.findIdx (· == c) : Int) else -1 := by
  induction l with
  | nil => simp [Lib.index]
  | cons b l ih =>
    have e : ([c] : List UInt8).isPrefixOf (b :: l) = (b == c) := by
      simp [List.isPrefixOf]
      exact Bool.beq_comm
    rw [Lib.index, e, ih, List.findIdx_cons]
    cases hb : (b == c)
    · by_cases hlt : l.findIdx (· == c) < l.length
      · rw [if_pos hlt]
        have h1 : ((l.findIdx (· == c) : Nat) : Int) ≠ -1 := by omega
        have h2 : l.findIdx (· == c) + 1 < (b :: l).length := by rw [List.length_cons]; omega
        simp only [Bool.false_eq_true, if_false, beq_iff_eq, h1, if_pos h2, cond_false]
        omega
      · rw [if_neg hlt]
        have h2 : ¬ l.findIdx (· == c) + 1 < (b :: l).length := by rw [List.length_cons]; omega
        simp only [Bool.false_eq_true, if_false, beq_self_eq_true, if_true, if_neg h2, cond_false]
    · simp
theorem findIdx_sb (l : List UInt8) (c : UInt8) : (l.map fun c => (c.toNat : Int)).findIdx (· == (c.toNat : Int)) = l.findIdx (· == c) := by
  induction l with
  | nil => rfl
  | cons b l ih => rw [List.map_cons, List.findIdx_cons, List.findIdx_cons, ih, toNat_beq]
/-- A cut around the first colon. -/
theorem cut_col (s : ByteArray) : sb ⟨(Lib.cut s.data.toList [58]).1.toArray⟩ = (sb s).take (colI (sb s)) ∧ sb ⟨(Lib.cut s.data.toList [58]).2.1.toArray⟩ = (sb s).drop (colI (sb s) + 1) ∧ (Lib.cut s.data.toList [58]).2.2 = decide (colI (sb s) < (sb s).length) := by
  have hc : colI (sb s) = s.data.toList.findIdx (· == 58) := findIdx_sb s.data.toList 58
  have hl : (sb s).length = s.data.toList.length := by simp [sb]
  rw [sb_mk (Lib.cut s.data.toList [58]).1, sb_mk (Lib.cut s.data.toList [58]).2.1, hc, hl, Lib.cut, index_one]
  by_cases hlt : s.data.toList.findIdx (· == 58) < s.data.toList.length
  · rw [if_pos hlt, if_pos (by omega)]
    refine ⟨?_, ?_, ?_⟩
    · simp [sb, List.map_take]
    · simp [sb, List.map_drop]
    · simp only [decide_eq_true hlt]
  · rw [if_neg hlt, if_neg (by omega)]
    refine ⟨?_, ?_, ?_⟩
    · rw [List.take_of_length_le (by rw [hl]; omega)]; simp [sb]
    · rw [List.drop_of_length_le (by rw [hl]; omega)]; rfl
    · simp only [decide_eq_false hlt]
theorem dots_lib (l : List UInt8) : Lib.contains l [46, 46] = dotsI (l.map fun c => (c.toNat : Int)) := by
  rw [Lib.contains]
  induction l with
  | nil => rfl
  | cons b l ih =>
    have hge := Lib.index_ge l [46, 46]
    rw [List.map_cons, dotsI, ← ih, Lib.index]
    have e : ([46, 46] : List UInt8).isPrefixOf (b :: l) = ((b.toNat : Int) == 46 && (l.map fun c => (c.toNat : Int)).head? == some 46) := by
      have h46 : ∀ x : UInt8, (46 == x) = ((x.toNat : Int) == 46) := fun x => by rw [show (46 : Int) = ((46 : UInt8).toNat : Int) from rfl, toNat_beq]; exact Bool.beq_comm
      cases l with
      | nil => simp [List.isPrefixOf]
      | cons d l => simp [List.isPrefixOf, h46]
    rw [← e]
    cases ([46, 46] : List UInt8).isPrefixOf (b :: l)
    · by_cases h : Lib.index l [46, 46] = -1
      · simp [h]
      · have : 0 ≤ Lib.index l [46, 46] + 1 := by omega
        have h0 : 0 ≤ Lib.index l [46, 46] := by omega
        simp [h, this, h0]
    · simp
theorem dropWhile_len {α : Type} (p : α → Bool) (l : List α) : (l.dropWhile p).length ≤ l.length := by
  induction l with
  | nil => simp
  | cons x l ih => rw [List.dropWhile_cons]; split <;> simp <;> omega
theorem dropWhile_same {α : Type} (p : α → Bool) (l : List α) : (l.dropWhile p = l ∧ l.head?.any p = false) ∨ ((l.dropWhile p).length < l.length ∧ l.head?.any p = true) := by
  cases l with
  | nil => left; simp
  | cons x l =>
    rw [List.dropWhile_cons]
    cases h : p x
    · left; simp [h]
    · right
      have := dropWhile_len p l
      simp [h]; omega
theorem sign_cut (c : UInt8) : ([46, 45] : List UInt8).contains c = signI (c.toNat : Int) := by
  have h46 : ∀ x : UInt8, (x == 46) = ((x.toNat : Int) == 46) := fun x => by rw [show (46 : Int) = ((46 : UInt8).toNat : Int) from rfl, toNat_beq]
  have h45 : ∀ x : UInt8, (x == 45) = ((x.toNat : Int) == 45) := fun x => by rw [show (45 : Int) = ((45 : UInt8).toNat : Int) from rfl, toNat_beq]
  simp only [List.contains, List.elem, signI, ← h46, ← h45]
  cases (c == 46) <;> cases (c == 45) <;> rfl
theorem any_sign (o : Option UInt8) : (o.map fun c => (c.toNat : Int)).any signI = o.any fun c => ([46, 45] : List UInt8).contains c := by
  cases o with
  | none => rfl
  | some c => exact (sign_cut c).symm
theorem trimS_edges (l : List UInt8) : (Lib.trimS l [46, 45] = l) ↔ edgesI (l.map fun c => (c.toNat : Int)) = true := by
  have hh : (l.map fun c => (c.toNat : Int)).head?.any signI = l.head?.any fun c => ([46, 45] : List UInt8).contains c := by rw [List.head?_map, any_sign]
  have hg : (l.map fun c => (c.toNat : Int)).getLast?.any signI = l.getLast?.any fun c => ([46, 45] : List UInt8).contains c := by rw [List.getLast?_map, any_sign]
  rw [edgesI, hh, hg]
  have hr := dropWhile_same (fun c => ([46, 45] : List UInt8).contains c) l.reverse
  rw [List.head?_reverse] at hr
  unfold Lib.trimS Lib.trimLeftS Lib.trimRightS
  generalize (fun c => ([46, 45] : List UInt8).contains c) = p at *
  rcases hr with ⟨h1, h2⟩ | ⟨h1, h2⟩
  · rw [h1, List.reverse_reverse, h2]
    rcases dropWhile_same p l with ⟨h3, h4⟩ | ⟨h3, h4⟩
    · rw [h4, h3]; simp
    · rw [h4]
      refine ⟨fun e => ?_, fun e => by cases e⟩
      rw [e] at h3
      omega
  · rw [h2]
    refine ⟨fun e => ?_, fun e => by simp at e⟩
    have := dropWhile_len p (l.reverse.dropWhile p).reverse
    rw [e, List.length_reverse] at this
    rw [List.length_reverse] at h1
    omega
end Go.Proofs.YthefddclefimoaaDoor
