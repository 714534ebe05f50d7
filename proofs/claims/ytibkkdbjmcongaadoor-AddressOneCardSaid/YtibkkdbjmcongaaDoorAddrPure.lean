/- Layer 6 (address): the document's words over lists of bytes, as numbers; and what the library's words are in these. -/
import Derived.Test.YtibkkdbjmcongaaDoorIdsRefB
import Derived.Test.YtibkkdbjmcongaaDoorUtfText
namespace Go.Proofs.YtibkkdbjmcongaaDoor
open Go.RowKit
set_option linter.unusedVariables false

def lsgI (c : Int) : Bool := [46, 33, 35, 36, 37, 38, 39, 42, 43, 47, 61, 63, 94, 95, 96, 123, 124, 125, 126, 45].contains c
def locI (c : Int) : Bool := digI c || smlI c || grtI c || lsgI c
def dotI (c : Int) : Bool := c == 46
/-- Neither end is a point. -/
def pedgesI (l : List Int) : Bool := !(l.head?.any dotI) && !(l.getLast?.any dotI)
def localL (l : List Int) : Bool := madeI l 64 locI && (!dotsI l && pedgesI l)
def domainL (l : List Int) : Bool := hostL l && l.contains 46
def spI (c : Int) : Bool := c == 32
/-- Without blanks at both ends. -/
def trimI (l : List Int) : List Int := ((l.reverse.dropWhile spI).reverse).dropWhile spI
def atI (l : List Int) : Nat := l.findIdx (· == 64)
def mailB (t : List Int) : Bool := decide (atI t < t.length) && (decide (t.length ≤ 254) && (localL (t.take (atI t)) && domainL (t.drop (atI t + 1))))

theorem signs_local (c : Int) (h0 : 0 ≤ c) (h1 : c ≤ 255) : decide (0 ≤ Lib.indexByte [46, 33, 35, 36, 37, 38, 39, 42, 43, 47, 61, 63, 94, 95, 96, 123, 124, 125, 126, 45] c.toNat.toUInt8) = lsgI c := by
  have key : ∀ n : Fin 256, decide (0 ≤ Lib.indexByte [46, 33, 35, 36, 37, 38, 39, 42, 43, 47, 61, 63, 94, 95, 96, 123, 124, 125, 126, 45] n.val.toUInt8) = lsgI (n.val : Int) := by decide +kernel
  have := key ⟨c.toNat, by omega⟩
  simpa only [Int.toNat_of_nonneg h0] using this
theorem cut_gen (s : ByteArray) (c : UInt8) : sb ⟨(Lib.cut s.data.toList [c]).1.toArray⟩ = (sb s).take ((sb s).findIdx (· == (c.toNat : Int))) ∧ sb ⟨(Lib.cut s.data.toList [c]).2.1.toArray⟩ = (sb s).drop ((sb s).findIdx (· == (c.toNat : Int)) + 1) ∧ (Lib.cut s.data.toList [c]).2.2 = decide ((sb s).findIdx (· == (c.toNat : Int)) < (sb s).length) := by
  have hc : (sb s).findIdx (· == (c.toNat : Int)) = s.data.toList.findIdx (· == c) := findIdx_sb s.data.toList c
  have hl : (sb s).length = s.data.toList.length := by simp [sb]
  rw [sb_mk (Lib.cut s.data.toList [c]).1, sb_mk (Lib.cut s.data.toList [c]).2.1, hc, hl, Lib.cut, index_one]
  by_cases hlt : s.data.toList.findIdx (· == c) < s.data.toList.length
  · rw [if_pos hlt, if_pos (by omega)]
    refine ⟨?_, ?_, ?_⟩
    · simp [sb, List.map_take]
    · simp [sb, List.map_drop]
    · simp only [decide_eq_true hlt]
  · rw [if_neg hlt, if_neg (by omega)]
    refine ⟨?_, ?_, ?_⟩
    · rw [List.take_of_length_le (by rw [hl]; omega)]; simp [sb]
    · rw [List.drop_of_length_le (by rw [hl]; omega)]; rfl
    · simp only [decide_eq_false hlt]
theorem dropWhile_map (p : Int → Bool) (q : UInt8 → Bool) (h : ∀ c, q c = p (c.toNat : Int)) (l : List UInt8) : (l.dropWhile q).map (fun c => (c.toNat : Int)) = (l.map fun c => (c.toNat : Int)).dropWhile p := by
  induction l with
  | nil => rfl
  | cons x r ih =>
    rw [List.dropWhile_cons, List.map_cons, List.dropWhile_cons, h x]
    split
    · exact ih
    · rfl
theorem beq_num (x c : UInt8) : (x == c) = ((x.toNat : Int) == (c.toNat : Int)) := (toNat_beq x c).symm
theorem trim_sp (l : List UInt8) : (Lib.trimB l 32).map (fun c => (c.toNat : Int)) = trimI (l.map fun c => (c.toNat : Int)) := by
  have hq : ∀ c : UInt8, (c == 32) = spI (c.toNat : Int) := fun c => beq_num c 32
  unfold Lib.trimB Lib.trimLeftB Lib.trimRightB trimI
  rw [dropWhile_map spI (fun c => c == 32) hq, List.map_reverse, dropWhile_map spI (fun c => c == 32) hq, List.map_reverse]
theorem any_dot (o : Option UInt8) : (o.map fun c => (c.toNat : Int)).any dotI = o.any fun c => ([46] : List UInt8).contains c := by
  cases o with
  | none => rfl
  | some c =>
    show dotI (c.toNat : Int) = ([46] : List UInt8).contains c
    rw [Lib.contains_one]; exact (beq_num c 46).symm
theorem trimS_pedges (l : List UInt8) : (Lib.trimS l [46] = l) ↔ pedgesI (l.map fun c => (c.toNat : Int)) = true := by
  have hh : (l.map fun c => (c.toNat : Int)).head?.any dotI = l.head?.any fun c => ([46] : List UInt8).contains c := by rw [List.head?_map, any_dot]
  have hg : (l.map fun c => (c.toNat : Int)).getLast?.any dotI = l.getLast?.any fun c => ([46] : List UInt8).contains c := by rw [List.getLast?_map, any_dot]
  rw [pedgesI, hh, hg]
  have hr := dropWhile_same (fun c => ([46] : List UInt8).contains c) l.reverse
  rw [List.head?_reverse] at hr
  unfold Lib.trimS Lib.trimLeftS Lib.trimRightS
  generalize (fun c => ([46] : List UInt8).contains c) = p at *
  rcases hr with ⟨h1, h2⟩ | ⟨h1, h2⟩
  · rw [h1, List.reverse_reverse, h2]
    rcases dropWhile_same p l with ⟨h3, h4⟩ | ⟨h3, h4⟩
    · rw [h4, h3]; simp
    · rw [h4]
      refine ⟨fun e => ?_, fun e => by cases e⟩
      rw [e] at h3
      omega
  · rw [h2]
    refine ⟨fun e => ?_, fun e => by simp at e⟩
    have := dropWhile_len p (l.reverse.dropWhile p).reverse
    rw [e, List.length_reverse] at this
    rw [List.length_reverse] at h1
    omega
theorem host_no_colon {l : List Int} (h : hostL l = true) : colI l = l.length := by
  simp only [hostL, Bool.and_eq_true] at h
  obtain ⟨-, -, ha⟩ := made_len h.1
  unfold colI
  rw [List.findIdx_eq_length]
  intro x hx
  have := List.all_eq_true.1 ha x hx
  cases hq : (x == 58)
  · rfl
  · rw [beq_iff_eq.1 hq] at this; cases this
theorem domain_server (l : List Int) : (serverL l && (l.contains 46 && !l.contains 58)) = domainL l := by
  unfold domainL
  cases hc : l.contains 58
  · have e : colI l = l.length := by
      unfold colI
      rw [List.findIdx_eq_length]
      intro x hx
      cases hq : (x == 58)
      · rfl
      · rw [beq_iff_eq.1 hq] at hx
        have : l.contains 58 = true := by simpa using hx
        rw [hc] at this; cases this
    have e2 : serverL l = hostL l := by rw [serverL, e, List.take_length, decide_eq_true (Nat.le_refl _)]; rfl
    rw [e2]; simp
  · cases hh : hostL l
    · simp
    · have := host_no_colon hh
      unfold colI at this
      rw [List.findIdx_eq_length] at this
      have h58 : (58 : Int) ∈ l := by simpa using hc
      have := this 58 h58
      cases this
end Go.Proofs.YtibkkdbjmcongaaDoor
