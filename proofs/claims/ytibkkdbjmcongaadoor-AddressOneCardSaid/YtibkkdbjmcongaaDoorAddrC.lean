/- Layer 6 (address): telephone numbers: what was dialled. -/
import Derived.Test.YtibkkdbjmcongaaDoorAddrB
import Derived.Test.YtibkkdbjmcongaaDoorSame
namespace Go.Proofs.YtibkkdbjmcongaaDoor
open Go.RowKit
set_option linter.unusedVariables false

def sepI (c : Int) : Bool := [32, 45, 46, 40, 41].contains c
/-- One sign more: the digits so far, and whether a + stood ahead. -/
def dialStep (st : Option (List Int × Bool)) (c : Int) : Option (List Int × Bool) :=
  match st with
  | none => none
  | some (d, p) => if digI c then some (d ++ [c], p) else if c == 43 then (if p || !d.isEmpty then none else some (d, true)) else if sepI c then some (d, p) else none
def dialS (l : List Int) : Option (List Int × Bool) := l.foldl dialStep (some ([], false))
theorem dial_none (l : List Int) : l.foldl dialStep none = none := by
  induction l with
  | nil => rfl
  | cons x r ih => exact ih
theorem dial_succ (l : List Int) (k : Nat) (hk : k < l.length) : dialS (l.take (k + 1)) = dialStep (dialS (l.take k)) (at0 l k) := by
  rw [List.take_add_one, List.getElem?_eq_getElem hk, dialS, List.foldl_append, Option.toList_some, ← at0_lt hk]; rfl
theorem dial_stop (l : List Int) (k : Nat) (hk : k < l.length) (h : dialStep (dialS (l.take k)) (at0 l k) = none) : dialS l = none := by
  have h1 : l = l.take (k + 1) ++ l.drop (k + 1) := (List.take_append_drop _ _).symm
  rw [dialS, h1, List.foldl_append, ← dialS, dial_succ l k hk, h, dial_none]
theorem dial_digits {l : List Int} {d : List Int} {p : Bool} (h : dialS l = some (d, p)) : d.length ≤ l.length ∧ d.all digI = true := by
  have key : ∀ (l : List Int) (d0 : List Int) (p0 : Bool), d0.all digI = true → ∀ d p, l.foldl dialStep (some (d0, p0)) = some (d, p) → d.length ≤ d0.length + l.length ∧ d.all digI = true := by
    intro l
    induction l with
    | nil => intro d0 p0 h0 d p h; simp only [List.foldl_nil, Option.some.injEq, Prod.mk.injEq] at h; obtain ⟨rfl, rfl⟩ := h; exact ⟨by simp, h0⟩
    | cons x r ih =>
      intro d0 p0 h0 d p h
      rw [List.foldl_cons] at h
      have e9 : dialStep (some (d0, p0)) x = if digI x then some (d0 ++ [x], p0) else if x == 43 then (if p0 || !d0.isEmpty then none else some (d0, true)) else if sepI x then some (d0, p0) else none := rfl
      rw [e9] at h
      by_cases h1 : digI x = true
      · simp only [h1, if_true] at h
        have := ih (d0 ++ [x]) p0 (by rw [List.all_append, h0]; simp [h1]) d p h
        simp at this ⊢; exact ⟨by omega, this.2⟩
      · simp only [h1] at h
        by_cases h2 : (x == 43) = true
        · simp only [h2, if_true, Bool.false_eq_true, if_false] at h
          by_cases h3 : (p0 || !d0.isEmpty) = true
          · rw [if_pos h3] at h; rw [dial_none] at h; cases h
          · rw [if_neg h3] at h
            have := ih d0 true h0 d p h
            exact ⟨by simp; omega, this.2⟩
        · simp only [h2, Bool.false_eq_true, if_false] at h
          by_cases h3 : sepI x = true
          · simp only [h3, if_true] at h
            have := ih d0 p0 h0 d p h
            exact ⟨by simp; omega, this.2⟩
          · simp only [h3] at h
            rw [if_neg (by simp), dial_none] at h; cases h
  have := key l [] false rfl d p h
  simpa using this
theorem signs_sep (c : Int) (h0 : 0 ≤ c) (h1 : c ≤ 255) : decide (0 ≤ Lib.indexByte [32, 45, 46, 40, 41] c.toNat.toUInt8) = sepI c := by
  have key : ∀ n : Fin 256, decide (0 ≤ Lib.indexByte [32, 45, 46, 40, 41] n.val.toUInt8) = sepI (n.val : Int) := by decide +kernel
  have := key ⟨c.toNat, by omega⟩
  simpa only [Int.toNat_of_nonneg h0] using this
theorem idxSep_yes (c : Int) (w : World) (h0 : 0 ≤ c) (h1 : c ≤ 255) (h : sepI c = true) :
    Calls Tryd.prog 69 #[.string ⟨#[32, 45, 46, 40, 41]⟩, .int .u8 c] w fun e w' => (∃ k : Int, 0 ≤ k ∧ e = .returned (.int .i64 k)) ∧ w = w' := by
  refine (Tryd.strings_IndexByte ⟨#[32, 45, 46, 40, 41]⟩ c w).mono ?_
  rintro e w' ⟨rfl, rfl⟩
  exact ⟨⟨_, of_decide_eq_true ((signs_sep c h0 h1).trans h), rfl⟩, rfl⟩
theorem idxSep_no (c : Int) (w : World) (h0 : 0 ≤ c) (h1 : c ≤ 255) (h : sepI c = false) :
    Calls Tryd.prog 69 #[.string ⟨#[32, 45, 46, 40, 41]⟩, .int .u8 c] w fun e w' => (∃ k : Int, k < 0 ∧ e = .returned (.int .i64 k)) ∧ w = w' := by
  refine (Tryd.strings_IndexByte ⟨#[32, 45, 46, 40, 41]⟩ c w).mono ?_
  rintro e w' ⟨rfl, rfl⟩
  refine ⟨⟨_, ?_, rfl⟩, rfl⟩
  have := of_decide_eq_false ((signs_sep c h0 h1).trans h)
  exact Int.lt_of_not_ge this
/-- What is told of a number. -/
def DialPost (l : List Int) (B : Nat) (w : World) (e : Ending) (w' : World) : Prop :=
  (∃ d p, dialS l = some (d, p) ∧ e = .returned (.tuple #[.string (strOfNums d), .bool p, .int .i64 0]) ∧ Below B w w') ∨
  (dialS l = none ∧ e = .returned (.tuple #[.string ⟨#[]⟩, .bool false, .int .i64 2]) ∧ Below B w w')
set_option maxHeartbeats 1000000 in
theorem dialled_any (s : ByteArray) (w : World) (hs : s.size ≤ 1000000) :
    Calls Tryd.prog 61 #[.string s] w (DialPost (sb s) w.heap.size w) := by
  obtain ⟨j0, hj, hy0, hy1, hy2⟩ := info_parts info_u8
  have HL := Lib.hid (sb_length s)
  go_enter Tryd.func61, Tryd.ntmps61
  go_wp2
  go_loopw [3, 5, 6, 7, 10] (fun pl v _ _ i wr => ∃ (k : Nat) (d : List Int) (p : Bool), k ≤ s.size ∧ i = .int .i64 k ∧ pl = .bool p ∧ dialS ((sb s).take k) = some (d, p) ∧ d.length ≤ k ∧ wr.ownsRow w.heap.size 5 1 v d.length (d.map (Value.int .u8)) ∧ Below w.heap.size w wr) (fun _ _ _ _ i _ => s.size - (intOf i).toNat)
  case atStart => exact ⟨0, [], false, Nat.zero_le _, rfl, rfl, rfl, by simp, ⟨rfl, .inl ⟨rfl, rfl⟩⟩, Below.refl _ _⟩
  case round =>
    obtain ⟨k, d, p, hk, rfl, rfl, hdial, hdl, hown, hbel⟩ := hrel
    have HDI := Lib.hid hdial; clear hdial
    obtain ⟨av, cap, rfl, hc1, hc2, -, -, -⟩ := own_cell hown
    unfold maxLen at hc2
    have HO := Lib.hid hown
    by_cases hlt : k < s.size
    · have hlk : k < (sb s).length := by have := HL.out; omega
      have hat := at0_sb s k hlt
      have HA := Lib.hid hat; clear hat
      have c0 := (s[k]'hlt).toNat_lt
      have hsucc := dial_succ (sb s) k hlk
      have hstop := dial_stop (sb s) k hlk
      rw [HDI.out, HA.out] at hsucc hstop
      generalize hcc : ((s[k]'hlt).toNat : Int) = c at *
      have hc0 : 0 ≤ c := by omega
      have hc255 : c ≤ 255 := by omega
      have HCC := Lib.hid hcc
      cases h1 : digI c
      · cases h2 : (c == 43)
        · cases h3 : sepI c
          · have e : dialStep (some (d, p)) c = none := by simp [dialStep, h1, h2, h3]
            have HN := Lib.hid (hstop e)
            have HS := fun w' => idxSep_no c w' hc0 hc255 h3
            have HD := Lib.hid h1
            clear h1 h3 hsucc hstop e
            go_wp2_with (first | (go_at_call 82; refine (adigit_is _ _ _ HD.out).mono ?_; rintro e w' ⟨rfl, rfl⟩) | (go_at_call 69; refine (HS _).mono ?_; rintro e w' ⟨⟨q, hq, rfl⟩, rfl⟩))
            go_ret3
            exact .inr ⟨HN.out, rfl, hbel⟩
          · have e : dialStep (some (d, p)) c = some (d, p) := by simp [dialStep, h1, h2, h3]
            have HN := Lib.hid (hsucc.trans e)
            have HS := fun w' => idxSep_yes c w' hc0 hc255 h3
            have HD := Lib.hid h1
            clear h1 h3 hsucc hstop e
            go_wp2_with (first | (go_at_call 82; refine (adigit_is _ _ _ HD.out).mono ?_; rintro e w' ⟨rfl, rfl⟩) | (go_at_call 69; refine (HS _).mono ?_; rintro e w' ⟨⟨q, hq, rfl⟩, rfl⟩))
            exact ⟨⟨k + 1, d, p, by omega, by go_num, rfl, HN.out, by omega, HO.out, hbel⟩, by simp [intOf]; omega⟩
        · have HD := Lib.hid h1
          cases p
          · by_cases hd0 : d = []
            · subst hd0
              have e : dialStep (some ([], false)) c = some ([], true) := by simp [dialStep, h1, h2]
              have HN := Lib.hid (hsucc.trans e)
              clear h1 hsucc hstop e
              go_wp2_with (go_at_call 82; refine (adigit_is _ _ _ HD.out).mono ?_; rintro e w' ⟨rfl, rfl⟩)
              exact ⟨⟨k + 1, [], true, by omega, by go_num, rfl, HN.out, by simp, HO.out, hbel⟩, by simp [intOf]; omega⟩
            · have hdp : 0 < d.length := List.length_pos_iff.2 hd0
              have hdpi : (0 : Int) < d.length := by omega
              have e : dialStep (some (d, false)) c = none := by
                have : d.isEmpty = false := by cases d with
                  | nil => exact (hd0 rfl).elim
                  | cons => rfl
                simp [dialStep, h1, h2, this]
              have HN := Lib.hid (hstop e)
              clear h1 hsucc hstop e hd0
              go_wp2_with (go_at_call 82; refine (adigit_is _ _ _ HD.out).mono ?_; rintro e w' ⟨rfl, rfl⟩)
              go_ret3
              exact .inr ⟨HN.out, rfl, hbel⟩
          · have e : dialStep (some (d, true)) c = none := by simp [dialStep, h1, h2]
            have HN := Lib.hid (hstop e)
            clear h1 hsucc hstop e
            go_wp2_with (go_at_call 82; refine (adigit_is _ _ _ HD.out).mono ?_; rintro e w' ⟨rfl, rfl⟩)
            go_ret3
            exact .inr ⟨HN.out, rfl, hbel⟩
      · have e : dialStep (some (d, p)) c = some (d ++ [c], p) := by simp [dialStep, h1]
        have HN := Lib.hid (hsucc.trans e)
        have HD := Lib.hid h1
        clear h1 hsucc hstop e
        go_wp2_with (first
          | (go_at_call 82; refine (adigit_is _ _ _ HD.out).mono ?_; rintro e w' ⟨rfl, rfl⟩)
          | (at_builtin; refine wpList_append_rd rfl _ _ 43 rfl w.heap.size 5 j0 (.int .u8 0) 1 Tryd.underlying43 hj hy0 hy1 hy2 rfl _ _ _ rfl (hown.alloc _) _ 1 1 [.int .u8 c] rfl reads_one (by simp [Value.oneCell']) (by unfold maxLen; omega) (by omega) (by have hs1 := hbel.size; simp only [World.size_alloc]; omega) (by simp) ?_; intro v3 w3 hown3 hgr3 hc3; have hb3 := (hbel.alloc (by have hs1 := hbel.size; omega) _).trans hc3; clear hgr3 hc3))
        refine ⟨⟨k + 1, d ++ [c], p, by omega, by go_num, rfl, HN.out, by simp; omega, by simpa using hown3, hb3⟩, by simp [intOf]; omega⟩
    · have h := HDI.out
      rw [List.take_of_length_le (by have := HL.out; omega)] at h
      have HN := Lib.hid h; clear h
      have hcv := run_conv_bs (P := Tryd.prog) 43 9 5 Tryd.underlying43 Tryd.underlying9 Tryd.underlying5 _ _ (RdI.of_own hown)
      go_wp2
      go_ret3
      exact .inl ⟨d, p, HN.out, rfl, hbel⟩
end Go.Proofs.YtibkkdbjmcongaaDoor
