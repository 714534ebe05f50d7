/- Layer 6 (address): telephone numbers, as the program tells them. -/
import Derived.Test.YtibkkdbjmcongaaDoorAddrD
import Derived.IntWalk
namespace Go.Proofs.YtibkkdbjmcongaaDoor
open Go.RowKit
set_option linter.unusedVariables false

/-- A number's digits in one way: the country's code ahead of them, where no + stood. -/
def fullS (code : List Int) (trunk known : Bool) (d : List Int) (p : Bool) : List Int :=
  if known && !p then code ++ (if trunk && d.head? == some 48 then d.drop 1 else d) else d
def okLen (f : List Int) : Bool := decide (6 ≤ f.length) && (decide (f.length ≤ 15) && !(f.head? == some 48))
def phoneS (code : List Int) (trunk known : Bool) (l : List Int) : Option (List Int) :=
  match dialS l with
  | none => none
  | some (d, p) => if okLen (fullS code trunk known d p) then some (fullS code trunk known d p) else none
def PhonePost (r : Option (List Int)) (B : Nat) (w : World) (e : Ending) (w' : World) : Prop :=
  (∃ f, r = some f ∧ e = .returned (.tuple #[.string (strOfNums f), .int .i64 0]) ∧ Below B w w') ∨
  (r = none ∧ e = .returned (.tuple #[.string ⟨#[]⟩, .int .i64 2]) ∧ Below B w w')
def trunkB (t : Bool) : ByteArray := if t then ⟨#[48]⟩ else ⟨#[]⟩
theorem bytes_digits {d : List Int} (h : d.all digI = true) : Bytes d := fun x hx => by
  have := List.all_eq_true.1 h x hx
  simp only [digI, Bool.and_eq_true, decide_eq_true_eq] at this
  omega
theorem nought (s : ByteArray) : Lib.hasPrefix s.data.toList [48] = ((sb s).head? == some 48) := by
  have h48 : ∀ x : UInt8, (48 == x) = ((x.toNat : Int) == 48) := fun x => by rw [show (48 : Int) = ((48 : UInt8).toNat : Int) from rfl, toNat_beq]; exact Bool.beq_comm
  unfold Lib.hasPrefix sb
  cases s.data.toList with
  | nil => rfl
  | cons x l => simp [List.isPrefixOf, h48]
theorem trimp_any (d : List Int) (hb : Bytes d) (t : Bool) (w : World) :
    Calls Tryd.prog 62 #[.string (strOfNums d), .string (trunkB t)] w fun e w' => e = .returned (.string (strOfNums (if t && d.head? == some 48 then d.drop 1 else d))) ∧ w' = w := by
  refine (Tryd.strings_TrimPrefix (strOfNums d) (trunkB t) w).mono ?_
  rintro e w' ⟨rfl, rfl⟩
  refine ⟨?_, rfl⟩
  congr 2
  apply sb_inj
  rw [sb_mk]
  cases t
  · show (Lib.trimPrefix _ []).map _ = sb (strOfNums d)
    have : Lib.trimPrefix (strOfNums d).data.toList [] = (strOfNums d).data.toList := by
      unfold Lib.trimPrefix
      split <;> rfl
    rw [this]; rfl
  · show (Lib.trimPrefix _ [48]).map _ = _
    have hn := nought (strOfNums d)
    rw [sb_strOf hb] at hn
    unfold Lib.trimPrefix
    rw [hn]
    cases hh : (d.head? == some 48)
    · rw [if_neg (by simp)]; rfl
    · rw [if_pos rfl]
      have hb2 : Bytes (d.drop 1) := hb.drop 1
      show _ = sb (strOfNums (d.drop 1))
      rw [sb_strOf hb2, List.map_drop]
      have : (strOfNums d).data.toList.map (fun c => (c.toNat : Int)) = d := sb_strOf hb
      rw [this]; rfl
theorem strOf_append (a b : List Int) : strOfNums a ++ strOfNums b = strOfNums (a ++ b) := by
  cases ha : strOfNums a
  rename_i x
  cases hb : strOfNums b
  rename_i y
  apply ByteArray.ext
  have e1 := strOfNums_data a
  have e2 := strOfNums_data b
  have e3 := strOfNums_data (a ++ b)
  apply Array.toList_inj.1
  rw [e3, ← ha, ← hb]
  simp [e1, e2]
/-- What the end of Phone tells of digits. -/
theorem okLen_parts (f : List Int) : okLen f = true ↔ 6 ≤ f.length ∧ f.length ≤ 15 ∧ at0 f 0 ≠ 48 := by
  unfold okLen
  by_cases h : 0 < f.length
  · rw [head_at f h]
    simp
  · have : f = [] := List.eq_nil_of_length_eq_zero (by omega)
    subst this
    simp
set_option maxHeartbeats 1000000 in
theorem phone_known (land : ByteArray) (code : List Int) (trunk : Bool) (s : ByteArray) (w : World) (hs : s.size ≤ 1000000) (hcode : code.all digI = true) (hcl : code.length ≤ 2) (hcl1 : 1 ≤ code.length)
    (hlook : ∀ w B, w.heap[B]? = some (.map lands5 5) → (Instr.lookup 63 (.map (some B)) (.string land) true).run Tryd.prog w = .ok (.tuple #[.agg #[.string (strOfNums code), .string (trunkB trunk)], .bool true]) w) :
    Calls Tryd.prog 26 #[.string land, .string s] w (PhonePost (phoneS code trunk true (sb s)) w.heap.size w) := by
  have HL := Lib.hid (sb_length s)
  have hcs : (strOfNums code).size ≤ 2 := by rw [strOfNums_size]; exact hcl
  go_enter Tryd.func26, Tryd.ntmps26
  go_wp2_with fail
  refine (countries_any w).mono ?_
  rintro e w1 ⟨rfl, hmap, hb1⟩
  have hlk := hlook w1 w.heap.size hmap
  clear hmap hlook
  go_wp2_with fail
  refine (dialled_any s _ hs).mono ?_
  rintro e w2 hpost
  have HB1 := below_alloc hb1 (.cells #[.string (strOfNums code), .string (trunkB trunk)] 61)
  rcases hpost with ⟨d, p, hd, rfl, hb2⟩ | ⟨hd, rfl, hb2⟩
  rotate_left
  · have HF := Lib.hid (show phoneS code trunk true (sb s) = none by rw [phoneS, hd])
    have HB := below_then HB1 hb2
    clear hd
    go_wp2
    go_ret2
    exact .inr ⟨HF.out, rfl, HB⟩
  have HB := below_then HB1 hb2
  obtain ⟨hdl, hda⟩ := dial_digits hd
  have hdl2 : d.length ≤ 1000000 := by have := HL.out; omega
  have hdb := bytes_digits hda
  have hds : (strOfNums d).size ≤ 1000000 := by rw [strOfNums_size]; exact hdl2
  have HF := Lib.hid (show phoneS code trunk true (sb s) = if okLen (fullS code trunk true d p) then some (fullS code trunk true d p) else none by rw [phoneS, hd])
  have hc0 : w2.cell? ⟨w1.heap.size, 0, none⟩ = some (.string (strOfNums code)) := by
    rw [hb2.cell (p := ⟨w1.heap.size, 0, none⟩) (by simp), World.cell?_alloc_at _ _ _ _ rfl]; rfl
  have hc1 : w2.cell? ⟨w1.heap.size, 1, none⟩ = some (.string (trunkB trunk)) := by
    rw [hb2.cell (p := ⟨w1.heap.size, 1, none⟩) (by simp), World.cell?_alloc_at _ _ _ _ rfl]; rfl
  have HTP := fun w' => trimp_any d hdb trunk w'
  have HX := Lib.hid (And.intro hd (And.intro hda hdb))
  clear hd hda hdb hb2 hb1 HB1 hdl
  cases p
  · have hfull : fullS code trunk true d false = code ++ (if trunk && d.head? == some 48 then d.drop 1 else d) := rfl
    have hfb : Bytes (fullS code trunk true d false) := by
      rw [hfull]
      refine (bytes_digits hcode).append ?_
      split
      · exact HX.out.2.2.drop 1
      · exact HX.out.2.2
    have hdr : (if trunk && d.head? == some 48 then d.drop 1 else d).length ≤ d.length := by split <;> simp
    have HTS : (strOfNums (if trunk && d.head? == some 48 then d.drop 1 else d)).size ≤ 1000000 := by rw [strOfNums_size]; omega
    have hX : strOfNums code ++ strOfNums (if trunk && d.head? == some 48 then d.drop 1 else d) = strOfNums (fullS code trunk true d false) := by rw [strOf_append, hfull]
    generalize (if trunk && d.head? == some 48 then d.drop 1 else d) = dd at *
    generalize hT : strOfNums dd = T at *
    generalize hC : strOfNums code = C at *
    have HFB := Lib.hid hfb
    have HXX := Lib.hid hX
    have HCD := Lib.hid hcode
    clear hT hC hfull hfb hX hcode hdr
    go_wp2
    go_quiet ((go_at_call 62; exact Calls.quiet_of_same (HTP _)))
    have hXV := HXX.out
    have hXsz : (C ++ T).size ≤ 1000010 := by rw [ByteArray.size_append]; omega
    generalize C ++ T = X at *
    have HXV := Lib.hid hXV
    have HXS := Lib.hid (show sb X = fullS code trunk true d false by rw [hXV]; exact sb_strOf HFB.out)
    have HXL := Lib.hid (show X.size = (fullS code trunk true d false).length by rw [hXV, strOfNums_size])
    clear hXV HXX
    by_cases h6 : X.size < 6
    · have HN := Lib.hid (show phoneS code trunk true (sb s) = none by
        rw [HF.out, if_neg]
        intro h
        have h1 := (okLen_parts _).1 h
        rw [← HXL.out] at h1
        omega)
      go_wp2
      go_ret2
      exact .inr ⟨HN.out, rfl, below_drewN HB _⟩
    by_cases h15 : 15 < X.size
    · have HN := Lib.hid (show phoneS code trunk true (sb s) = none by
        rw [HF.out, if_neg]
        intro h
        have h1 := (okLen_parts _).1 h
        rw [← HXL.out] at h1
        omega)
      go_wp2
      go_ret2
      exact .inr ⟨HN.out, rfl, below_drewN HB _⟩
    have hx0 : 0 < X.size := by omega
    have hat := at0_sb X 0 hx0
    rw [HXS.out] at hat
    by_cases h48 : at0 (fullS code trunk true d false) 0 = 48
    · have HN := Lib.hid (show phoneS code trunk true (sb s) = none by
        rw [HF.out, if_neg]
        intro h
        exact ((okLen_parts _).1 h).2.2 h48)
      have hb : (((X[0]'hx0).toNat : Int) == 48) = true := by rw [← hat, h48]; rfl
      clear hat h48
      go_wp2
      go_ret2
      exact .inr ⟨HN.out, rfl, below_drewN HB _⟩
    · have HN := Lib.hid (show phoneS code trunk true (sb s) = some (fullS code trunk true d false) by
        rw [HF.out, if_pos]
        refine (okLen_parts _).2 ⟨?_, ?_, h48⟩
        · rw [← HXL.out]; omega
        · rw [← HXL.out]; omega)
      have hb : (((X[0]'hx0).toNat : Int) == 48) = false := by rw [← hat, beq_eq_false_iff_ne]; exact h48
      clear hat h48
      go_wp2
      go_ret2
      exact .inl ⟨_, HN.out, by rw [← HXV.out]; rfl, below_drewN HB _⟩
  · have hX : strOfNums d = strOfNums (fullS code trunk true d true) := rfl
    generalize hXX : strOfNums d = X at *
    have HXV := Lib.hid hX
    have HXS := Lib.hid (show sb X = fullS code trunk true d true by rw [hX]; exact sb_strOf HX.out.2.2)
    have HXL := Lib.hid (show X.size = (fullS code trunk true d true).length by rw [hX, strOfNums_size])
    clear hX hXX HTP
    by_cases h6 : X.size < 6
    · have HN := Lib.hid (show phoneS code trunk true (sb s) = none by
        rw [HF.out, if_neg]
        intro h
        have h1 := (okLen_parts _).1 h
        rw [← HXL.out] at h1
        omega)
      go_wp2
      go_ret2
      exact .inr ⟨HN.out, rfl, HB⟩
    by_cases h15 : 15 < X.size
    · have HN := Lib.hid (show phoneS code trunk true (sb s) = none by
        rw [HF.out, if_neg]
        intro h
        have h1 := (okLen_parts _).1 h
        rw [← HXL.out] at h1
        omega)
      go_wp2
      go_ret2
      exact .inr ⟨HN.out, rfl, HB⟩
    have hx0 : 0 < X.size := by omega
    have hat := at0_sb X 0 hx0
    rw [HXS.out] at hat
    by_cases h48 : at0 (fullS code trunk true d true) 0 = 48
    · have HN := Lib.hid (show phoneS code trunk true (sb s) = none by
        rw [HF.out, if_neg]
        intro h
        exact ((okLen_parts _).1 h).2.2 h48)
      have hb : (((X[0]'hx0).toNat : Int) == 48) = true := by rw [← hat, h48]; rfl
      clear hat h48
      go_wp2
      go_ret2
      exact .inr ⟨HN.out, rfl, HB⟩
    · have HN := Lib.hid (show phoneS code trunk true (sb s) = some (fullS code trunk true d true) by
        rw [HF.out, if_pos]
        refine (okLen_parts _).2 ⟨?_, ?_, h48⟩
        · rw [← HXL.out]; omega
        · rw [← HXL.out]; omega)
      have hb : (((X[0]'hx0).toNat : Int) == 48) = false := by rw [← hat, beq_eq_false_iff_ne]; exact h48
      clear hat h48
      go_wp2
      go_ret2
      exact .inl ⟨_, HN.out, by rw [← HXV.out]; rfl, HB⟩
theorem lands_empty : Instr.findNow .string (.string ⟨#[]⟩) lands5.toList 0 = some none := by kernel_rfl
set_option maxHeartbeats 1000000 in
theorem phone_empty (s : ByteArray) (w : World) (hs : s.size ≤ 1000000) :
    Calls Tryd.prog 26 #[.string ⟨#[]⟩, .string s] w (PhonePost (phoneS [] false false (sb s)) w.heap.size w) := by
  have HL := Lib.hid (sb_length s)
  go_enter Tryd.func26, Tryd.ntmps26
  go_wp2_with fail
  refine (countries_any w).mono ?_
  rintro e w1 ⟨rfl, hmap, hb1⟩
  have hlk := look_no w1 w.heap.size hmap ⟨#[]⟩ lands_empty
  unfold landV at hlk
  clear hmap
  go_wp2_with fail
  refine (dialled_any s _ hs).mono ?_
  rintro e w2 hpost
  have HB1 := below_alloc hb1 (.cells #[.string ⟨#[]⟩, .string ⟨#[]⟩] 61)
  rcases hpost with ⟨d, p, hd, rfl, hb2⟩ | ⟨hd, rfl, hb2⟩
  rotate_left
  · have HF := Lib.hid (show phoneS [] false false (sb s) = none by rw [phoneS, hd])
    have HB := below_then HB1 hb2
    clear hd
    go_wp2
    go_ret2
    exact .inr ⟨HF.out, rfl, HB⟩
  have HB := below_then HB1 hb2
  obtain ⟨hdl, hda⟩ := dial_digits hd
  have hdl2 : d.length ≤ 1000000 := by have := HL.out; omega
  have hdb := bytes_digits hda
  have hds : (strOfNums d).size ≤ 1000000 := by rw [strOfNums_size]; exact hdl2
  have HF := Lib.hid (show phoneS [] false false (sb s) = if okLen (fullS [] false false d p) then some (fullS [] false false d p) else none by rw [phoneS, hd])
  have HX := Lib.hid (And.intro hd (And.intro hda hdb))
  clear hd hda hdb hb2 hb1 HB1 hdl
  have hX : strOfNums d = strOfNums (fullS [] false false d p) := rfl
  generalize hXX : strOfNums d = X at *
  have HXV := Lib.hid hX
  have HXS := Lib.hid (show sb X = fullS [] false false d p by rw [hX]; exact sb_strOf HX.out.2.2)
  have HXL := Lib.hid (show X.size = (fullS [] false false d p).length by rw [hX, strOfNums_size])
  clear hX hXX
  by_cases h6 : X.size < 6
  · have HN := Lib.hid (show phoneS [] false false (sb s) = none by
      rw [HF.out, if_neg]
      intro h
      have h1 := (okLen_parts _).1 h
      rw [← HXL.out] at h1
      omega)
    go_wp2
    go_ret2
    exact .inr ⟨HN.out, rfl, HB⟩
  by_cases h15 : 15 < X.size
  · have HN := Lib.hid (show phoneS [] false false (sb s) = none by
      rw [HF.out, if_neg]
      intro h
      have h1 := (okLen_parts _).1 h
      rw [← HXL.out] at h1
      omega)
    go_wp2
    go_ret2
    exact .inr ⟨HN.out, rfl, HB⟩
  have hx0 : 0 < X.size := by omega
  have hat := at0_sb X 0 hx0
  rw [HXS.out] at hat
  by_cases h48 : at0 (fullS [] false false d p) 0 = 48
  · have HN := Lib.hid (show phoneS [] false false (sb s) = none by
      rw [HF.out, if_neg]
      intro h
      exact ((okLen_parts _).1 h).2.2 h48)
    have hb : (((X[0]'hx0).toNat : Int) == 48) = true := by rw [← hat, h48]; rfl
    clear hat h48
    go_wp2
    go_ret2
    exact .inr ⟨HN.out, rfl, HB⟩
  · have HN := Lib.hid (show phoneS [] false false (sb s) = some (fullS [] false false d p) by
      rw [HF.out, if_pos]
      refine (okLen_parts _).2 ⟨?_, ?_, h48⟩
      · rw [← HXL.out]; omega
      · rw [← HXL.out]; omega)
    have hb : (((X[0]'hx0).toNat : Int) == 48) = false := by rw [← hat, beq_eq_false_iff_ne]; exact h48
    clear hat h48
    go_wp2
    go_ret2
    exact .inl ⟨_, HN.out, by rw [← HXV.out]; rfl, HB⟩
set_option maxHeartbeats 1000000 in
theorem phone_none (land s : ByteArray) (w : World) (hne : land ≠ ⟨#[]⟩) (hf : Instr.findNow .string (.string land) lands5.toList 0 = some none) :
    Calls Tryd.prog 26 #[.string land, .string s] w fun e w' => e = .returned (.tuple #[.string ⟨#[]⟩, .int .i64 7]) ∧ Below w.heap.size w w' := by
  have hb0 : land.toList.isEmpty = false := by
    rw [ByteArray.toList_eq]
    cases hq : land.data.toList with
    | nil =>
      exfalso; apply hne
      apply sb_inj
      simp [sb, hq]
    | cons x r => rfl
  have hb1 : (land.toList == []) = false := by
    cases hq : land.toList with
    | nil => rw [hq] at hb0; cases hb0
    | cons x r => rfl
  have HNE := Lib.hid hne; clear hne
  go_enter Tryd.func26, Tryd.ntmps26
  go_wp2_with fail
  refine (countries_any w).mono ?_
  rintro e w1 ⟨rfl, hmap, hb1⟩
  have hlk := look_no w1 w.heap.size hmap land hf
  unfold landV at hlk
  have HFN := Lib.hid hf
  clear hmap hf
  go_wp2
  go_ret2
  exact ⟨rfl, below_alloc hb1 _⟩
end Go.Proofs.YtibkkdbjmcongaaDoor
