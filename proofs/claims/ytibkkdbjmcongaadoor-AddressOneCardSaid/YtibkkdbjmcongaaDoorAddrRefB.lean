/- Layer 6 (address): the reference's telephone numbers where no country is told. -/
import Derived.Test.YtibkkdbjmcongaaDoorAddrRefA
namespace Go.Proofs.YtibkkdbjmcongaaDoor
open Go.RowKit
set_option linter.unusedVariables false

set_option maxHeartbeats 4000000 in
theorem ref_phone_empty (s : ByteArray) (w : World) (hs : s.size ≤ 1000000)
    (hcountry : ∀ w, Calls Tryd.prog 63 #[.string ⟨#[]⟩] w fun e w' => e = .returned (.tuple #[.string ⟨#[]⟩, .bool false, .bool true]) ∧ w = w') :
    Calls Tryd.prog 27 #[.string ⟨#[]⟩, .string s] w (PhonePost (phoneS [] false false (sb s)) w.heap.size w) := by
  have HL := Lib.hid (sb_length s)
  go_enter Tryd.func27, Tryd.ntmps27
  go_wp2_with fail
  refine (hcountry w).mono ?_
  rintro e w' ⟨rfl, rfl⟩
  go_wp2
  go_loop [9, 10, 11, 12, 30, 44, 55] (fun t pl i _ _ _ _ => ∃ (k : Nat) (d : List Int) (p : Bool), k ≤ s.size ∧ i = .int .i64 k ∧ pl = .bool p ∧ t = .string (strOfNums d) ∧ dialS ((sb s).take k) = some (d, p) ∧ d.length ≤ k) (fun _ _ i _ _ _ _ => s.size - (intOf i).toNat)
  case atStart => exact ⟨0, [], false, Nat.zero_le _, rfl, rfl, rfl, rfl, by simp⟩
  case round =>
    obtain ⟨k, d, p, hk, rfl, rfl, rfl, hdial, hdl⟩ := hrel
    have HDI := Lib.hid hdial; clear hdial
    have hds : (strOfNums d).size ≤ 1000000 := by rw [strOfNums_size]; omega
    by_cases hlt : k < s.size
    · have hlk : k < (sb s).length := by have := HL.out; omega
      have hat := at0_sb s k hlt
      have HA := Lib.hid hat; clear hat
      have c0 := (s[k]'hlt).toNat_lt
      have hsucc := dial_succ (sb s) k hlk
      have hstop := dial_stop (sb s) k hlk
      rw [HDI.out, HA.out] at hsucc hstop
      have hex : sb (s.extract k (k + 1)) = [at0 (sb s) k] := by
        rw [sb_extract, List.take_add_one, List.getElem?_eq_getElem hlk, List.drop_append_of_le_length (by simp; omega), List.drop_of_length_le (by rw [List.length_take]; omega), ← at0_lt hlk]; rfl
      rw [HA.out] at hex
      generalize hcc : ((s[k]'hlt).toNat : Int) = c at *
      have hc0 : 0 ≤ c := by omega
      have hc255 : c ≤ 255 := by omega
      have hb1 : Bytes [c] := fun x hx => by simp at hx; omega
      have hnew : strOfNums d ++ s.extract k (k + 1) = strOfNums (d ++ [c]) := by
        rw [show s.extract k (k + 1) = strOfNums [c] from sb_inj (hex.trans (sb_strOf hb1).symm), strOf_append]
      have hxs : (s.extract k (k + 1)).size ≤ 1 := by rw [← sb_length, hex]; simp
      by_cases h1 : digI c = true
      · have e : dialStep (some (d, p)) c = some (d ++ [c], p) := by simp [dialStep, h1]
        have HN := Lib.hid (hsucc.trans e)
        simp only [digI, Bool.and_eq_true, decide_eq_true_eq] at h1
        obtain ⟨q1, q2⟩ := h1
        have HW := Lib.hid hnew
        have hks : (k : Int) + 1 ≤ s.size := by omega
        have hsl := slice_one s k (by omega)
        clear hsucc hstop e hex hb1 hnew
        go_wp2
        refine ⟨⟨k + 1, d ++ [c], p, by omega, by go_num, rfl, by rw [← HW.out], HN.out, by simp; omega⟩, by simp [intOf]; omega⟩
      have h1' : digI c = false := by simpa using h1
      by_cases h2 : c = 43
      · subst h2
        clear h1 hnew hxs hex hb1 c0
        by_cases hd0 : d = [] ∧ p = false
        · obtain ⟨rfl, rfl⟩ := hd0
          have e : dialStep (some ([], false)) 43 = some ([], true) := by decide
          have HN := Lib.hid (hsucc.trans e)
          clear hsucc hstop e h1'
          have hemp : (strOfNums []) = ⟨#[]⟩ := rfl
          rw [hemp]
          clear hemp
          go_wp2
          exact ⟨⟨k + 1, [], true, by omega, by go_num, rfl, rfl, HN.out, by simp⟩, by simp [intOf]; omega⟩
        · have e : dialStep (some (d, p)) 43 = none := by
            cases d with
            | nil =>
              cases p
              · exact (hd0 ⟨rfl, rfl⟩).elim
              · decide
            | cons x r => simp [dialStep, digI]
          have HN := Lib.hid (show phoneS [] false false (sb s) = none by rw [phoneS, hstop e])
          clear hsucc hstop e h1'
          cases d with
          | nil =>
            cases p
            · exact (hd0 ⟨rfl, rfl⟩).elim
            · clear hd0
              have hemp : (strOfNums []) = ⟨#[]⟩ := rfl
              rw [hemp]
              clear hemp
              go_wp2
              go_ret2
              exact .inr ⟨HN.out, rfl, Below.refl _ _⟩
          | cons x r =>
            clear hd0
            have hne : (strOfNums (x :: r)).toList.isEmpty = false := by rw [ByteArray.toList_eq]; rfl
            have hne2 : ((strOfNums (x :: r)).toList == []) = false := by rw [ByteArray.toList_eq]; rfl
            go_wp2
            go_ret2
            exact .inr ⟨HN.out, rfl, Below.refl _ _⟩
      have h2' : (c == 43) = false := beq_eq_false_iff_ne.2 h2
      cases h3 : sepI c
      · have e : dialStep (some (d, p)) c = none := by simp [dialStep, h1', h2', h3]
        have HN := Lib.hid (show phoneS [] false false (sb s) = none by rw [phoneS, hstop e])
        have n32 : (c == 32) = false := by rw [beq_eq_false_iff_ne]; rintro rfl; cases h3
        have n45 : (c == 45) = false := by rw [beq_eq_false_iff_ne]; rintro rfl; cases h3
        have n46 : (c == 46) = false := by rw [beq_eq_false_iff_ne]; rintro rfl; cases h3
        have n40 : (c == 40) = false := by rw [beq_eq_false_iff_ne]; rintro rfl; cases h3
        have n41 : (c == 41) = false := by rw [beq_eq_false_iff_ne]; rintro rfl; cases h3
        simp only [digI, Bool.and_eq_false_iff, decide_eq_false_iff_not] at h1'
        by_cases q1 : 48 ≤ c
        · have q2 : 57 < c := by omega
          clear hsucc hstop e hex hb1 hnew hxs h1 h2 h3 h1'
          go_wp2
          go_ret2
          exact .inr ⟨HN.out, rfl, Below.refl _ _⟩
        · clear hsucc hstop e hex hb1 hnew hxs h1 h2 h3 h1'
          go_wp2
          go_ret2
          exact .inr ⟨HN.out, rfl, Below.refl _ _⟩
      · have e : dialStep (some (d, p)) c = some (d, p) := by simp [dialStep, h1', h2', h3]
        have HN := Lib.hid (hsucc.trans e)
        have h5 : c = 32 ∨ c = 45 ∨ c = 46 ∨ c = 40 ∨ c = 41 := by simpa [sepI] using h3
        clear hsucc hstop e hex hb1 hnew hxs h1 h2 h3 h1' h2'
        rcases h5 with rfl | rfl | rfl | rfl | rfl
        all_goals go_wp2
        all_goals exact ⟨⟨k + 1, d, p, by omega, by go_num, rfl, rfl, HN.out, by omega⟩, by simp [intOf]; omega⟩
    · have h := HDI.out
      rw [List.take_of_length_le (by have := HL.out; omega)] at h
      obtain ⟨-, hda⟩ := dial_digits h
      have HF := Lib.hid (show phoneS [] false false (sb s) = if okLen (fullS [] false false d p) then some (fullS [] false false d p) else none by rw [phoneS, h])
      have hdb := bytes_digits hda
      clear h hda
      cases p
      · have HFB := Lib.hid (show Bytes (fullS [] false false d false) from hdb)
        have hXV : strOfNums d = strOfNums (fullS [] false false d false) := rfl
        generalize strOfNums d = X at *
        have HXV := Lib.hid hXV
        have HXS := Lib.hid (show sb X = fullS [] false false d false by rw [hXV]; exact sb_strOf HFB.out)
        have HXL := Lib.hid (show X.size = (fullS [] false false d false).length by rw [hXV, strOfNums_size])
        clear hXV hdb
        by_cases h6 : X.size < 6
        · have HN := Lib.hid (show phoneS [] false false (sb s) = none by
            rw [HF.out, if_neg]
            intro h
            have h1 := (okLen_parts _).1 h
            rw [← HXL.out] at h1
            omega)
          go_wp2
          go_ret2
          exact .inr ⟨HN.out, rfl, Below.refl _ _⟩
        by_cases h15 : 15 < X.size
        · have HN := Lib.hid (show phoneS [] false false (sb s) = none by
            rw [HF.out, if_neg]
            intro h
            have h1 := (okLen_parts _).1 h
            rw [← HXL.out] at h1
            omega)
          go_wp2
          go_ret2
          exact .inr ⟨HN.out, rfl, Below.refl _ _⟩
        have hx0 : 0 < X.size := by omega
        have hat := at0_sb X 0 hx0
        rw [HXS.out] at hat
        by_cases h48 : at0 (fullS [] false false d false) 0 = 48
        · have HN := Lib.hid (show phoneS [] false false (sb s) = none by
            rw [HF.out, if_neg]
            intro h
            exact ((okLen_parts _).1 h).2.2 h48)
          have hb : (((X[0]'hx0).toNat : Int) == 48) = true := by rw [← hat, h48]; rfl
          clear hat h48
          go_wp2
          go_ret2
          exact .inr ⟨HN.out, rfl, Below.refl _ _⟩
        · have HN := Lib.hid (show phoneS [] false false (sb s) = some (fullS [] false false d false) by
            rw [HF.out, if_pos]
            refine (okLen_parts _).2 ⟨?_, ?_, h48⟩
            · rw [← HXL.out]; omega
            · rw [← HXL.out]; omega)
          have hb : (((X[0]'hx0).toNat : Int) == 48) = false := by rw [← hat, beq_eq_false_iff_ne]; exact h48
          clear hat h48
          go_wp2
          go_ret2
          exact .inl ⟨_, HN.out, by rw [← HXV.out]; rfl, Below.refl _ _⟩
      · have HFB := Lib.hid (show Bytes (fullS [] false false d true) from hdb)
        have hXV : strOfNums d = strOfNums (fullS [] false false d true) := rfl
        generalize strOfNums d = X at *
        have HXV := Lib.hid hXV
        have HXS := Lib.hid (show sb X = fullS [] false false d true by rw [hXV]; exact sb_strOf HFB.out)
        have HXL := Lib.hid (show X.size = (fullS [] false false d true).length by rw [hXV, strOfNums_size])
        clear hXV hdb
        by_cases h6 : X.size < 6
        · have HN := Lib.hid (show phoneS [] false false (sb s) = none by
            rw [HF.out, if_neg]
            intro h
            have h1 := (okLen_parts _).1 h
            rw [← HXL.out] at h1
            omega)
          go_wp2
          go_ret2
          exact .inr ⟨HN.out, rfl, Below.refl _ _⟩
        by_cases h15 : 15 < X.size
        · have HN := Lib.hid (show phoneS [] false false (sb s) = none by
            rw [HF.out, if_neg]
            intro h
            have h1 := (okLen_parts _).1 h
            rw [← HXL.out] at h1
            omega)
          go_wp2
          go_ret2
          exact .inr ⟨HN.out, rfl, Below.refl _ _⟩
        have hx0 : 0 < X.size := by omega
        have hat := at0_sb X 0 hx0
        rw [HXS.out] at hat
        by_cases h48 : at0 (fullS [] false false d true) 0 = 48
        · have HN := Lib.hid (show phoneS [] false false (sb s) = none by
            rw [HF.out, if_neg]
            intro h
            exact ((okLen_parts _).1 h).2.2 h48)
          have hb : (((X[0]'hx0).toNat : Int) == 48) = true := by rw [← hat, h48]; rfl
          clear hat h48
          go_wp2
          go_ret2
          exact .inr ⟨HN.out, rfl, Below.refl _ _⟩
        · have HN := Lib.hid (show phoneS [] false false (sb s) = some (fullS [] false false d true) by
            rw [HF.out, if_pos]
            refine (okLen_parts _).2 ⟨?_, ?_, h48⟩
            · rw [← HXL.out]; omega
            · rw [← HXL.out]; omega)
          have hb : (((X[0]'hx0).toNat : Int) == 48) = false := by rw [← hat, beq_eq_false_iff_ne]; exact h48
          clear hat h48
          go_wp2
          go_ret2
          exact .inl ⟨_, HN.out, by rw [← HXV.out]; rfl, Below.refl _ _⟩
end Go.Proofs.YtibkkdbjmcongaaDoor
