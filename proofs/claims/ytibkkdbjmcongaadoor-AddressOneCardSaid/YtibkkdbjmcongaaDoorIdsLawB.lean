/- Layer 5 (ids): a host with a port behind it: what the law's call does. -/
import Derived.Test.YtibkkdbjmcongaaDoorIdsLawA
namespace Go.Proofs.YtibkkdbjmcongaaDoor
open Go.RowKit
set_option linter.unusedVariables false

theorem col_append_no {h : List Int} (hc : colI h = h.length) (d : List Int) : colI (h ++ 58 :: d) = h.length := by
  unfold colI at *
  have hn : ∀ x ∈ h, (x == 58) = false := by
    intro x hx
    have := List.findIdx_eq_length.1 hc x hx
    simpa using this
  rw [List.findIdx_append, if_neg (by rw [hc]; omega)]
  simp [List.findIdx_cons]
theorem col_append_yes {h : List Int} (hc : colI h < h.length) (d : List Int) : colI (h ++ d) = colI h := by
  unfold colI at *
  rw [List.findIdx_append, if_pos hc]
theorem server_port (h d : List Int) (hd : d.all digI = true) (h1 : 1 ≤ d.length) (h5 : d.length ≤ 5) :
    serverL (h ++ 58 :: d) = (decide (colI h = h.length) && serverL h) := by
  by_cases hc : colI h = h.length
  · have e := col_append_no hc d
    have em : madeI d 5 digI = true := by rw [made_yes d 5 digI h1 (by omega), hd]
    have e1 : (h ++ 58 :: d).take h.length = h := by simp
    have e2 : (h ++ 58 :: d).drop (h.length + 1) = d := by rw [← List.drop_drop]; simp
    have e3 : serverL h = hostL h := by rw [serverL, hc, List.take_length, decide_eq_true (Nat.le_refl _)]; rfl
    rw [serverL, e, e1, e2, em, decide_eq_true hc, e3]
    simp
  · have hlt : colI h < h.length := by have := col_le h; omega
    have e := col_append_yes hlt (58 :: d)
    rw [decide_eq_false hc, serverL, e, decide_eq_false (by simp; omega)]
    have em : madeI ((h ++ 58 :: d).drop (colI h + 1)) 5 digI = false := by
      unfold madeI
      have : ((h ++ 58 :: d).drop (colI h + 1)).all digI = false := by
        rw [List.all_eq_false]
        refine ⟨58, ?_, by decide⟩
        rw [List.drop_append_of_le_length (by omega)]
        simp
      rw [this]; simp
    rw [em]; rfl
theorem digit_sub (k : Nat) (hk : k < 10) : (((sb ⟨#[48, 49, 50, 51, 52, 53, 54, 55, 56, 57]⟩).take (k + 1)).drop k).all digI = true ∧ (((sb ⟨#[48, 49, 50, 51, 52, 53, 54, 55, 56, 57]⟩).take (k + 1)).drop k).length = 1 := by
  have key : ∀ n : Fin 10, (((sb ⟨#[48, 49, 50, 51, 52, 53, 54, 55, 56, 57]⟩).take (n.val + 1)).drop n.val).all digI = true ∧ (((sb ⟨#[48, 49, 50, 51, 52, 53, 54, 55, 56, 57]⟩).take (n.val + 1)).drop n.val).length = 1 := by decide +kernel
  exact key ⟨k, hk⟩
def strSize : Value → Nat
  | .string s => s.size
  | _ => 0
theorem sb_append (a b : ByteArray) : sb (a ++ b) = sb a ++ sb b := by simp [sb]

set_option maxHeartbeats 1000000 in
theorem ports_walk (s : ByteArray) (p : Int) (w : World) (hm : MaxC w) (hs : s.size ≤ 1000) (hp0 : 0 ≤ p) (hp1 : p ≤ 65535) :
    Calls Tryd.prog 5 #[.string s, .int .u16 p] w fun e w' => e = .returned (.bool true) ∧ Below w.heap.size w w' := by
  have hs' : s.size ≤ 1000000 := by omega
  have HB := Below.refl w.heap.size w
  have HL := Lib.hid (sb_length s)
  go_enter Tryd.func5, Tryd.ntmps5
  go_wp2_with fail
  refine (alive05 w hm).mono ?_
  rintro e w1 ⟨rfl, hb1⟩
  replace hm := hm.below hb1
  replace HB := below_then HB hb1
  clear hb1
  go_wp2
  go_loop [5, 6] (fun b i => ∃ k : Nat, k ≤ s.size ∧ i = .int .i64 k ∧ b = .bool (((sb s).take k).all (· != 58))) (fun _ i => s.size - (intOf i).toNat)
  case atStart => exact ⟨0, Nat.zero_le _, rfl, rfl⟩
  case round =>
    obtain ⟨k, hk, rfl, rfl⟩ := hrel
    by_cases hlt : k < s.size
    · have hlk : k < (sb s).length := by have := HL.out; omega
      have HA := Lib.hid (at0_sb s k hlt)
      have HQ := Lib.hid (show ((sb s).take (k + 1)).all (· != 58) = (((sb s).take k).all (· != 58) && (at0 (sb s) k != 58)) by
        rw [List.take_add_one, List.getElem?_eq_getElem hlk, List.all_append, ← at0_lt hlk]; simp)
      generalize hb : ((sb s).take k).all (· != 58) = b0 at *
      have HBb := Lib.hid hb; clear hb
      cases b0
      · go_wp2
        refine ⟨⟨k + 1, by omega, by go_num, by rw [HQ.out]; rfl⟩, by simp [intOf]; omega⟩
      · go_wp2
        refine ⟨⟨k + 1, by omega, by go_num, by rw [HQ.out, HA.out]; rfl⟩, by simp [intOf]; omega⟩
    · obtain rfl : k = s.size := by omega
      rw [List.take_of_length_le (by have := HL.out; omega)]
      have hbare : (sb s).all (· != 58) = decide (colI (sb s) = (sb s).length) := by
        rw [Bool.eq_iff_iff, decide_eq_true_eq, colI, List.findIdx_eq_length, List.all_eq_true]
        simp
      generalize (sb s).all (· != 58) = bare at *
      have HBA := Lib.hid hbare; clear hbare hlt hk
      have hsl := fun (w' : World) (lo hi : Int) (h0 : 0 ≤ lo) (h1 : lo ≤ hi) (h2 : hi ≤ 10) => run_str_slice (P := Tryd.prog) 9 Tryd.underlying9 ⟨#[48, 49, 50, 51, 52, 53, 54, 55, 56, 57]⟩ lo hi h0 h1 h2 w'
      have HS := Lib.hid hsl; clear hsl
      go_wp2
      go_loop [7, 8] (fun t n => ∃ (j : Nat) (m : Int) (d : ByteArray), j ≤ 5 ∧ d.size = j ∧ (sb d).all digI = true ∧ 0 ≤ m ∧ m * 10 ^ j ≤ 65535 ∧ t = .string d ∧ n = .int .i64 m) (fun t _ => 5 - strSize t)
      case atStart => exact ⟨0, p, ⟨#[]⟩, by omega, rfl, rfl, hp0, by omega, rfl, rfl⟩
      case round =>
        obtain ⟨j, m, d, hj, hd, hall, hm0, hm1, rfl, rfl⟩ := hrel
        have HA := Lib.hid hall; clear hall
        by_cases hgo : 0 < m
        · have hj4 : j ≤ 4 := by
            rcases Nat.lt_or_ge j 5 with h | h
            · omega
            · obtain rfl : j = 5 := by omega
              omega
          have hdl : d.size ≤ 4 := by omega
          have hmle : m ≤ 65535 := by
            have : m * 1 ≤ m * 10 ^ j := Int.mul_le_mul_of_nonneg_left (by have := Nat.one_le_two_pow (n := 0); exact_mod_cast Nat.one_le_pow j 10 (by omega)) hm0
            omega
          have hq : m % 10 < 10 := by omega
          have hsl := HS.out
          have hs1 := fun w' => hsl w' (m % 10) (m % 10 + 1) (by omega) (by omega) (by omega)
          have hk2 := digit_sub (m % 10).toNat (by omega)
          have hdg := sb_extract ⟨#[48, 49, 50, 51, 52, 53, 54, 55, 56, 57]⟩ (m % 10).toNat (m % 10 + 1).toNat
          rw [show (m % 10 + 1).toNat = (m % 10).toNat + 1 by omega] at hdg hs1
          rw [← hdg] at hk2
          generalize ByteArray.extract ⟨#[48, 49, 50, 51, 52, 53, 54, 55, 56, 57]⟩ (m % 10).toNat ((m % 10).toNat + 1) = g at *
          have hg1 : g.size = 1 := by rw [← sb_length]; exact hk2.2
          have hgs : g.size ≤ 1 := by omega
          have HG := Lib.hid (And.intro hk2.1 hg1)
          have HD := Lib.hid hd
          have HM := Lib.hid hm1
          have hm10 : m / 10 * 10 ^ (j + 1) ≤ 65535 := by
            have h1 : m / 10 * 10 ≤ m := by omega
            have h2 : m / 10 * 10 ^ (j + 1) = m / 10 * 10 * 10 ^ j := by rw [Int.pow_succ, Int.mul_assoc, Int.mul_comm 10]
            rw [h2]
            refine Int.le_trans (Int.mul_le_mul_of_nonneg_right h1 (Int.pow_nonneg (by omega))) hm1
          have HM10 := Lib.hid hm10
          clear hk2 hdg hg1 hd hm1 hsl hm10
          go_wp2
          refine ⟨⟨j + 1, m / 10, g ++ d, by omega, ?_, ?_, by omega, HM10.out, rfl, rfl⟩, ?_⟩
          · have h1 := HG.out.2
            have h2 := HD.out
            rw [ByteArray.size_append]; omega
          · rw [sb_append, List.all_append, HG.out.1, HA.out]; rfl
          · have h1 := HG.out.2
            have h2 := HD.out
            simp only [strSize, ByteArray.size_append]
            omega
        obtain rfl : m = 0 := by omega
        by_cases hj0 : j = 0
        · obtain rfl : d = ⟨#[]⟩ := by
            apply sb_inj
            rw [List.eq_nil_of_length_eq_zero (by rw [sb_length]; omega : (sb d).length = 0)]; rfl
          clear hd hm1 hj0 hj
          go_wp2
          refine ⟨⟨1, 0, _, by omega, by decide, by decide +kernel, by omega, by omega, rfl, rfl⟩, by decide⟩
        · have hde : d.toList.isEmpty = false := by
            rw [ByteArray.toList_eq]
            cases hq : d.data.toList with
            | nil => exfalso; apply hj0; rw [← hd, Lib.size_eq, hq]; rfl
            | cons x r => rfl
          have hde2 : (d.toList == []) = false := by
            cases hq : d.toList with
            | nil => rw [hq] at hde; cases hde
            | cons x r => rfl
          have hj5 : d.size ≤ 5 := by omega
          have HD := Lib.hid hd
          have HJ := Lib.hid hj0
          clear hd hm1 hj0 hgo HS
          go_wp2_with fail
          have hcat : sb (s ++ ⟨#[58]⟩ ++ d) = sb s ++ 58 :: sb d := by rw [sb_append, sb_append, List.append_assoc]; rfl
          have hsz : (s ++ ⟨#[58]⟩ ++ d).size ≤ 1000000 := by rw [ByteArray.size_append, ByteArray.size_append]; have : (⟨#[58]⟩ : ByteArray).size = 1 := rfl; omega
          have hsrv : serverL (sb (s ++ ⟨#[58]⟩ ++ d)) = (bare && serverL (sb s)) := by
            rw [hcat, server_port _ _ HA.out (by rw [sb_length]; have := HD.out; have := HJ.out; omega) (by rw [sb_length]; omega), HBA.out]
          generalize s ++ ⟨#[58]⟩ ++ d = t at *
          cases bare
          · refine (server_is t false _ hm hsz hsrv).mono ?_
            rintro e w2 ⟨rfl, hb2⟩
            go_wp2
            go_ret
            exact ⟨rfl, below_then HB hb2⟩
          · cases hv : serverL (sb s)
            · rw [hv] at hsrv
              refine (server_is t false _ hm hsz hsrv).mono ?_
              rintro e w2 ⟨rfl, hb2⟩
              replace hm := hm.below hb2
              replace HB := below_then HB hb2
              clear hb2 hsrv hcat
              have HV := Lib.hid hv; clear hv
              go_wp2_with fail
              refine (server_is s false _ hm hs' HV.out).mono ?_
              rintro e w3 ⟨rfl, hb3⟩
              go_wp2
              go_ret
              exact ⟨rfl, below_then HB hb3⟩
            · rw [hv] at hsrv
              refine (server_is t true _ hm hsz hsrv).mono ?_
              rintro e w2 ⟨rfl, hb2⟩
              replace hm := hm.below hb2
              replace HB := below_then HB hb2
              clear hb2 hsrv hcat
              have HV := Lib.hid hv; clear hv
              go_wp2_with fail
              refine (server_is s true _ hm hs' HV.out).mono ?_
              rintro e w3 ⟨rfl, hb3⟩
              go_wp2
              go_ret
              exact ⟨rfl, below_then HB hb3⟩
theorem law_ports (s : ByteArray) (p : Int) (w : World) (hm : MaxC w) (hs : s.size ≤ maxLen) (hp : (Lit.int .u16 p).wf = true) :
    Calls Tryd.prog 5 #[.string s, .int .u16 p] w fun e w' => e = .returned (.bool true) ∧ Below w.heap.size w w' := by
  have hp' : 0 ≤ p ∧ p ≤ 65535 := by simpa [Lit.wf, IntKind.min, IntKind.max, IntKind.signed, IntKind.bits] using hp
  by_cases h2 : 1000 < s.size
  · unfold maxLen at hs
    clear hp
    go_enter Tryd.func5, Tryd.ntmps5
    go_wp2_with fail
    refine (alive05 w hm).mono ?_
    rintro e w1 ⟨rfl, hb1⟩
    go_wp2
    go_ret
    exact ⟨rfl, hb1⟩
  exact ports_walk s p w hm (by omega) hp'.1 hp'.2
end Go.Proofs.YtibkkdbjmcongaaDoor
