/- Layer 6 (address): the reference's email addresses; the law on them. -/
import Derived.Test.YtibkkdbjmcongaaDoorAddrRefE
import Derived.Test.YtibkkdbjmcongaaDoorIdsRefC
namespace Go.Proofs.YtibkkdbjmcongaaDoor
open Go.RowKit
set_option linter.unusedVariables false

def rdI (l : List Int) : List Int := (l.reverse.dropWhile spI).reverse
theorem rd_cons (x : Int) (r : List Int) : rdI (x :: r) = if rdI r = [] then (if spI x then [] else [x]) else x :: rdI r := by
  unfold rdI
  rw [List.reverse_cons, List.dropWhile_append]
  cases h : (r.reverse.dropWhile spI) with
  | nil =>
    simp only [List.isEmpty_nil, if_true, List.reverse_nil]
    by_cases hx : spI x = true
    · simp [hx]
    · simp [hx]
  | cons a b =>
    simp
theorem trim_comm (l : List Int) : (rdI l).dropWhile spI = rdI (l.dropWhile spI) := by
  induction l with
  | nil => rfl
  | cons x r ih =>
    rw [rd_cons]
    by_cases hx : spI x = true
    · have e : (x :: r).dropWhile spI = r.dropWhile spI := by simp [hx]
      rw [e]
      by_cases hr : rdI r = []
      · rw [if_pos hr, if_pos hx, ← ih, hr]
      · have e2 : (x :: rdI r).dropWhile spI = (rdI r).dropWhile spI := by simp [hx]
        rw [if_neg hr, e2, ih]
    · have e : (x :: r).dropWhile spI = x :: r := by simp [hx]
      rw [e, rd_cons]
      by_cases hr : rdI r = []
      · rw [if_pos hr, if_neg hx]
        simp [hx]
      · rw [if_neg hr]
        simp [hx]
theorem trimI_eq (l : List Int) : trimI l = rdI (l.dropWhile spI) := trim_comm l
theorem mail_nil : mailB [] = false := by decide
theorem dw_head {l : List Int} (h : 0 < l.length) (h2 : at0 l 0 = 32) : l.dropWhile spI = (l.drop 1).dropWhile spI := by
  cases l with
  | nil => simp at h
  | cons x r =>
    rw [at0_cons_zero] at h2
    rw [List.dropWhile_cons, if_pos (by rw [h2]; decide)]; rfl
theorem dw_stop {l : List Int} (h : 0 < l.length) (h2 : at0 l 0 ≠ 32) : l.dropWhile spI = l := by
  cases l with
  | nil => rfl
  | cons x r =>
    rw [at0_cons_zero] at h2
    rw [List.dropWhile_cons, if_neg]
    simp [spI, h2]
theorem rev_head (l : List Int) (h : 0 < l.length) : at0 l.reverse 0 = at0 l (l.length - 1) := by
  rw [at0_lt (by simpa using h), at0_lt (by omega), List.getElem_reverse]; simp
theorem rd_last {l : List Int} (h : 0 < l.length) (h2 : at0 l (l.length - 1) = 32) : rdI l = rdI (l.take (l.length - 1)) := by
  unfold rdI
  rw [dw_head (l := l.reverse) (by simpa using h) (by rw [rev_head l h]; exact h2)]
  congr 2
  rw [List.drop_reverse]
theorem rd_stop {l : List Int} (h : 0 < l.length) (h2 : at0 l (l.length - 1) ≠ 32) : rdI l = l := by
  unfold rdI
  rw [dw_stop (l := l.reverse) (by simpa using h) (by rw [rev_head l h]; exact h2), List.reverse_reverse]
theorem atI_at {l : List Int} {k : Nat} (hk : k < l.length) (h : (l.take k).all (fun x => !(x == 64)) = true) (h2 : at0 l k = 64) : atI l = k := findIdx_at hk h (by rw [h2]; rfl)
theorem rd_nil : rdI [] = [] := rfl
/-- What is told of an email address. -/
def MailPost (s : ByteArray) (B : Nat) (w : World) (e : Ending) (w' : World) : Prop :=
  (mailB (trimI (sb s)) = true ∧ e = .returned (.tuple #[.string (lowS (trB s)), .int .i64 0]) ∧ Below B w w') ∨
  (mailB (trimI (sb s)) = false ∧ e = .returned (.tuple #[.string ⟨#[]⟩, .int .i64 2]) ∧ Below B w w')
set_option maxHeartbeats 4000000 in
theorem ref_email_any (s : ByteArray) (w : World) (hs : s.size ≤ 1000000) :
    Calls Tryd.prog 25 #[.string s] w (MailPost s w.heap.size w) := by
  go_enter Tryd.func25, Tryd.ntmps25
  go_wp2
  go_loop [0] (fun v => ∃ t : ByteArray, v = .string t ∧ (sb t).dropWhile spI = (sb s).dropWhile spI ∧ t.size ≤ s.size) (fun v => strSize v)
  case atStart => exact ⟨s, rfl, rfl, Nat.le_refl _⟩
  case round =>
    obtain ⟨t, rfl, ht, hts⟩ := hrel
    have HT := Lib.hid ht; clear ht
    have HTL := Lib.hid (sb_length t)
    by_cases h0 : 0 < t.size
    rotate_left
    · have hz : t.size = 0 := by omega
      obtain rfl : t = ⟨#[]⟩ := by
        apply sb_inj
        rw [List.eq_nil_of_length_eq_zero (by rw [sb_length]; exact hz : (sb t).length = 0)]; rfl
      have HM := Lib.hid (show mailB (trimI (sb s)) = false by rw [trimI_eq, ← HT.out]; decide)
      clear hz h0 hts
      go_wp2
      go_rounds 1
      go_wp2
      go_rounds 1
      go_ret2
      exact .inr ⟨HM.out, rfl, Below.refl _ _⟩
    have hat := at0_sb t 0 h0
    have h0i : (1 : Int) ≤ t.size := by omega
    have htl : 0 < (sb t).length := by rw [sb_length]; exact h0
    by_cases h32 : at0 (sb t) 0 = 32
    · have hb : (((t[0]'h0).toNat : Int) == 32) = true := by rw [← hat, h32]; rfl
      have hx := sb_tail t 1
      have hd := dw_head htl h32
      rw [← hx] at hd
      have hxs : (t.extract 1 t.size).size + 1 = t.size := by rw [← sb_length, hx, List.length_drop, sb_length]; omega
      have HD := Lib.hid hd
      have HXS := Lib.hid hxs
      clear hat h32 hx hd htl hxs
      go_wp2
      refine ⟨⟨_, rfl, by rw [← HD.out]; exact HT.out, by have := HXS.out; omega⟩, ?_⟩
      have := HXS.out
      simp only [strSize]
      omega
    have hb : (((t[0]'h0).toNat : Int) == 32) = false := by rw [← hat, beq_eq_false_iff_ne]; exact h32
    have hts2 := dw_stop htl h32
    rw [HT.out] at hts2
    have HTS := Lib.hid hts2
    clear hat h32 htl hts2
    go_wp2
    go_loop [0] (fun v => ∃ u : ByteArray, v = .string u ∧ rdI (sb u) = rdI (sb t) ∧ u.size ≤ t.size) (fun v => strSize v)
    case atStart => exact ⟨t, rfl, rfl, Nat.le_refl _⟩
    case round =>
      obtain ⟨u, rfl, hu, hus⟩ := hrel
      clear hb
      have HU := Lib.hid hu; clear hu
      have HUL := Lib.hid (sb_length u)
      by_cases k0 : 0 < u.size
      rotate_left
      · have hz : u.size = 0 := by omega
        obtain rfl : u = ⟨#[]⟩ := by
          apply sb_inj
          rw [List.eq_nil_of_length_eq_zero (by rw [sb_length]; exact hz : (sb u).length = 0)]; rfl
        have HM := Lib.hid (show mailB (trimI (sb s)) = false by rw [trimI_eq, HTS.out, ← HU.out]; decide)
        clear hz k0 hus
        go_wp2
        go_rounds 1
        go_ret2
        exact .inr ⟨HM.out, rfl, Below.refl _ _⟩
      have kx : u.size - 1 < u.size := by omega
      have kat := at0_sb u (u.size - 1) kx
      have kul : 0 < (sb u).length := by rw [sb_length]; exact k0
      have ki1 : (0 : Int) ≤ (u.size : Int) - 1 := by omega
      have ki2 : (u.size : Int) - 1 < u.size := by omega
      have ki3 : ((u.size : Int) - 1).toNat = u.size - 1 := by omega
      have ki4 : (1 : Int) ≤ u.size := by omega
      by_cases k32 : at0 (sb u) (u.size - 1) = 32
      · have kb : (((u[u.size - 1]'kx).toNat : Int) == 32) = true := by rw [← kat, k32]; rfl
        have hx := sb_extract u 0 (u.size - 1)
        rw [List.drop_zero] at hx
        have hd := rd_last kul (by rw [sb_length]; exact k32)
        rw [sb_length, ← hx] at hd
        have hxs : (u.extract 0 (u.size - 1)).size + 1 = u.size := by rw [← sb_length, hx, List.length_take, sb_length]; omega
        have HD := Lib.hid hd
        have HXS := Lib.hid hxs
        clear kat k32 hx hd kul hxs
        go_wp2
        refine ⟨⟨_, rfl, by rw [← HD.out]; exact HU.out, by have := HXS.out; omega⟩, ?_⟩
        have := HXS.out
        simp only [strSize]
        omega
      have kb : (((u[u.size - 1]'kx).toNat : Int) == 32) = false := by rw [← kat, beq_eq_false_iff_ne]; exact k32
      have hu2 := rd_stop kul (by rw [sb_length]; exact k32)
      rw [HU.out, ← HTS.out, ← trimI_eq] at hu2
      have HUS := Lib.hid hu2
      clear kat k32 kul hu2
      go_wp2
      clear kb
      have hus2 : u.size ≤ 1000000 := by omega
      go_loop [4] (fun i => ∃ k : Nat, k ≤ u.size ∧ i = .int .i64 k ∧ ((sb u).take k).all (fun x => !(x == 64)) = true) (fun i => u.size - (intOf i).toNat)
      case atStart => exact ⟨0, Nat.zero_le _, rfl, rfl⟩
      case round =>
        obtain ⟨k, hk, rfl, hall⟩ := hrel
        have H := Lib.hid hall; clear hall
        by_cases hlt : k < u.size
        rotate_left
        · have hno : mailB (trimI (sb s)) = false := by
            rw [HUS.out, mailB, decide_eq_false]
            · rfl
            · have h := H.out
              rw [List.take_of_length_le (by have := HUL.out; omega)] at h
              have : atI (sb u) = (sb u).length := by
                unfold atI
                rw [List.findIdx_eq_length]
                intro x hx
                simpa using List.all_eq_true.1 h x hx
              omega
          have HM := Lib.hid hno
          clear hno
          go_wp2
          go_ret2
          exact .inr ⟨HM.out, rfl, Below.refl _ _⟩
        have hlk : k < (sb u).length := by have := HUL.out; omega
        have uat := at0_sb u k hlt
        have HAu := Lib.hid uat; clear uat
        by_cases h64 : at0 (sb u) k = 64
        rotate_left
        · have ub : (((u[k]'hlt).toNat : Int) == 64) = false := by rw [← HAu.out, beq_eq_false_iff_ne]; exact h64
          have H64 := Lib.hid h64; clear h64
          go_wp2
          refine ⟨⟨k + 1, by omega, by go_num, ?_⟩, by simp [intOf]; omega⟩
          rw [List.take_add_one, List.getElem?_eq_getElem hlk, List.all_append, H.out, Option.toList_some, ← at0_lt hlk]
          simp [H64.out]
        have ub : (((u[k]'hlt).toNat : Int) == 64) = true := by rw [← HAu.out, h64]; rfl
        have hatI : atI (sb u) = k := atI_at hlk H.out h64
        have hmail : mailB (trimI (sb s)) = (decide (u.size ≤ 254) && (localL ((sb u).take k) && (hostL ((sb u).drop (k + 1)) && ((sb u).drop (k + 1)).contains 46))) := by
          rw [HUS.out, mailB, hatI, decide_eq_true hlk, HUL.out]; rfl
        have hxa := sb_extract u 0 k
        rw [List.drop_zero] at hxa
        have hxb := sb_tail u (k + 1)
        rw [← hxa, ← hxb] at hmail
        have hk1 : (k : Int) + 1 ≤ u.size := by omega
        have hk4 : (k : Int) ≤ u.size := by omega
        have hsa : (u.extract 0 k).size ≤ maxLen := by rw [ByteArray.size_extract]; unfold maxLen; omega
        have hsb : (u.extract (k + 1) u.size).size ≤ maxLen := by rw [ByteArray.size_extract]; unfold maxLen; omega
        clear h64 hatI hxa hxb
        cases hL : localL (sb (u.extract 0 k))
        · have HM := Lib.hid (show mailB (trimI (sb s)) = false by rw [hmail, hL]; simp)
          have C1 := ref_local_is (u.extract 0 k) false w hsa hL
          clear hmail hL
          go_wp2_with fail
          refine C1.mono ?_
          rintro e w' ⟨rfl, rfl⟩
          go_wp2
          go_ret2
          exact .inr ⟨HM.out, rfl, Below.refl _ _⟩
        have C1 := ref_local_is (u.extract 0 k) true w hsa hL
        cases hH : hostL (sb (u.extract (k + 1) u.size))
        · have HM := Lib.hid (show mailB (trimI (sb s)) = false by rw [hmail, hH]; simp)
          have C2 := ref_host_is (u.extract (k + 1) u.size) false w hsb hH
          clear hmail hL hH
          go_wp2_with fail
          refine C1.mono ?_
          rintro e w' ⟨rfl, rfl⟩
          go_wp2_with fail
          refine C2.mono ?_
          rintro e w' ⟨rfl, rfl⟩
          go_wp2
          go_ret2
          exact .inr ⟨HM.out, rfl, Below.refl _ _⟩
        have C2 := ref_host_is (u.extract (k + 1) u.size) true w hsb hH
        cases hP : (sb (u.extract (k + 1) u.size)).contains 46
        · have HM := Lib.hid (show mailB (trimI (sb s)) = false by rw [hmail, hP]; simp)
          have C3 := ref_has_is (u.extract (k + 1) u.size) 46 false w hsb hP
          clear hmail hL hH hP
          go_wp2_with fail
          refine C1.mono ?_
          rintro e w' ⟨rfl, rfl⟩
          go_wp2_with fail
          refine C2.mono ?_
          rintro e w' ⟨rfl, rfl⟩
          go_wp2_with fail
          refine C3.mono ?_
          rintro e w' ⟨rfl, rfl⟩
          go_wp2
          go_ret2
          exact .inr ⟨HM.out, rfl, Below.refl _ _⟩
        have C3 := ref_has_is (u.extract (k + 1) u.size) 46 true w hsb hP
        by_cases h254 : u.size ≤ 254
        rotate_left
        · have HM := Lib.hid (show mailB (trimI (sb s)) = false by rw [hmail, decide_eq_false h254]; rfl)
          have h254i : (254 : Int) < u.size := by omega
          clear hmail hL hH hP
          go_wp2_with fail
          refine C1.mono ?_
          rintro e w' ⟨rfl, rfl⟩
          go_wp2_with fail
          refine C2.mono ?_
          rintro e w' ⟨rfl, rfl⟩
          go_wp2_with fail
          refine C3.mono ?_
          rintro e w' ⟨rfl, rfl⟩
          go_wp2
          go_ret2
          exact .inr ⟨HM.out, rfl, Below.refl _ _⟩
        have HM := Lib.hid (show mailB (trimI (sb s)) = true by rw [hmail, decide_eq_true h254, hL, hH, hP]; rfl)
        have h254i : (u.size : Int) ≤ 254 := by omega
        have HE := Lib.hid (show u = trB s from sb_inj (by rw [sb_trB]; exact HUS.out.symm))
        have C4 := ref_lower_any u w (by unfold maxLen; omega)
        clear hmail hL hH hP
        go_wp2_with fail
        refine C1.mono ?_
        rintro e w' ⟨rfl, rfl⟩
        go_wp2_with fail
        refine C2.mono ?_
        rintro e w' ⟨rfl, rfl⟩
        go_wp2_with fail
        refine C3.mono ?_
        rintro e w' ⟨rfl, rfl⟩
        go_wp2_with fail
        refine C4.mono ?_
        rintro e w9 ⟨rfl, hb9⟩
        go_wp2
        go_ret2
        refine .inl ⟨HM.out, ?_, hb9⟩
        rw [← HE.out]; rfl
set_option maxHeartbeats 1000000 in
theorem law_emails (s : ByteArray) (w : World) (hm : MaxC w) (hs : s.size ≤ maxLen) :
    Calls Tryd.prog 6 #[.string s] w fun e w' => e = .returned (.bool true) ∧ Below w.heap.size w w' := by
  by_cases h2 : 2000 < s.size
  · unfold maxLen at hs
    go_enter Tryd.func6, Tryd.ntmps6
    go_wp2_with fail
    refine (alive06 w hm).mono ?_
    rintro e w1 ⟨rfl, hb1⟩
    go_wp2
    go_ret
    exact ⟨rfl, hb1⟩
  have hs2 : s.size ≤ 2000 := by omega
  have hs' : s.size ≤ 1000000 := by omega
  clear hs h2
  cases hmb : mailB (trimI (sb s))
  · have P1 := fun w' (hm : MaxC w') => email_no s w' hm hs' hmb
    have P2 : ∀ w', Calls Tryd.prog 25 #[.string s] w' fun e w'' => e = .returned (.tuple #[.string ⟨#[]⟩, .int .i64 2]) ∧ Below w'.heap.size w' w'' := fun w' => (ref_email_any s w' hs').mono fun e w'' h => by
      rcases h with ⟨h, _⟩ | ⟨_, h⟩
      · rw [hmb] at h; cases h
      · exact h
    clear hmb
    go_enter Tryd.func6, Tryd.ntmps6
    go_wp2_with fail
    refine (alive06 w hm).mono ?_
    rintro e w1 ⟨rfl, hb1⟩
    go_wp2_with fail
    refine (P1 _ (hm.below hb1)).mono ?_
    rintro e w2 ⟨rfl, hb2⟩
    go_wp2_with fail
    refine (P2 _).mono ?_
    rintro e w3 ⟨rfl, hb3⟩
    go_wp2
    go_ret
    exact ⟨rfl, below_then (below_then hb1 hb2) hb3⟩
  · have P1 := fun w' (hm : MaxC w') => email_yes s w' hm hs' hmb
    have P2 : ∀ w', Calls Tryd.prog 25 #[.string s] w' fun e w'' => e = .returned (.tuple #[.string (lowS (trB s)), .int .i64 0]) ∧ Below w'.heap.size w' w'' := fun w' => (ref_email_any s w' hs').mono fun e w'' h => by
      rcases h with ⟨_, h⟩ | ⟨h, _⟩
      · exact h
      · rw [hmb] at h; cases h
    generalize lowS (trB s) = F at *
    have hF := str_eq_yes (rfl : F = F)
    clear hmb
    go_enter Tryd.func6, Tryd.ntmps6
    go_wp2_with fail
    refine (alive06 w hm).mono ?_
    rintro e w1 ⟨rfl, hb1⟩
    go_wp2_with fail
    refine (P1 _ (hm.below hb1)).mono ?_
    rintro e w2 ⟨rfl, hb2⟩
    go_wp2_with fail
    refine (P2 _).mono ?_
    rintro e w3 ⟨rfl, hb3⟩
    go_wp2
    go_ret
    exact ⟨rfl, below_then (below_then hb1 hb2) hb3⟩
end Go.Proofs.YtibkkdbjmcongaaDoor
