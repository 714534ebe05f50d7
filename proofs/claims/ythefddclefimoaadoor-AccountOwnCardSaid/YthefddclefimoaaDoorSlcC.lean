/- slices.Clone on rows of cells, and Insert and Delete on what it leaves. -/
import Derived.Test.YthefddclefimoaaDoorUsrA
import Derived.Test.YthefddclefimoaaDoorNs
namespace Go.Proofs.YthefddclefimoaaDoor
open Go.RowKit
set_option linter.unusedVariables false
set_option linter.unusedSimpArgs false
set_option maxRecDepth 8000

set_option maxHeartbeats 1000000 in
theorem cloneNUser_v  (w : World) (L : List Nat) (hL : LL L w)  : CV Tryd.prog 26 [.slice none 0 0] w fun v W => v = .slice none 0 0 := by
  refine cv_enter (N := 8) (f := [(0, .slice none 0 0)]) Tryd.func26 rfl rfl rfl rfl fun Q hQ hE => ?_
  have hB := Below.refl w.heap.size w
  refine WC.seq fun K1 hK1 => ?_
  refine WC.region ?_
  refine WL.val (dx_assign rfl rfl) rfl rfl ?_
  refine WL.nil ?_
  refine hK1 ?_
  refine WC.seq fun K2 hK2 => ?_
  refine WC.seq fun K3 hK3 => ?_
  refine WC.region ?_
  refine WL.val (dx_move rfl rfl) rfl rfl ?_
  refine WL.val (dx_nilT rfl Tryd.underlying22 rfl) rfl rfl ?_
  refine WL.nil ?_
  refine hK3 ?_
  refine WC.condT rfl ?_
  refine WC.seq fun K4 hK4 => ?_
  refine WC.region ?_
  refine WL.val (dx_assign rfl rfl) rfl rfl ?_
  refine WL.nil ?_
  refine hK4 ?_
  refine WC.ret fun a_ ha_ => ?_
  exact hQ (cv_ret1 rfl (.tmp rfl) rfl hB ha_)

set_option maxHeartbeats 1000000 in
theorem cloneEUser_v (rs : List (List Value)) (sv : Value) (a : Addr) (n c : Nat) (w : World) (L : List Nat) (hL : LL L w) (h1 : RdF 3 L w sv rs)  (hs : sv = .slice (some a) n c) (hone : ∀ r ∈ rs, ∀ u ∈ r, u.oneCell' = true) (hsm : rs.length * 56 ≤ 140737488355328) : CV Tryd.prog 26 [sv] w fun v W => NewS 3 w.heap.size rs v W := by
  refine cv_enter (N := 8) (f := [(0, sv)]) Tryd.func26 rfl rfl rfl rfl fun Q hQ hE => ?_
  have hB := Below.refl w.heap.size w
  refine WC.seq fun K1 hK1 => ?_
  refine WC.region ?_
  refine WL.val (dx_assign rfl rfl) rfl rfl ?_
  refine WL.nil ?_
  refine hK1 ?_
  refine WC.seq fun K2 hK2 => ?_
  refine WC.seq fun K3 hK3 => ?_
  refine WC.region ?_
  refine WL.val (dx_move rfl rfl) rfl rfl ?_
  refine WL.val (dx_nilS rfl Tryd.underlying22 rfl hs) rfl rfl ?_
  refine WL.nil ?_
  refine hK3 ?_
  refine WC.condF rfl ?_
  refine WC.skip ?_
  refine hK2 ?_
  refine WC.seq fun K4 hK4 => ?_
  refine WC.region ?_
  refine WL.get (dx_lit0E rfl ty_ap_22 (by decide)) rfl rfl ?_
  rintro u5 W6 ⟨b7, e8⟩
  replace h1 := h1.below b7
  replace hB := below_then hB b7
  replace hL := LL.below hL b7
  refine WL.val (dx_move rfl rfl) rfl rfl ?_
  refine WL.get (dx_apN rfl ty_ap_22 rfl rfl e8 h1 hone (by unfold maxLen; omega) (by omega) hB.size) rfl rfl ?_
  rintro u9 W10 ⟨b11, e12⟩
  replace h1 := h1.below b11
  replace hB := below_then hB b11
  replace hL := LL.below hL b11
  refine WL.val (dx_assign rfl rfl) rfl rfl ?_
  refine WL.nil ?_
  refine hK4 ?_
  refine WC.ret fun a_ ha_ => ?_
  exact hQ (cv_ret1 rfl (.tmp rfl) e12 hB ha_)

theorem cloneSUser_v (rs : List (List Value)) (sv : Value) (w : World) (L : List Nat) (hL : LL L w) (h1 : RdF 3 L w sv rs) (hone : ∀ r ∈ rs, ∀ u ∈ r, u.oneCell' = true) (hsm : rs.length * 56 ≤ 140737488355328) : CV Tryd.prog 26 [sv] w fun v W => NewS 3 w.heap.size rs v W := by
  rcases h1.nil_or with ⟨rfl, rfl⟩ | ⟨a, n, c, hs⟩
  · exact (cloneNUser_v w L hL).mono fun v W _ h => .inl ⟨h, rfl, by decide⟩
  · exact cloneEUser_v rs sv a n c w L hL h1 hs hone hsm
/-- An insert of one behind a clone. -/
theorem insertSUser_v (rs : List (List Value)) (row : List Value) (i base : Nat) (j : Int) (u v : Value) (w : World) (hj : j = (i : Int)) (hu : NewS 3 base rs u w) (hv : NewS 3 base [row] v w) (hb : base ≤ w.heap.size) (hi : i ≤ rs.length) (hsm : (rs.length + 1) * 56 ≤ 140737488355328) (hone : ∀ r ∈ rs, ∀ u ∈ r, u.oneCell' = true) (hrow : ∀ u ∈ row, u.oneCell' = true) (hne : ∀ r ∈ rs, r ≠ row) :
    Calls Tryd.prog 34 [u, .int .i64 j, v].toArray w fun e w' => ∃ x, e = .returned x ∧ (∃ B, base ≤ B ∧ OwS 3 w' x (rs.take i ++ ([row] ++ rs.drop i)) B) ∧ Below base w w' := by
  subst hj
  have hrow' : ∀ r ∈ [row], ∀ u ∈ r, u.oneCell' = true := fun r hr => by rw [List.mem_singleton.1 hr]; exact hrow
  rcases hv with ⟨_, h, _⟩ | ⟨C, vp, hC, rfl, hV, _⟩
  · cases h
  rcases hu with ⟨rfl, rfl, _⟩ | ⟨B, sp, hB, rfl, hO, he⟩
  · have hi0 : i = 0 := by simpa using hi
    subst hi0
    refine Calls.mono (insertNUser_v [row] vp C w [] (LL.nil _) hV (by simp) (by simp)) fun e w' ⟨x, h1, ⟨B, h2, h3⟩, h4⟩ => ⟨x, h1, ⟨B, Nat.le_trans hb h2, by simpa using h3⟩, h4.mono hb⟩
  · have hCB : C ≠ B := rwb_ne hO hV he hne
    refine Calls.mono (insertUser_v rs sp [row] vp i B C w [] (fun x hx => by rw [List.mem_singleton.1 hx]; exact hO.lt) hO hV hCB hi (by simp) (by simpa using hsm) hone hrow') fun e w' ⟨x, h1, ⟨B', h2, h3⟩, h4⟩ => ⟨x, h1, ⟨B', ?_, h2⟩, h4.from_base hB hb⟩
    rcases h3 with rfl | h3
    · exact hB
    · exact Nat.le_trans hb h3
/-- A delete of one behind a clone. -/
theorem deleteSUser_v (rs : List (List Value)) (i base : Nat) (j j' : Int) (u : Value) (w : World) (hj : j = (i : Int)) (hj' : j' = (i : Int) + 1) (hu : NewS 3 base rs u w) (hb : base ≤ w.heap.size) (hi : i < rs.length) (hone : ∀ r ∈ rs, ∀ u ∈ r, u.oneCell' = true) :
    Calls Tryd.prog 27 [u, .int .i64 j, .int .i64 j'].toArray w fun e w' => ∃ x, e = .returned x ∧ (∃ B, base ≤ B ∧ OwS 3 w' x (rs.take i ++ rs.drop (i + 1)) B) ∧ Below base w w' := by
  subst hj hj'
  rcases hu with ⟨rfl, rfl, _⟩ | ⟨B, sp, hB, rfl, hO, he⟩
  · simp at hi
  · refine Calls.mono (deleteUser_v rs sp i (i + 1) B w [] (fun x hx => by rw [List.mem_singleton.1 hx]; exact hO.lt) hO (by omega) (by omega) hone) fun e w' ⟨x, h1, ⟨B', h2, h3⟩, h4⟩ => ⟨x, h1, ⟨B', ?_, h2⟩, h4.from_base hB hb⟩
    rcases h3 with rfl | h3
    · exact hB
    · exact Nat.le_trans hb h3
set_option maxHeartbeats 1000000 in
theorem cloneNBond_v  (w : World) (L : List Nat) (hL : LL L w)  : CV Tryd.prog 41 [.slice none 0 0] w fun v W => v = .slice none 0 0 := by
  refine cv_enter (N := 8) (f := [(0, .slice none 0 0)]) Tryd.func41 rfl rfl rfl rfl fun Q hQ hE => ?_
  have hB := Below.refl w.heap.size w
  refine WC.seq fun K1 hK1 => ?_
  refine WC.region ?_
  refine WL.val (dx_assign rfl rfl) rfl rfl ?_
  refine WL.nil ?_
  refine hK1 ?_
  refine WC.seq fun K2 hK2 => ?_
  refine WC.seq fun K3 hK3 => ?_
  refine WC.region ?_
  refine WL.val (dx_move rfl rfl) rfl rfl ?_
  refine WL.val (dx_nilT rfl Tryd.underlying38 rfl) rfl rfl ?_
  refine WL.nil ?_
  refine hK3 ?_
  refine WC.condT rfl ?_
  refine WC.seq fun K4 hK4 => ?_
  refine WC.region ?_
  refine WL.val (dx_assign rfl rfl) rfl rfl ?_
  refine WL.nil ?_
  refine hK4 ?_
  refine WC.ret fun a_ ha_ => ?_
  exact hQ (cv_ret1 rfl (.tmp rfl) rfl hB ha_)

set_option maxHeartbeats 1000000 in
theorem cloneEBond_v (rs : List (List Value)) (sv : Value) (a : Addr) (n c : Nat) (w : World) (L : List Nat) (hL : LL L w) (h1 : RdF 4 L w sv rs)  (hs : sv = .slice (some a) n c) (hone : ∀ r ∈ rs, ∀ u ∈ r, u.oneCell' = true) (hsm : rs.length * 56 ≤ 140737488355328) : CV Tryd.prog 41 [sv] w fun v W => NewS 4 w.heap.size rs v W := by
  refine cv_enter (N := 8) (f := [(0, sv)]) Tryd.func41 rfl rfl rfl rfl fun Q hQ hE => ?_
  have hB := Below.refl w.heap.size w
  refine WC.seq fun K1 hK1 => ?_
  refine WC.region ?_
  refine WL.val (dx_assign rfl rfl) rfl rfl ?_
  refine WL.nil ?_
  refine hK1 ?_
  refine WC.seq fun K2 hK2 => ?_
  refine WC.seq fun K3 hK3 => ?_
  refine WC.region ?_
  refine WL.val (dx_move rfl rfl) rfl rfl ?_
  refine WL.val (dx_nilS rfl Tryd.underlying38 rfl hs) rfl rfl ?_
  refine WL.nil ?_
  refine hK3 ?_
  refine WC.condF rfl ?_
  refine WC.skip ?_
  refine hK2 ?_
  refine WC.seq fun K4 hK4 => ?_
  refine WC.region ?_
  refine WL.get (dx_lit0E rfl ty_ap_38 (by decide)) rfl rfl ?_
  rintro u5 W6 ⟨b7, e8⟩
  replace h1 := h1.below b7
  replace hB := below_then hB b7
  replace hL := LL.below hL b7
  refine WL.val (dx_move rfl rfl) rfl rfl ?_
  refine WL.get (dx_apN rfl ty_ap_38 rfl rfl e8 h1 hone (by unfold maxLen; omega) (by omega) hB.size) rfl rfl ?_
  rintro u9 W10 ⟨b11, e12⟩
  replace h1 := h1.below b11
  replace hB := below_then hB b11
  replace hL := LL.below hL b11
  refine WL.val (dx_assign rfl rfl) rfl rfl ?_
  refine WL.nil ?_
  refine hK4 ?_
  refine WC.ret fun a_ ha_ => ?_
  exact hQ (cv_ret1 rfl (.tmp rfl) e12 hB ha_)

theorem cloneSBond_v (rs : List (List Value)) (sv : Value) (w : World) (L : List Nat) (hL : LL L w) (h1 : RdF 4 L w sv rs) (hone : ∀ r ∈ rs, ∀ u ∈ r, u.oneCell' = true) (hsm : rs.length * 56 ≤ 140737488355328) : CV Tryd.prog 41 [sv] w fun v W => NewS 4 w.heap.size rs v W := by
  rcases h1.nil_or with ⟨rfl, rfl⟩ | ⟨a, n, c, hs⟩
  · exact (cloneNBond_v w L hL).mono fun v W _ h => .inl ⟨h, rfl, by decide⟩
  · exact cloneEBond_v rs sv a n c w L hL h1 hs hone hsm
/-- An insert of one behind a clone. -/
theorem insertSBond_v (rs : List (List Value)) (row : List Value) (i base : Nat) (j : Int) (u v : Value) (w : World) (hj : j = (i : Int)) (hu : NewS 4 base rs u w) (hv : NewS 4 base [row] v w) (hb : base ≤ w.heap.size) (hi : i ≤ rs.length) (hsm : (rs.length + 1) * 56 ≤ 140737488355328) (hone : ∀ r ∈ rs, ∀ u ∈ r, u.oneCell' = true) (hrow : ∀ u ∈ row, u.oneCell' = true) (hne : ∀ r ∈ rs, r ≠ row) :
    Calls Tryd.prog 43 [u, .int .i64 j, v].toArray w fun e w' => ∃ x, e = .returned x ∧ (∃ B, base ≤ B ∧ OwS 4 w' x (rs.take i ++ ([row] ++ rs.drop i)) B) ∧ Below base w w' := by
  subst hj
  have hrow' : ∀ r ∈ [row], ∀ u ∈ r, u.oneCell' = true := fun r hr => by rw [List.mem_singleton.1 hr]; exact hrow
  rcases hv with ⟨_, h, _⟩ | ⟨C, vp, hC, rfl, hV, _⟩
  · cases h
  rcases hu with ⟨rfl, rfl, _⟩ | ⟨B, sp, hB, rfl, hO, he⟩
  · have hi0 : i = 0 := by simpa using hi
    subst hi0
    refine Calls.mono (insertNBond_v [row] vp C w [] (LL.nil _) hV (by simp) (by simp)) fun e w' ⟨x, h1, ⟨B, h2, h3⟩, h4⟩ => ⟨x, h1, ⟨B, Nat.le_trans hb h2, by simpa using h3⟩, h4.mono hb⟩
  · have hCB : C ≠ B := rwb_ne hO hV he hne
    refine Calls.mono (insertBond_v rs sp [row] vp i B C w [] (fun x hx => by rw [List.mem_singleton.1 hx]; exact hO.lt) hO hV hCB hi (by simp) (by simpa using hsm) hone hrow') fun e w' ⟨x, h1, ⟨B', h2, h3⟩, h4⟩ => ⟨x, h1, ⟨B', ?_, h2⟩, h4.from_base hB hb⟩
    rcases h3 with rfl | h3
    · exact hB
    · exact Nat.le_trans hb h3
/-- A delete of one behind a clone. -/
theorem deleteSBond_v (rs : List (List Value)) (i base : Nat) (j j' : Int) (u : Value) (w : World) (hj : j = (i : Int)) (hj' : j' = (i : Int) + 1) (hu : NewS 4 base rs u w) (hb : base ≤ w.heap.size) (hi : i < rs.length) (hone : ∀ r ∈ rs, ∀ u ∈ r, u.oneCell' = true) :
    Calls Tryd.prog 40 [u, .int .i64 j, .int .i64 j'].toArray w fun e w' => ∃ x, e = .returned x ∧ (∃ B, base ≤ B ∧ OwS 4 w' x (rs.take i ++ rs.drop (i + 1)) B) ∧ Below base w w' := by
  subst hj hj'
  rcases hu with ⟨rfl, rfl, _⟩ | ⟨B, sp, hB, rfl, hO, he⟩
  · simp at hi
  · refine Calls.mono (deleteBond_v rs sp i (i + 1) B w [] (fun x hx => by rw [List.mem_singleton.1 hx]; exact hO.lt) hO (by omega) (by omega) hone) fun e w' ⟨x, h1, ⟨B', h2, h3⟩, h4⟩ => ⟨x, h1, ⟨B', ?_, h2⟩, h4.from_base hB hb⟩
    rcases h3 with rfl | h3
    · exact hB
    · exact Nat.le_trans hb h3
end Go.Proofs.YthefddclefimoaaDoor
