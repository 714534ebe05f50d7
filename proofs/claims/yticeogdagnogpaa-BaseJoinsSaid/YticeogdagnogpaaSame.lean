/- What the reference's Same, SameRunes and Copy do: two slices are the same just if they hold the same numbers; a copy is one's own. -/
import Derived.Test.YticeogdagnogpaaLaws
namespace Go.Proofs.Yticeogdagnogpaa
open Go.RowKit
set_option linter.unusedVariables false

theorem info_i32 : (Try.prog.info? 21).map (fun i => (i.zero, i.size, i.bytes)) = some (some (.int .i32 0), 1, 4) := by kernel_rfl
theorem info_u8 : (Try.prog.info? 5).map (fun i => (i.zero, i.size, i.bytes)) = some (some (.int .u8 0), 1, 1) := by kernel_rfl

set_option maxHeartbeats 400000 in
theorem same_any (v1 v2 : Value) (la lb : List Int) (w : World) (h1 : RdI .u8 w v1 la) (h2 : RdI .u8 w v2 lb) :
    Calls Try.prog 22 #[v1, v2] w fun e w' => e = .returned (.bool (decide (la = lb))) ∧ Below w.heap.size w w' := by
  obtain ⟨a, ca, rfl, hla, hma, ha, -⟩ := h1
  obtain ⟨b, cb, rfl, hlb, hmb, hb, -⟩ := h2
  unfold maxLen at hma hmb
  by_cases hnm : la.length = lb.length
  · have hx : ((la.length : Int) != (lb.length : Int)) = false := by simp; omega
    go_enter Try.func22, Try.ntmps22
    go_wp2
    go_loopw [5] (fun i wr => ∃ k : Nat, k ≤ la.length ∧ i = .int .i64 k ∧ (∀ j, j < k → at0 la j = at0 lb j) ∧ ∃ q, wr = w.drewN q) (fun i _ => la.length - (intOf i).toNat)
    case atStart => exact ⟨0, Nat.zero_le _, rfl, fun j h => by omega, 0, rfl⟩
    case round =>
      obtain ⟨k, hk, rfl, hall, q, rfl⟩ := hrel
      have H := Lib.hid hall; clear hall
      have Hnm := Lib.hid hnm; clear hnm
      by_cases hlt : k < la.length
      · obtain ⟨xa, oa, rfl, hca⟩ := ha k hlt
        have hlt2 : k < lb.length := by have := Hnm.out; omega
        obtain ⟨xb, ob, rfl, hcb⟩ := hb k hlt2
        clear ha hb
        go_wp2
        go_quiet (fail)
        go_wp2
        · rename_i h
          go_ret
          refine ⟨?_, by rw [World.drewN_drewN]; exact below_drewN (Below.refl _ _) _⟩
          have : ¬ la = lb := fun e => by subst e; simp at h
          simp [this]
        · rename_i h
          go_roundw
          case rel =>
            refine ⟨k + 1, by omega, by go_num, ?_, _, rfl⟩
            intro j hj
            by_cases e : j = k
            · subst e; simpa using h
            · exact H.out j (by omega)
          case measure => simp [intOf]; omega
      · have hlt2 : ¬ k < lb.length := by have := Hnm.out; omega
        go_wp2
        go_ret
        have : la = lb := eq_of_all Hnm.out (fun j hj => H.out j (by omega))
        exact ⟨by simp [this], below_drewN (Below.refl _ _) _⟩
  · have hx2 : ((la.length : Int) != (lb.length : Int)) = true := by simp; omega
    go_enter Try.func22, Try.ntmps22
    go_wp2
    go_ret
    refine ⟨?_, Below.refl _ _⟩
    have : ¬ la = lb := fun h => hnm (by rw [h])
    simp [this]
set_option maxHeartbeats 400000 in
theorem sameRunes_any (v1 v2 : Value) (la lb : List Int) (w : World) (h1 : RdI .i32 w v1 la) (h2 : RdI .i32 w v2 lb) :
    Calls Try.prog 20 #[v1, v2] w fun e w' => e = .returned (.bool (decide (la = lb))) ∧ Below w.heap.size w w' := by
  obtain ⟨a, ca, rfl, hla, hma, ha, -⟩ := h1
  obtain ⟨b, cb, rfl, hlb, hmb, hb, -⟩ := h2
  unfold maxLen at hma hmb
  by_cases hnm : la.length = lb.length
  · have hx : ((la.length : Int) != (lb.length : Int)) = false := by simp; omega
    go_enter Try.func20, Try.ntmps20
    go_wp2
    go_loopw [5] (fun i wr => ∃ k : Nat, k ≤ la.length ∧ i = .int .i64 k ∧ (∀ j, j < k → at0 la j = at0 lb j) ∧ ∃ q, wr = w.drewN q) (fun i _ => la.length - (intOf i).toNat)
    case atStart => exact ⟨0, Nat.zero_le _, rfl, fun j h => by omega, 0, rfl⟩
    case round =>
      obtain ⟨k, hk, rfl, hall, q, rfl⟩ := hrel
      have H := Lib.hid hall; clear hall
      have Hnm := Lib.hid hnm; clear hnm
      by_cases hlt : k < la.length
      · obtain ⟨xa, oa, rfl, hca⟩ := ha k hlt
        have hlt2 : k < lb.length := by have := Hnm.out; omega
        obtain ⟨xb, ob, rfl, hcb⟩ := hb k hlt2
        clear ha hb
        go_wp2
        go_quiet (fail)
        go_wp2
        · rename_i h
          go_ret
          refine ⟨?_, by rw [World.drewN_drewN]; exact below_drewN (Below.refl _ _) _⟩
          have : ¬ la = lb := fun e => by subst e; simp at h
          simp [this]
        · rename_i h
          go_roundw
          case rel =>
            refine ⟨k + 1, by omega, by go_num, ?_, _, rfl⟩
            intro j hj
            by_cases e : j = k
            · subst e; simpa using h
            · exact H.out j (by omega)
          case measure => simp [intOf]; omega
      · have hlt2 : ¬ k < lb.length := by have := Hnm.out; omega
        go_wp2
        go_ret
        have : la = lb := eq_of_all Hnm.out (fun j hj => H.out j (by omega))
        exact ⟨by simp [this], below_drewN (Below.refl _ _) _⟩
  · have hx2 : ((la.length : Int) != (lb.length : Int)) = true := by simp; omega
    go_enter Try.func20, Try.ntmps20
    go_wp2
    go_ret
    refine ⟨?_, Below.refl _ _⟩
    have : ¬ la = lb := fun h => hnm (by rw [h])
    simp [this]

set_option maxHeartbeats 400000 in
theorem copy_any (v : Value) (l : List Int) (w : World) (h : RdI .u8 w v l) (hlen : l.length ≤ 1000000) :
    Calls Try.prog 14 #[v] w fun e w' => ∃ v', e = .returned v' ∧ w'.ownsRow w.heap.size 5 1 v' l.length (l.map (Value.int .u8)) ∧ Below w.heap.size w w' := by
  obtain ⟨j0, hj, hy0, hy1, hy2⟩ := info_parts info_u8
  have hrd := h.below ((Below.refl _ _).alloc (Nat.le_refl _) (.cells #[] 5))
  obtain ⟨a, ca, rfl, hla, hma, ha, hn⟩ := hrd
  have hr := reads_rd ha
  clear ha h
  have HN := Lib.hid hn; clear hn
  go_enter Try.func14, Try.ntmps14
  go_wp2_with (at_builtin; refine wpList_append_rd rfl _ _ 22 rfl w.heap.size 5 j0 (.int .u8 0) 1 Try.underlying22 hj hy0 hy1 hy2 rfl _ _ _ rfl (World.ownsRow_made w #[] 0 (Nat.le_refl _) (Nat.zero_le _) rfl) _ _ _ _ rfl hr (by simp [Value.oneCell']) (by unfold maxLen; omega) (by omega) (by simp) HN.out ?_; intro v2 w2 hown2 hgr hb2)
  go_ret
  exact ⟨_, rfl, by simpa using hown2, ((Below.refl _ _).alloc (Nat.le_refl _) _).trans hb2⟩
end Go.Proofs.Yticeogdagnogpaa
