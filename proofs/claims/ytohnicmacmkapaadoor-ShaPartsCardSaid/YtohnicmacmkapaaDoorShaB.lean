/- The rounds of sha: begin. -/
import Derived.Test.YtohnicmacmkapaaDoorShaA
import Derived.Deep.QuietTactic
import Derived.BigQuiet
import Derived.RegionTactic
import Derived.Deep.RegionWith
import Derived.Deep.RegionHeld3
namespace Go.Proofs.YtohnicmacmkapaaDoor
open Go.RowKit
set_option linter.unusedVariables false
set_option maxRecDepth 8000

def squaresL : List Int := [7640891576956012808, 13503953896175478587, 4354685564936845355, 11912009170470909681, 5840696475078001361, 11170449401992604703, 2270897969802886507, 6620516959819538809]
def cubesL : List Int := [4794697086780616226, 8158064640168781261, 13096744586834688815, 16840607885511220156, 4131703408338449720, 6480981068601479193, 10538285296894168987, 12329834152419229976, 15566598209576043074, 1334009975649890238, 2608012711638119052, 6128411473006802146, 8268148722764581231, 9286055187155687089, 11230858885718282805, 13951009754708518548, 16472876342353939154, 17275323862435702243, 1135362057144423861, 2597628984639134821, 3308224258029322869, 5365058923640841347, 6679025012923562964, 8573033837759648693, 10970295158949994411, 12119686244451234320, 12683024718118986047, 13788192230050041572, 14330467153632333762, 15395433587784984357, 489312712824947311, 1452737877330783856, 2861767655752347644, 3322285676063803686, 5560940570517711597, 5996557281743188959, 7280758554555802590, 8532644243296465576, 9350256976987008742, 10552545826968843579, 11727347734174303076, 12113106623233404929, 14000437183269869457, 14369950271660146224, 15101387698204529176, 15463397548674623760, 17586052441742319658, 1182934255886127544, 1847814050463011016, 2177327727835720531, 2830643537854262169, 3796741975233480872, 4115178125766777443, 5681478168544905931, 6601373596472566643, 7507060721942968483, 8399075790359081724, 8693463985226723168, 9568029438360202098, 10144078919501101548, 10430055236837252648, 11840083180663258601, 13761210420658862357, 14299343276471374635, 14566680578165727644, 15097957966210449927, 16922976911328602910, 17689382322260857208, 500013540394364858, 748580250866718886, 1242879168328830382, 1977374033974150939, 2944078676154940804, 3659926193048069267, 4368137639120453308, 4836135668995329356, 5532061633213252278, 6448918945643986474, 6902733635092675308, 7801388544844847127]
/-- What the tables of sha hold. -/
structure TabS (w : World) : Prop where
  sq : ∀ k, k < 8 → w.cell? ⟨0, k, none⟩ = some (.int .u64 (at0 squaresL k))
  cu : ∀ k, k < 80 → w.cell? ⟨3, k, none⟩ = some (.int .u64 (at0 cubesL k))
theorem TabS.lt {w : World} (h : TabS w) : 0 < w.heap.size ∧ 3 < w.heap.size := ⟨World.block_lt_of_cell? w _ (h.sq 0 (by decide)), World.block_lt_of_cell? w _ (h.cu 0 (by decide))⟩
theorem TabS.but {w w' : World} (h : TabS w) {B : Nat} (hb : w.grownBy w' (some B)) (hs : 0 ≠ B) (hc : 3 ≠ B) : TabS w' :=
  ⟨fun k hk => hb.cell (h.sq k hk) (by simpa using hs), fun k hk => hb.cell (h.cu k hk) (by simpa using hc)⟩
theorem TabS.below {w w' : World} (h : TabS w) (hb : Below w.heap.size w w') : TabS w' :=
  ⟨fun k hk => by rw [hb.cell h.lt.1]; exact h.sq k hk, fun k hk => by rw [hb.cell h.lt.2]; exact h.cu k hk⟩
theorem squares_in : ∀ k, k < 8 → In64 (at0 squaresL k) := by unfold In64; decide
theorem cubes_in : ∀ k, k < 80 → In64 (at0 cubesL k) := by unfold In64; decide
theorem grown_set {w w' : World} {B : Nat} (h : w.grownBy w' (some B)) (o : Nat) (v : Value) : w.grownBy (w'.setCell ⟨B, o, none⟩ v) (some B) := by
  refine ⟨h.os, h.tape, h.output, ?_, fun k hk hne => ?_⟩
  · have := h.size
    simpa [World.setCell] using this
  · rw [heap_setCell_other w' ⟨B, o, none⟩ k v (by simpa using hne)]
    exact h.block k hk hne
theorem grown_drew {w w' : World} {row : Option Nat} (h : w.grownBy w' row) : w.grownBy w'.drew row := ⟨h.os, h.tape, h.output, h.size, h.block⟩
def begin64 : List Int := (List.range 8).map fun k => at0 squaresL k
theorem begin64_at (k : Nat) (hk : k < 8) : at0 begin64 k = at0 squaresL k := by simp [begin64, at0, hk]
theorem begin64_v (w : World) (B : Nat) (st : List Int) (hr : RS64 w B st) (hT : TabS w) (hs : 0 ≠ B) (hc : 3 ≠ B) :
    Calls Tryd.prog 32 #[.pointer (some ⟨B, 0, none⟩)] w fun e w' => (∃ v, e = .returned v) ∧ RS64 w' B begin64 ∧ w.grownBy w' (some B) := by
  go_enter Tryd.func32, Tryd.ntmps32
  go_wp2
  go_loopw [3] (fun i wr => ∃ (k : Nat) (st : List Int), k ≤ 8 ∧ i = .int .i64 k ∧ RS64 wr B st ∧ w.grownBy wr (some B) ∧ ∀ k', k' < k → at0 st k' = at0 begin64 k') (fun i _ => 8 - (intOf i).toNat)
  case atStart => exact ⟨0, st, by omega, rfl, hr, World.grownBy.refl _ _, fun k' h => by omega⟩
  case round =>
    obtain ⟨k, st, hk, rfl, hr, hg, hst⟩ := hrel
    have hT' : TabS wr := hT.but hg hs hc
    have hl := hr.lt
    by_cases hlt : k < 8
    · have c0 := hT'.sq k hlt
      obtain ⟨c1, f1⟩ := hr.stAt hlt
      have hin := squares_in k hlt
      have hcut := fun W (h : RS64 W B st) => cut64_v (at0 squaresL k) W B st h hin
      go_wp2
      go_region_with (go_at_call 42; refine (hcut _ (by first | exact hr | exact hr.drew)).mono ?_; rintro e w9 ⟨rfl, rfl⟩)
      go_wp2
      refine ⟨⟨k + 1, st.set k (at0 begin64 k), by omega, by go_num, ?_, ?_, fun k' hk' => ?_⟩, by simp only [intOf]; omega⟩
      · have h := hr.set (j := k) hlt (x := at0 squaresL k) (by unfold In64 at hin; unfold In64; omega)
        rw [begin64_at k hlt]
        exact h
      · exact grown_drew (grown_set hg _ _)
      · rw [at0_set st k k' _ (by rw [hr.1]; exact hlt)]
        by_cases e : k' = k
        · rw [if_pos e, e]
        · rw [if_neg e]; exact hst k' (by omega)
    · obtain rfl : k = 8 := by omega
      have e : st = begin64 := eq_of_all (by rw [hr.1]; rfl) fun j h => hst j (by rw [hr.1] at h; exact h)
      subst e
      go_wp2
      refine bodyPost_end (v := .tuple #[]) (by simp [results, Tryd.results32]) rfl ?_
      exact ⟨⟨_, rfl⟩, hr, hg⟩
def begin32 : List Int := (List.range 8).map fun k => at0 squaresL k / 4294967296
theorem begin32_at (k : Nat) (hk : k < 8) : at0 begin32 k = at0 squaresL k / 4294967296 := by simp [begin32, at0, hk]
theorem begin32_v (w : World) (B : Nat) (st : List Int) (hr : RS32 w B st) (hT : TabS w) (hs : 0 ≠ B) (hc : 3 ≠ B) :
    Calls Tryd.prog 23 #[.pointer (some ⟨B, 0, none⟩)] w fun e w' => (∃ v, e = .returned v) ∧ RS32 w' B begin32 ∧ w.grownBy w' (some B) := by
  go_enter Tryd.func23, Tryd.ntmps23
  go_wp2
  go_loopw [3] (fun i wr => ∃ (k : Nat) (st : List Int), k ≤ 8 ∧ i = .int .i64 k ∧ RS32 wr B st ∧ w.grownBy wr (some B) ∧ ∀ k', k' < k → at0 st k' = at0 begin32 k') (fun i _ => 8 - (intOf i).toNat)
  case atStart => exact ⟨0, st, by omega, rfl, hr, World.grownBy.refl _ _, fun k' h => by omega⟩
  case round =>
    obtain ⟨k, st, hk, rfl, hr, hg, hst⟩ := hrel
    have hT' : TabS wr := hT.but hg hs hc
    have hl := hr.lt
    by_cases hlt : k < 8
    · have c0 := hT'.sq k hlt
      obtain ⟨c1, f1⟩ := hr.stAt hlt
      have hin := squares_in k hlt
      have hcut := fun W (h : RS32 W B st) => cut32_v (at0 squaresL k) W B st h hin
      go_wp2
      go_region_with (go_at_call 37; refine (hcut _ (by first | exact hr | exact hr.drew)).mono ?_; rintro e w9 ⟨rfl, rfl⟩)
      go_wp2
      refine ⟨⟨k + 1, st.set k (at0 begin32 k), by omega, by go_num, ?_, ?_, fun k' hk' => ?_⟩, by simp only [intOf]; omega⟩
      · have h := hr.set (j := k) hlt (x := at0 squaresL k / 4294967296) (by unfold In64 at hin; unfold In32; omega)
        rw [begin32_at k hlt]
        exact h
      · exact grown_drew (grown_set hg _ _)
      · rw [at0_set st k k' _ (by rw [hr.1]; exact hlt)]
        by_cases e : k' = k
        · rw [if_pos e, e]
        · rw [if_neg e]; exact hst k' (by omega)
    · obtain rfl : k = 8 := by omega
      have e : st = begin32 := eq_of_all (by rw [hr.1]; rfl) fun j h => hst j (by rw [hr.1] at h; exact h)
      subst e
      go_wp2
      refine bodyPost_end (v := .tuple #[]) (by simp [results, Tryd.results23]) rfl ?_
      exact ⟨⟨_, rfl⟩, hr, hg⟩
end Go.Proofs.YtohnicmacmkapaaDoor
