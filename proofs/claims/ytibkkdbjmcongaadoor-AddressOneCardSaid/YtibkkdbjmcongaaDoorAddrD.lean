/- Layer 6 (address): the countries. -/
import Derived.Test.YtibkkdbjmcongaaDoorAddrC
import Derived.MapFrom
namespace Go.Proofs.YtibkkdbjmcongaaDoor
open Go.RowKit Go.MapKept
set_option linter.unusedVariables false

def gbB : ByteArray := ⟨#[71, 66]⟩
def usB : ByteArray := ⟨#[85, 83]⟩
def deB : ByteArray := ⟨#[68, 69]⟩
def frB : ByteArray := ⟨#[70, 82]⟩
def chB : ByteArray := ⟨#[67, 72]⟩
def noughtB : ByteArray := ⟨#[48]⟩
def landV (code trunk : ByteArray) : Value := .agg #[.string code, .string trunk]
def lands0 : Array MapEntry := #[]
def lands1 : Array MapEntry := lands0.push ⟨.string ⟨#[71, 66]⟩, landV ⟨#[52, 52]⟩ ⟨#[48]⟩, 0⟩
def lands2 : Array MapEntry := lands1.push ⟨.string ⟨#[85, 83]⟩, landV ⟨#[49]⟩ ⟨#[]⟩, 1⟩
def lands3 : Array MapEntry := lands2.push ⟨.string ⟨#[68, 69]⟩, landV ⟨#[52, 57]⟩ ⟨#[48]⟩, 2⟩
def lands4 : Array MapEntry := lands3.push ⟨.string ⟨#[70, 82]⟩, landV ⟨#[51, 51]⟩ ⟨#[48]⟩, 3⟩
def lands5 : Array MapEntry := lands4.push ⟨.string ⟨#[67, 72]⟩, landV ⟨#[52, 49]⟩ ⟨#[48]⟩, 4⟩
theorem upd_new (w : World) (es : Array MapEntry) (n : Nat) (k : ByteArray) (val : Value) (hf : Instr.findNow .string (.string k) es.toList 0 = some none) :
    (Instr.mapUpdate 63 (.map (some w.heap.size)) (.string k) val).run Tryd.prog (w.alloc (.map es n)) = .ok () (w.alloc (.map (es.push ⟨.string k, val, n⟩) (n + 1))) := by
  have hb : (w.alloc (.map es n)).heap[w.heap.size]? = some (.map es n) := heap_alloc_new w _
  have hk : IsKey .string (.string k) := trivial
  simp [Instr.mapUpdate, run_underlying Tryd.underlying63, MapKept.run_getObj_map hb, MapKept.run_checkKey Tryd.underlying9 hk, MapKept.run_findKey Tryd.underlying9 hf, MapKept.run_setObj_map _ hb, Result.andThen]
  have hp : ∀ (a : Array Obj) (x y : Obj), (a.push x).setIfInBounds a.size y = a.push y := fun a x y => by
    apply Array.ext
    · simp
    · intro i h1 h2
      simp only [Array.size_setIfInBounds, Array.size_push] at h1
      rw [Array.getElem_setIfInBounds (by simpa using h1), Array.getElem_push, Array.getElem_push]
      by_cases hi : a.size = i
      · subst hi; simp
      · simp [hi, show i < a.size by omega]
  unfold World.alloc
  simp only [hp]
set_option maxHeartbeats 1000000 in
theorem countries_any (w : World) :
    Calls Tryd.prog 60 #[] w fun e w' => e = .returned (.map (some w.heap.size)) ∧ w'.heap[w.heap.size]? = some (.map lands5 5) ∧ Below w.heap.size w w' := by
  have hmm := fun w => @run_makeMap Tryd.prog 63 w
  have h0 : ∀ w : World, w.alloc (.map #[] 0) = w.alloc (.map lands0 0) := fun w => rfl
  have u1 := upd_new w lands0 0 ⟨#[71, 66]⟩ (landV ⟨#[52, 52]⟩ ⟨#[48]⟩) (by kernel_rfl)
  have u2 := upd_new w lands1 1 ⟨#[85, 83]⟩ (landV ⟨#[49]⟩ ⟨#[]⟩) (by kernel_rfl)
  have u3 := upd_new w lands2 2 ⟨#[68, 69]⟩ (landV ⟨#[52, 57]⟩ ⟨#[48]⟩) (by kernel_rfl)
  have u4 := upd_new w lands3 3 ⟨#[70, 82]⟩ (landV ⟨#[51, 51]⟩ ⟨#[48]⟩) (by kernel_rfl)
  have u5 := upd_new w lands4 4 ⟨#[67, 72]⟩ (landV ⟨#[52, 49]⟩ ⟨#[48]⟩) (by kernel_rfl)
  rw [show lands0.push ⟨.string ⟨#[71, 66]⟩, landV ⟨#[52, 52]⟩ ⟨#[48]⟩, 0⟩ = lands1 from rfl] at u1
  rw [show lands1.push ⟨.string ⟨#[85, 83]⟩, landV ⟨#[49]⟩ ⟨#[]⟩, 1⟩ = lands2 from rfl] at u2
  rw [show lands2.push ⟨.string ⟨#[68, 69]⟩, landV ⟨#[52, 57]⟩ ⟨#[48]⟩, 2⟩ = lands3 from rfl] at u3
  rw [show lands3.push ⟨.string ⟨#[70, 82]⟩, landV ⟨#[51, 51]⟩ ⟨#[48]⟩, 3⟩ = lands4 from rfl] at u4
  rw [show lands4.push ⟨.string ⟨#[67, 72]⟩, landV ⟨#[52, 49]⟩ ⟨#[48]⟩, 4⟩ = lands5 from rfl] at u5
  simp only [landV, Nat.zero_add, Nat.reduceAdd] at u1 u2 u3 u4 u5
  simp only [h0] at hmm
  clear h0
  go_enter Tryd.func60, Tryd.ntmps60
  go_wp2
  go_ret
  exact ⟨rfl, heap_alloc_new w _, (Below.refl _ _).alloc (Nat.le_refl _) _⟩
theorem look_yes (w : World) (B : Nat) (hb : w.heap[B]? = some (.map lands5 5)) (k : ByteArray) (i : Nat) (v : Value) (hf : Instr.findNow .string (.string k) lands5.toList 0 = some (some (i, v))) :
    (Instr.lookup 63 (.map (some B)) (.string k) true).run Tryd.prog w = .ok (.tuple #[v, .bool true]) w := by
  have hk : IsKey .string (.string k) := trivial
  simp [Instr.lookup, run_underlying Tryd.underlying63, MapKept.run_getObj_map hb, MapKept.run_checkKey Tryd.underlying9 hk, MapKept.run_findKey Tryd.underlying9 hf, Result.andThen]
theorem zero_country (w : World) : (zeroValue 61).run Tryd.prog w = .ok (landV ⟨#[]⟩ ⟨#[]⟩) w := by kernel_rfl
theorem look_no (w : World) (B : Nat) (hb : w.heap[B]? = some (.map lands5 5)) (k : ByteArray) (hf : Instr.findNow .string (.string k) lands5.toList 0 = some none) :
    (Instr.lookup 63 (.map (some B)) (.string k) true).run Tryd.prog w = .ok (.tuple #[landV ⟨#[]⟩ ⟨#[]⟩, .bool false]) w := by
  have hk : IsKey .string (.string k) := trivial
  have hz := zero_country w
  simp [Instr.lookup, run_underlying Tryd.underlying63, MapKept.run_getObj_map hb, MapKept.run_checkKey Tryd.underlying9 hk, MapKept.run_findKey Tryd.underlying9 hf, hz, Result.andThen]
theorem find_none (k : ByteArray) (h1 : k ≠ gbB) (h2 : k ≠ usB) (h3 : k ≠ deB) (h4 : k ≠ frB) (h5 : k ≠ chB) : Instr.findNow .string (.string k) lands5.toList 0 = some none := by
  have e : lands5.toList = [⟨.string gbB, landV ⟨#[52, 52]⟩ ⟨#[48]⟩, 0⟩, ⟨.string usB, landV ⟨#[49]⟩ ⟨#[]⟩, 1⟩, ⟨.string deB, landV ⟨#[52, 57]⟩ ⟨#[48]⟩, 2⟩, ⟨.string frB, landV ⟨#[51, 51]⟩ ⟨#[48]⟩, 3⟩, ⟨.string chB, landV ⟨#[52, 49]⟩ ⟨#[48]⟩, 4⟩] := rfl
  have hks : ∀ x ∈ lands5.toList, IsKey .string x.key := by
    rw [e]
    intro x hx
    simp only [List.mem_cons, List.not_mem_nil, or_false] at hx
    rcases hx with rfl | rfl | rfl | rfl | rfl <;> trivial
  rcases findNow_spec (d := .string) (k := .string k) trivial lands5.toList 0 hks with ⟨h, _⟩ | ⟨j, e', _, hj, he⟩
  · exact h
  · exfalso
    have hm := List.mem_of_getElem? hj
    rw [e] at hm
    simp only [List.mem_cons, List.not_mem_nil, or_false] at hm
    rcases hm with rfl | rfl | rfl | rfl | rfl
    · exact h1 (Value.string.inj he).symm
    · exact h2 (Value.string.inj he).symm
    · exact h3 (Value.string.inj he).symm
    · exact h4 (Value.string.inj he).symm
    · exact h5 (Value.string.inj he).symm
end Go.Proofs.YtibkkdbjmcongaaDoor
