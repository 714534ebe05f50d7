/- Disks, as arguments. -/
import Derived.Test.YthefddclefimoaaDskA
import Derived.Test.YthefddclefimoaaOpen
namespace Go.Proofs.Ythefddclefimoaa
open Go.ChangeShapes Go.WideShapes Go.ChangeAt Go.RowKit
set_option linter.unusedVariables false

theorem own : ownKnob Try.prog.godebug = none := by kernel_rfl
theorem laidOut : laidOutB Try.prog = true := by kernel_rfl
theorem two_of {z : List Int} (h : z.length = 2) : ∃ a b, z = [a, b] := by
  match z, h with
  | [a, b], _ => exact ⟨a, b, rfl⟩
theorem encW_len' {p : Int × List Int} (h : p.2.length = 128) : (encW p).length = 129 := by simp [encW, encS, h]
theorem u8_of {zs : List Int} (h : ∀ n ∈ zs, (Lit.int .u8 n).wf = true) : Bytes zs := fun x hx => by
  have := h x hx
  simpa [Lit.wf, IntKind.min, IntKind.max, IntKind.signed, IntKind.bits] using this
theorem i64_of {n : Int} (h : (Lit.int .i64 n).wf = true) : -9223372036854775808 ≤ n ∧ n ≤ 9223372036854775807 := by
  simpa [Lit.wf, IntKind.min, IntKind.max, IntKind.signed, IntKind.bits] using h
theorem u8_one {n : Int} (h : (Lit.int .u8 n).wf = true) : 0 ≤ n ∧ n ≤ 255 := by
  simpa [Lit.wf, IntKind.min, IntKind.max, IntKind.signed, IntKind.bits] using h
theorem cS : Try.prog.cellsOf 27 = 128 := by kernel_rfl
theorem cW : Try.prog.cellsOf 59 = 129 := by kernel_rfl
theorem cD : Try.prog.cellsOf 25 = 4 := by kernel_rfl
theorem cU : Try.prog.cellsOf 5 = 1 := by kernel_rfl
theorem cI : Try.prog.cellsOf 3 = 1 := by kernel_rfl
section
variable {H : Type} {enc : TypeId × Value → H} {W : World} {base : Nat} {sp : Nat → Bool} {held : Bool}
theorem el_S (n : Nat) (cs : List Value) (x : DataW H × List MemPlace) (h : DataW.trod enc Try.prog W base sp held n 27 cs = some x) : ∃ z : List Int, cs = encS z ∧ (z.length = 128 ∧ Bytes z) := by
  obtain ⟨zs, h1, h2, h3⟩ := trod_arr Try.underlying27 Try.underlying5 cU cS h
  exact ⟨zs, h1, h2, u8_of h3⟩
theorem el_W (n : Nat) (cs : List Value) (x : DataW H × List MemPlace) (h : DataW.trod enc Try.prog W base sp held n 59 cs = some x) : ∃ p : Int × List Int, cs = encW p ∧ (p.2.length = 128 ∧ Bytes p.2) := by
  obtain ⟨y0, y1, m, _, hl, h0, h1⟩ := trod_struct2 Try.underlying59 h
  obtain ⟨a, ha, _⟩ := DataW.trod_int Try.underlying3 h0
  obtain ⟨z, hz, hz2⟩ := el_S m _ _ h1
  rw [cW] at hl
  simp only [cI, cS] at ha hz
  refine ⟨(a, z), ?_, hz2⟩
  unfold encW
  rw [← hz]
  match cs, hl with
  | c :: cs, hl =>
    simp at ha
    simp only [List.length_cons] at hl
    simp only [List.drop_succ_cons, List.drop_zero]
    rw [List.take_of_length_le (by omega), ha]
theorem el_F (n : Nat) (cs : List Value) (x : DataW H × List MemPlace) (h : DataW.trod enc Try.prog W base sp held n 55 cs = some x) : ∃ p : Int × Int, cs = encF p ∧ (0 ≤ p.1 ∧ p.1 ≤ 255 ∧ 0 ≤ p.2 ∧ p.2 ≤ 255) := by
  obtain ⟨y0, y1, m, _, hl, h0, h1⟩ := trod_struct2 Try.underlying55 h
  obtain ⟨a, ha, _, wa⟩ := DataW.trod_int Try.underlying5 h0
  obtain ⟨b, hb, _, wb⟩ := DataW.trod_int Try.underlying5 h1
  have cF : Try.prog.cellsOf 55 = 2 := by kernel_rfl
  rw [cF] at hl
  simp only [cU] at ha hb
  match cs, hl with
  | [c, d], _ =>
    simp at ha hb
    exact ⟨(a, b), by simp [encF, ha, hb], (u8_one wa).1, (u8_one wa).2, (u8_one wb).1, (u8_one wb).2⟩
theorem open_disk {r : Reach} {b0 : Nat} {v : Value} {d : DataW H} {p : List MemPlace} (hv : Value.okWide Try.prog W r b0 25 v) (h : DataW.Trod enc Try.prog W base sp held 25 v d p) :
    ∃ (secs : List (List Int)) (loose : List (Int × List Int)) (fuse : Int) (down : Bool) (s1 s2 : Value), v = .agg #[s1, s2, .int .i64 fuse, .bool down] ∧ RdF 128 [] W s1 (secs.map encS) ∧ RdF 129 [] W s2 (loose.map encW) ∧ (-9223372036854775808 ≤ fuse ∧ fuse ≤ 9223372036854775807) ∧ (∀ z ∈ secs, z.length = 128 ∧ Bytes z) ∧ ∀ q ∈ loose, q.2.length = 128 ∧ Bytes q.2 := by
  obtain ⟨cs, rfl, hsz⟩ := okWide_struct Try.underlying25 hv
  obtain ⟨c0, c1, c2, c3, rfl⟩ := Joins.array4 (hsz.trans cD)
  obtain ⟨fuel, hf⟩ := h
  obtain ⟨y0, y1, y2, y3, n, hx, _, h0, h1, h2, h3⟩ := Joins.trod_struct4 Try.underlying25 hf
  have k0 : Try.prog.cellsOf 22 = 1 := by kernel_rfl
  have k1 : Try.prog.cellsOf 23 = 1 := by kernel_rfl
  have k3 : Try.prog.cellsOf 4 = 1 := by kernel_rfl
  simp only [k0, k1, cI, k3, Value.cells] at h0 h1 h2 h3
  obtain ⟨s1, secs, e0, r0, g0⟩ := rd_of_slice encS (fun z => z.length = 128 ∧ Bytes z) (by decide) Try.underlying22 cS (fun a ha => by rw [encS_len]; exact ha.1) el_S h0
  obtain ⟨s2, loose, e1, r1, g1⟩ := rd_of_slice encW (fun q => q.2.length = 128 ∧ Bytes q.2) (by decide) Try.underlying23 cW (fun a ha => encW_len' ha.1) el_W h1
  obtain ⟨fuse, e2, _, wf⟩ := DataW.trod_int Try.underlying3 h2
  obtain ⟨down, e3, _⟩ := DataW.trod_bool Try.underlying4 h3
  simp at e0 e1 e2 e3
  subst e0 e1 e2 e3
  exact ⟨secs, loose, fuse, down, _, _, rfl, r0, r1, i64_of wf, g0, g1⟩
theorem open_fates {r : Reach} {b0 : Nat} {v : Value} {d : DataW H} {p : List MemPlace} (hv : Value.okWide Try.prog W r b0 38 v) (h : DataW.Trod enc Try.prog W base sp held 38 v d p) : ∃ fs : List (Int × Int), RdF 2 [] W v (fs.map encF) ∧ ∀ f ∈ fs, 0 ≤ f.1 ∧ f.1 ≤ 255 ∧ 0 ≤ f.2 ∧ f.2 ≤ 255 := by
  obtain ⟨a, len, cap, rfl⟩ := okWide_slice Try.underlying38 hv
  obtain ⟨fuel, hf⟩ := h
  obtain ⟨v, fs, e, r, g⟩ := rd_of_slice (s := 2) encF (fun f => 0 ≤ f.1 ∧ f.1 ≤ 255 ∧ 0 ≤ f.2 ∧ f.2 ≤ 255) (by decide) Try.underlying38 (by kernel_rfl) (fun a _ => rfl) el_F hf
  simp [Value.cells] at e
  subst e
  exact ⟨fs, r, g⟩
end
end Go.Proofs.Ythefddclefimoaa
