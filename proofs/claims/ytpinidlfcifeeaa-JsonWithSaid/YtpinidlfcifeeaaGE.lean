/- Trees in the reference. Trees in the reference: deep, Get, same, Weigh. A slice of two structures of five cells that is written out. No program stands -/
import Derived.Shelf.Small.Bits
import Derived.Shelf.Strconv.Itoa0
import Derived.Shelf.Sort.Plain
import Derived.Ground.Names2Prog
import Derived.Shelf.Slices.ReverseS
import Derived.Shelf.Slices.Clone
import Derived.Shelf.Slices.Cells
import Derived.Shelf.Slices.In.SortNone
import Derived.Ground.SlgnProg
import Derived.Shelf.SlicesE.Clone
import Derived.Test.YtpinidlfcifeeaaProg
import Derived.Test.YtpinidlfcifeeaaGD
namespace Go.Proofs.Ytpinidlfcifeeaa
open Go.RowKit
set_option linter.unusedVariables false
set_option linter.unusedSimpArgs false
set_option maxRecDepth 8000
set_option maxHeartbeats 2000000

def plainT (a b c d : Bool) (t : Tr) : Bool := (a || decide (t.num = 0)) && ((b || decide (t.text = ⟨#[]⟩)) && ((c || decide (t.names = [])) && (d || decide (t.items = []))))
theorem nil_of_z {α : Type} {l : List α} (h : (l.length : Int) = 0) : l = [] := List.length_eq_zero_iff.1 (by omega)
theorem ne_of_z {α : Type} {l : List α} (h : ¬ (l.length : Int) = 0) : l ≠ [] := fun e => by rw [e] at h; simp at h
set_option maxHeartbeats 1000000 in
theorem plainFFFF_v (n : Nat) (t : Tr) (w : World) (L : List Nat) (hL : LL L w) (ht : RdT (n + 1) L w t) : CV Try.prog 72 [.agg #[.int .i64 t.kind, .int .i64 t.num, .string t.text, t.nv, t.iv], .bool false, .bool false, .bool false, .bool false] w fun v W => v = .bool (plainT false false false false t) := by
 refine cv_enter (N := 43) (f := [(0, .agg #[.int .i64 t.kind, .int .i64 t.num, .string t.text, t.nv, t.iv]), (1, .bool false), (2, .bool false), (3, .bool false), (4, .bool false)]) Try.func72 rfl rfl rfl rfl fun Q hQ hE => ?_
 have hB := Below.refl w.heap.size w
 refine Sq fun K1 hK1 => ?_
 obtain ⟨hnt, hit, hct⟩ := ht
 replace hct : RdTs n (L) w t.items := hct
 refine Rg ?_
 refine Ge (dx_box rfl rfl rfl) rfl rfl ?_
 rintro _ W2 ⟨rfl, k3, b4, z5⟩
 have l6 := hB.size
 replace hnt := hnt.more b4 (Nat.le_refl _)
 replace hit := hit.more b4 (Nat.le_refl _)
 replace hB := below_then hB b4
 refine Pu rfl (Ni (hK1 (Sq fun K7 hK7 => (Rg (Pu rfl (Pu rfl (Va (dx_fld (o1 := 1) rfl ty_fld_26_1_1 rfl rfl) rfl rfl ?_)))))))
 refine Va (dx_load rfl ty_one_3 rfl (k3.cell (k := 1) rfl)) rfl rfl (Va (dx_eql rfl rfl rfl) rfl rfl (Pu rfl (Pu rfl ?_)))
 refine WL.split 17 rfl (fun g8 => ?_) (fun g8 => ?_)
 ·
  replace g8 := dT g8
  refine Pu rfl (Pu rfl (Va (dx_fld (o1 := 2) rfl ty_fld_26_2_2 rfl rfl) rfl rfl (Va (dx_load rfl ty_one_9 rfl (k3.cell (k := 2) rfl)) rfl rfl (Va (dx_eqlT rfl rfl rfl) rfl rfl (Pu rfl (Pu rfl (Pu rfl ?_)))))))
  refine WL.split 25 rfl (fun g9 => ?_) (fun g9 => ?_)
  ·
   replace g9 := dT g9
   refine Pu rfl (Pu rfl (Va (dx_fld (o1 := 3) rfl ty_fld_26_3_3 rfl rfl) rfl rfl (Va (dx_load rfl ty_one_23 rfl (k3.cell (k := 3) rfl)) rfl rfl (Va (dx_lenFM rfl ty_slice_23 rfl hnt) rfl rfl (Va (dx_eql rfl rfl rfl) rfl rfl (Pu rfl (Pu rfl ?_)))))))
   refine Pu rfl ?_
   refine WL.split 34 rfl (fun g10 => ?_) (fun g10 => ?_)
   ·
    replace g10 := dT g10
    refine Pu rfl (Pu rfl (Va (dx_fld (o1 := 4) rfl ty_fld_26_4_4 rfl rfl) rfl rfl (Va (dx_load rfl ty_one_24 rfl (k3.cell (k := 4) rfl)) rfl rfl (Va (dx_lenFM rfl ty_slice_24 rfl hit) rfl rfl (Va (dx_eql rfl rfl rfl) rfl rfl (Pu rfl (Pu rfl ?_)))))))
    refine Pu rfl (Ni (hK7 ?_))
    exact WC.ret fun a_ ha_ => hQ (cv_ret1 rfl (.tmp rfl) (by (try have q1 := nil_of_z ‹(t.names.length : Int) = 0›); (try have q2 := nil_of_z ‹(t.items.length : Int) = 0›); (try have q3 := ne_of_z ‹¬ (t.names.length : Int) = 0›); (try have q4 := ne_of_z ‹¬ (t.items.length : Int) = 0›); unfold plainT; simp [*]) hB ha_)
   ·
    replace g10 := dF g10
    refine Of rfl (Of rfl (Of rfl (Of rfl (Of rfl (Of rfl (Of rfl (Pu rfl ?_)))))))
    refine Pu rfl (Ni (hK7 ?_))
    exact WC.ret fun a_ ha_ => hQ (cv_ret1 rfl (.tmp rfl) (by (try have q1 := nil_of_z ‹(t.names.length : Int) = 0›); (try have q2 := nil_of_z ‹(t.items.length : Int) = 0›); (try have q3 := ne_of_z ‹¬ (t.names.length : Int) = 0›); (try have q4 := ne_of_z ‹¬ (t.items.length : Int) = 0›); unfold plainT; simp [*]) hB ha_)
  ·
   replace g9 := dF g9
   refine Of rfl (Of rfl (Of rfl (Of rfl (Of rfl (Of rfl (Of rfl (Pu rfl ?_)))))))
   refine Pu rfl (Of rfl (Of rfl (Of rfl (Of rfl (Of rfl (Of rfl (Of rfl ?_)))))))
   refine Pu rfl (Pu rfl (Ni (hK7 ?_)))
   exact WC.ret fun a_ ha_ => hQ (cv_ret1 rfl (.tmp rfl) (by (try have q1 := nil_of_z ‹(t.names.length : Int) = 0›); (try have q2 := nil_of_z ‹(t.items.length : Int) = 0›); (try have q3 := ne_of_z ‹¬ (t.names.length : Int) = 0›); (try have q4 := ne_of_z ‹¬ (t.items.length : Int) = 0›); unfold plainT; simp [*]) hB ha_)
 ·
  replace g8 := dF g8
  refine Of rfl (Of rfl (Of rfl (Of rfl (Of rfl (Of rfl (Pu rfl (Pu rfl ?_)))))))
  refine Of rfl (Of rfl (Of rfl (Of rfl (Of rfl (Of rfl (Of rfl (Pu rfl ?_)))))))
  refine Pu rfl (Of rfl (Of rfl (Of rfl (Of rfl (Of rfl (Of rfl (Of rfl ?_)))))))
  refine Pu rfl (Pu rfl (Ni (hK7 ?_)))
  exact WC.ret fun a_ ha_ => hQ (cv_ret1 rfl (.tmp rfl) (by (try have q1 := nil_of_z ‹(t.names.length : Int) = 0›); (try have q2 := nil_of_z ‹(t.items.length : Int) = 0›); (try have q3 := ne_of_z ‹¬ (t.names.length : Int) = 0›); (try have q4 := ne_of_z ‹¬ (t.items.length : Int) = 0›); unfold plainT; simp [*]) hB ha_)

set_option maxHeartbeats 1000000 in
theorem plainTFFF_v (n : Nat) (t : Tr) (w : World) (L : List Nat) (hL : LL L w) (ht : RdT (n + 1) L w t) : CV Try.prog 72 [.agg #[.int .i64 t.kind, .int .i64 t.num, .string t.text, t.nv, t.iv], .bool true, .bool false, .bool false, .bool false] w fun v W => v = .bool (plainT true false false false t) := by
 refine cv_enter (N := 43) (f := [(0, .agg #[.int .i64 t.kind, .int .i64 t.num, .string t.text, t.nv, t.iv]), (1, .bool true), (2, .bool false), (3, .bool false), (4, .bool false)]) Try.func72 rfl rfl rfl rfl fun Q hQ hE => ?_
 have hB := Below.refl w.heap.size w
 refine Sq fun K1 hK1 => ?_
 obtain ⟨hnt, hit, hct⟩ := ht
 replace hct : RdTs n (L) w t.items := hct
 refine Rg ?_
 refine Ge (dx_box rfl rfl rfl) rfl rfl ?_
 rintro _ W2 ⟨rfl, k3, b4, z5⟩
 have l6 := hB.size
 replace hnt := hnt.more b4 (Nat.le_refl _)
 replace hit := hit.more b4 (Nat.le_refl _)
 replace hB := below_then hB b4
 refine Pu rfl (Ni (hK1 (Sq fun K7 hK7 => (Rg (Pu rfl (Pu rfl (Of rfl ?_)))))))
 refine Of rfl (Of rfl (Pu rfl (Pu rfl (Pu rfl (Pu rfl (Va (dx_fld (o1 := 2) rfl ty_fld_26_2_2 rfl rfl) rfl rfl (Va (dx_load rfl ty_one_9 rfl (k3.cell (k := 2) rfl)) rfl rfl ?_)))))))
 refine Va (dx_eqlT rfl rfl rfl) rfl rfl (Pu rfl (Pu rfl (Pu rfl ?_)))
 refine WL.split 25 rfl (fun g8 => ?_) (fun g8 => ?_)
 ·
  replace g8 := dT g8
  refine Pu rfl (Pu rfl (Va (dx_fld (o1 := 3) rfl ty_fld_26_3_3 rfl rfl) rfl rfl (Va (dx_load rfl ty_one_23 rfl (k3.cell (k := 3) rfl)) rfl rfl (Va (dx_lenFM rfl ty_slice_23 rfl hnt) rfl rfl (Va (dx_eql rfl rfl rfl) rfl rfl (Pu rfl (Pu rfl ?_)))))))
  refine Pu rfl ?_
  refine WL.split 34 rfl (fun g9 => ?_) (fun g9 => ?_)
  ·
   replace g9 := dT g9
   refine Pu rfl (Pu rfl (Va (dx_fld (o1 := 4) rfl ty_fld_26_4_4 rfl rfl) rfl rfl (Va (dx_load rfl ty_one_24 rfl (k3.cell (k := 4) rfl)) rfl rfl (Va (dx_lenFM rfl ty_slice_24 rfl hit) rfl rfl (Va (dx_eql rfl rfl rfl) rfl rfl (Pu rfl (Pu rfl ?_)))))))
   refine Pu rfl (Ni (hK7 ?_))
   exact WC.ret fun a_ ha_ => hQ (cv_ret1 rfl (.tmp rfl) (by (try have q1 := nil_of_z ‹(t.names.length : Int) = 0›); (try have q2 := nil_of_z ‹(t.items.length : Int) = 0›); (try have q3 := ne_of_z ‹¬ (t.names.length : Int) = 0›); (try have q4 := ne_of_z ‹¬ (t.items.length : Int) = 0›); unfold plainT; simp [*]) hB ha_)
  ·
   replace g9 := dF g9
   refine Of rfl (Of rfl (Of rfl (Of rfl (Of rfl (Of rfl (Of rfl (Pu rfl ?_)))))))
   refine Pu rfl (Ni (hK7 ?_))
   exact WC.ret fun a_ ha_ => hQ (cv_ret1 rfl (.tmp rfl) (by (try have q1 := nil_of_z ‹(t.names.length : Int) = 0›); (try have q2 := nil_of_z ‹(t.items.length : Int) = 0›); (try have q3 := ne_of_z ‹¬ (t.names.length : Int) = 0›); (try have q4 := ne_of_z ‹¬ (t.items.length : Int) = 0›); unfold plainT; simp [*]) hB ha_)
 ·
  replace g8 := dF g8
  refine Of rfl (Of rfl (Of rfl (Of rfl (Of rfl (Of rfl (Of rfl (Pu rfl ?_)))))))
  refine Pu rfl (Of rfl (Of rfl (Of rfl (Of rfl (Of rfl (Of rfl (Of rfl ?_)))))))
  refine Pu rfl (Pu rfl (Ni (hK7 ?_)))
  exact WC.ret fun a_ ha_ => hQ (cv_ret1 rfl (.tmp rfl) (by (try have q1 := nil_of_z ‹(t.names.length : Int) = 0›); (try have q2 := nil_of_z ‹(t.items.length : Int) = 0›); (try have q3 := ne_of_z ‹¬ (t.names.length : Int) = 0›); (try have q4 := ne_of_z ‹¬ (t.items.length : Int) = 0›); unfold plainT; simp [*]) hB ha_)

set_option maxHeartbeats 1000000 in
theorem plainFTFF_v (n : Nat) (t : Tr) (w : World) (L : List Nat) (hL : LL L w) (ht : RdT (n + 1) L w t) : CV Try.prog 72 [.agg #[.int .i64 t.kind, .int .i64 t.num, .string t.text, t.nv, t.iv], .bool false, .bool true, .bool false, .bool false] w fun v W => v = .bool (plainT false true false false t) := by
 refine cv_enter (N := 43) (f := [(0, .agg #[.int .i64 t.kind, .int .i64 t.num, .string t.text, t.nv, t.iv]), (1, .bool false), (2, .bool true), (3, .bool false), (4, .bool false)]) Try.func72 rfl rfl rfl rfl fun Q hQ hE => ?_
 have hB := Below.refl w.heap.size w
 refine Sq fun K1 hK1 => ?_
 obtain ⟨hnt, hit, hct⟩ := ht
 replace hct : RdTs n (L) w t.items := hct
 refine Rg ?_
 refine Ge (dx_box rfl rfl rfl) rfl rfl ?_
 rintro _ W2 ⟨rfl, k3, b4, z5⟩
 have l6 := hB.size
 replace hnt := hnt.more b4 (Nat.le_refl _)
 replace hit := hit.more b4 (Nat.le_refl _)
 replace hB := below_then hB b4
 refine Pu rfl (Ni (hK1 (Sq fun K7 hK7 => (Rg (Pu rfl (Pu rfl (Va (dx_fld (o1 := 1) rfl ty_fld_26_1_1 rfl rfl) rfl rfl ?_)))))))
 refine Va (dx_load rfl ty_one_3 rfl (k3.cell (k := 1) rfl)) rfl rfl (Va (dx_eql rfl rfl rfl) rfl rfl (Pu rfl (Pu rfl ?_)))
 refine WL.split 17 rfl (fun g8 => ?_) (fun g8 => ?_)
 ·
  replace g8 := dT g8
  refine Pu rfl (Pu rfl (Of rfl (Of rfl (Of rfl (Pu rfl (Pu rfl (Pu rfl ?_)))))))
  refine Pu rfl (Pu rfl (Va (dx_fld (o1 := 3) rfl ty_fld_26_3_3 rfl rfl) rfl rfl (Va (dx_load rfl ty_one_23 rfl (k3.cell (k := 3) rfl)) rfl rfl (Va (dx_lenFM rfl ty_slice_23 rfl hnt) rfl rfl (Va (dx_eql rfl rfl rfl) rfl rfl (Pu rfl (Pu rfl ?_)))))))
  refine Pu rfl ?_
  refine WL.split 34 rfl (fun g9 => ?_) (fun g9 => ?_)
  ·
   replace g9 := dT g9
   refine Pu rfl (Pu rfl (Va (dx_fld (o1 := 4) rfl ty_fld_26_4_4 rfl rfl) rfl rfl (Va (dx_load rfl ty_one_24 rfl (k3.cell (k := 4) rfl)) rfl rfl (Va (dx_lenFM rfl ty_slice_24 rfl hit) rfl rfl (Va (dx_eql rfl rfl rfl) rfl rfl (Pu rfl (Pu rfl ?_)))))))
   refine Pu rfl (Ni (hK7 ?_))
   exact WC.ret fun a_ ha_ => hQ (cv_ret1 rfl (.tmp rfl) (by (try have q1 := nil_of_z ‹(t.names.length : Int) = 0›); (try have q2 := nil_of_z ‹(t.items.length : Int) = 0›); (try have q3 := ne_of_z ‹¬ (t.names.length : Int) = 0›); (try have q4 := ne_of_z ‹¬ (t.items.length : Int) = 0›); unfold plainT; simp [*]) hB ha_)
  ·
   replace g9 := dF g9
   refine Of rfl (Of rfl (Of rfl (Of rfl (Of rfl (Of rfl (Of rfl (Pu rfl ?_)))))))
   refine Pu rfl (Ni (hK7 ?_))
   exact WC.ret fun a_ ha_ => hQ (cv_ret1 rfl (.tmp rfl) (by (try have q1 := nil_of_z ‹(t.names.length : Int) = 0›); (try have q2 := nil_of_z ‹(t.items.length : Int) = 0›); (try have q3 := ne_of_z ‹¬ (t.names.length : Int) = 0›); (try have q4 := ne_of_z ‹¬ (t.items.length : Int) = 0›); unfold plainT; simp [*]) hB ha_)
 ·
  replace g8 := dF g8
  refine Of rfl (Of rfl (Of rfl (Of rfl (Of rfl (Of rfl (Pu rfl (Pu rfl ?_)))))))
  refine Of rfl (Of rfl (Of rfl (Of rfl (Of rfl (Of rfl (Of rfl (Pu rfl ?_)))))))
  refine Pu rfl (Of rfl (Of rfl (Of rfl (Of rfl (Of rfl (Of rfl (Of rfl ?_)))))))
  refine Pu rfl (Pu rfl (Ni (hK7 ?_)))
  exact WC.ret fun a_ ha_ => hQ (cv_ret1 rfl (.tmp rfl) (by (try have q1 := nil_of_z ‹(t.names.length : Int) = 0›); (try have q2 := nil_of_z ‹(t.items.length : Int) = 0›); (try have q3 := ne_of_z ‹¬ (t.names.length : Int) = 0›); (try have q4 := ne_of_z ‹¬ (t.items.length : Int) = 0›); unfold plainT; simp [*]) hB ha_)

set_option maxHeartbeats 1000000 in
theorem plainFFFT_v (n : Nat) (t : Tr) (w : World) (L : List Nat) (hL : LL L w) (ht : RdT (n + 1) L w t) : CV Try.prog 72 [.agg #[.int .i64 t.kind, .int .i64 t.num, .string t.text, t.nv, t.iv], .bool false, .bool false, .bool false, .bool true] w fun v W => v = .bool (plainT false false false true t) := by
 refine cv_enter (N := 43) (f := [(0, .agg #[.int .i64 t.kind, .int .i64 t.num, .string t.text, t.nv, t.iv]), (1, .bool false), (2, .bool false), (3, .bool false), (4, .bool true)]) Try.func72 rfl rfl rfl rfl fun Q hQ hE => ?_
 have hB := Below.refl w.heap.size w
 refine Sq fun K1 hK1 => ?_
 obtain ⟨hnt, hit, hct⟩ := ht
 replace hct : RdTs n (L) w t.items := hct
 refine Rg ?_
 refine Ge (dx_box rfl rfl rfl) rfl rfl ?_
 rintro _ W2 ⟨rfl, k3, b4, z5⟩
 have l6 := hB.size
 replace hnt := hnt.more b4 (Nat.le_refl _)
 replace hB := below_then hB b4
 refine Pu rfl (Ni (hK1 (Sq fun K7 hK7 => (Rg (Pu rfl (Pu rfl (Va (dx_fld (o1 := 1) rfl ty_fld_26_1_1 rfl rfl) rfl rfl ?_)))))))
 refine Va (dx_load rfl ty_one_3 rfl (k3.cell (k := 1) rfl)) rfl rfl (Va (dx_eql rfl rfl rfl) rfl rfl (Pu rfl (Pu rfl ?_)))
 refine WL.split 17 rfl (fun g8 => ?_) (fun g8 => ?_)
 ·
  replace g8 := dT g8
  refine Pu rfl (Pu rfl (Va (dx_fld (o1 := 2) rfl ty_fld_26_2_2 rfl rfl) rfl rfl (Va (dx_load rfl ty_one_9 rfl (k3.cell (k := 2) rfl)) rfl rfl (Va (dx_eqlT rfl rfl rfl) rfl rfl (Pu rfl (Pu rfl (Pu rfl ?_)))))))
  refine WL.split 25 rfl (fun g9 => ?_) (fun g9 => ?_)
  ·
   replace g9 := dT g9
   refine Pu rfl (Pu rfl (Va (dx_fld (o1 := 3) rfl ty_fld_26_3_3 rfl rfl) rfl rfl (Va (dx_load rfl ty_one_23 rfl (k3.cell (k := 3) rfl)) rfl rfl (Va (dx_lenFM rfl ty_slice_23 rfl hnt) rfl rfl (Va (dx_eql rfl rfl rfl) rfl rfl (Pu rfl (Pu rfl ?_)))))))
   refine Pu rfl ?_
   refine WL.split 34 rfl (fun g10 => ?_) (fun g10 => ?_)
   ·
    replace g10 := dT g10
    refine Pu rfl (Pu rfl (Of rfl (Of rfl (Of rfl (Of rfl (Pu rfl (Pu rfl ?_)))))))
    refine Pu rfl (Ni (hK7 ?_))
    exact WC.ret fun a_ ha_ => hQ (cv_ret1 rfl (.tmp rfl) (by (try have q1 := nil_of_z ‹(t.names.length : Int) = 0›); (try have q2 := nil_of_z ‹(t.items.length : Int) = 0›); (try have q3 := ne_of_z ‹¬ (t.names.length : Int) = 0›); (try have q4 := ne_of_z ‹¬ (t.items.length : Int) = 0›); unfold plainT; simp [*]) hB ha_)
   ·
    replace g10 := dF g10
    refine Of rfl (Of rfl (Of rfl (Of rfl (Of rfl (Of rfl (Of rfl (Pu rfl ?_)))))))
    refine Pu rfl (Ni (hK7 ?_))
    exact WC.ret fun a_ ha_ => hQ (cv_ret1 rfl (.tmp rfl) (by (try have q1 := nil_of_z ‹(t.names.length : Int) = 0›); (try have q2 := nil_of_z ‹(t.items.length : Int) = 0›); (try have q3 := ne_of_z ‹¬ (t.names.length : Int) = 0›); (try have q4 := ne_of_z ‹¬ (t.items.length : Int) = 0›); unfold plainT; simp [*]) hB ha_)
  ·
   replace g9 := dF g9
   refine Of rfl (Of rfl (Of rfl (Of rfl (Of rfl (Of rfl (Of rfl (Pu rfl ?_)))))))
   refine Pu rfl (Of rfl (Of rfl (Of rfl (Of rfl (Of rfl (Of rfl (Of rfl ?_)))))))
   refine Pu rfl (Pu rfl (Ni (hK7 ?_)))
   exact WC.ret fun a_ ha_ => hQ (cv_ret1 rfl (.tmp rfl) (by (try have q1 := nil_of_z ‹(t.names.length : Int) = 0›); (try have q2 := nil_of_z ‹(t.items.length : Int) = 0›); (try have q3 := ne_of_z ‹¬ (t.names.length : Int) = 0›); (try have q4 := ne_of_z ‹¬ (t.items.length : Int) = 0›); unfold plainT; simp [*]) hB ha_)
 ·
  replace g8 := dF g8
  refine Of rfl (Of rfl (Of rfl (Of rfl (Of rfl (Of rfl (Pu rfl (Pu rfl ?_)))))))
  refine Of rfl (Of rfl (Of rfl (Of rfl (Of rfl (Of rfl (Of rfl (Pu rfl ?_)))))))
  refine Pu rfl (Of rfl (Of rfl (Of rfl (Of rfl (Of rfl (Of rfl (Of rfl ?_)))))))
  refine Pu rfl (Pu rfl (Ni (hK7 ?_)))
  exact WC.ret fun a_ ha_ => hQ (cv_ret1 rfl (.tmp rfl) (by (try have q1 := nil_of_z ‹(t.names.length : Int) = 0›); (try have q2 := nil_of_z ‹(t.items.length : Int) = 0›); (try have q3 := ne_of_z ‹¬ (t.names.length : Int) = 0›); (try have q4 := ne_of_z ‹¬ (t.items.length : Int) = 0›); unfold plainT; simp [*]) hB ha_)

set_option maxHeartbeats 1000000 in
theorem plainFFTT_v (n : Nat) (t : Tr) (w : World) (L : List Nat) (hL : LL L w) (ht : RdT (n + 1) L w t) : CV Try.prog 72 [.agg #[.int .i64 t.kind, .int .i64 t.num, .string t.text, t.nv, t.iv], .bool false, .bool false, .bool true, .bool true] w fun v W => v = .bool (plainT false false true true t) := by
 refine cv_enter (N := 43) (f := [(0, .agg #[.int .i64 t.kind, .int .i64 t.num, .string t.text, t.nv, t.iv]), (1, .bool false), (2, .bool false), (3, .bool true), (4, .bool true)]) Try.func72 rfl rfl rfl rfl fun Q hQ hE => ?_
 have hB := Below.refl w.heap.size w
 refine Sq fun K1 hK1 => ?_
 obtain ⟨hnt, hit, hct⟩ := ht
 replace hct : RdTs n (L) w t.items := hct
 refine Rg ?_
 refine Ge (dx_box rfl rfl rfl) rfl rfl ?_
 rintro _ W2 ⟨rfl, k3, b4, z5⟩
 have l6 := hB.size
 replace hB := below_then hB b4
 refine Pu rfl (Ni (hK1 (Sq fun K7 hK7 => (Rg (Pu rfl (Pu rfl (Va (dx_fld (o1 := 1) rfl ty_fld_26_1_1 rfl rfl) rfl rfl ?_)))))))
 refine Va (dx_load rfl ty_one_3 rfl (k3.cell (k := 1) rfl)) rfl rfl (Va (dx_eql rfl rfl rfl) rfl rfl (Pu rfl (Pu rfl ?_)))
 refine WL.split 17 rfl (fun g8 => ?_) (fun g8 => ?_)
 ·
  replace g8 := dT g8
  refine Pu rfl (Pu rfl (Va (dx_fld (o1 := 2) rfl ty_fld_26_2_2 rfl rfl) rfl rfl (Va (dx_load rfl ty_one_9 rfl (k3.cell (k := 2) rfl)) rfl rfl (Va (dx_eqlT rfl rfl rfl) rfl rfl (Pu rfl (Pu rfl (Pu rfl ?_)))))))
  refine WL.split 25 rfl (fun g9 => ?_) (fun g9 => ?_)
  ·
   replace g9 := dT g9
   refine Pu rfl (Pu rfl (Of rfl (Of rfl (Of rfl (Of rfl (Pu rfl (Pu rfl ?_)))))))
   refine Pu rfl (Pu rfl (Pu rfl (Of rfl (Of rfl (Of rfl (Of rfl (Pu rfl ?_)))))))
   refine Pu rfl (Pu rfl (Ni (hK7 ?_)))
   exact WC.ret fun a_ ha_ => hQ (cv_ret1 rfl (.tmp rfl) (by (try have q1 := nil_of_z ‹(t.names.length : Int) = 0›); (try have q2 := nil_of_z ‹(t.items.length : Int) = 0›); (try have q3 := ne_of_z ‹¬ (t.names.length : Int) = 0›); (try have q4 := ne_of_z ‹¬ (t.items.length : Int) = 0›); unfold plainT; simp [*]) hB ha_)
  ·
   replace g9 := dF g9
   refine Of rfl (Of rfl (Of rfl (Of rfl (Of rfl (Of rfl (Of rfl (Pu rfl ?_)))))))
   refine Pu rfl (Of rfl (Of rfl (Of rfl (Of rfl (Of rfl (Of rfl (Of rfl ?_)))))))
   refine Pu rfl (Pu rfl (Ni (hK7 ?_)))
   exact WC.ret fun a_ ha_ => hQ (cv_ret1 rfl (.tmp rfl) (by (try have q1 := nil_of_z ‹(t.names.length : Int) = 0›); (try have q2 := nil_of_z ‹(t.items.length : Int) = 0›); (try have q3 := ne_of_z ‹¬ (t.names.length : Int) = 0›); (try have q4 := ne_of_z ‹¬ (t.items.length : Int) = 0›); unfold plainT; simp [*]) hB ha_)
 ·
  replace g8 := dF g8
  refine Of rfl (Of rfl (Of rfl (Of rfl (Of rfl (Of rfl (Pu rfl (Pu rfl ?_)))))))
  refine Of rfl (Of rfl (Of rfl (Of rfl (Of rfl (Of rfl (Of rfl (Pu rfl ?_)))))))
  refine Pu rfl (Of rfl (Of rfl (Of rfl (Of rfl (Of rfl (Of rfl (Of rfl ?_)))))))
  refine Pu rfl (Pu rfl (Ni (hK7 ?_)))
  exact WC.ret fun a_ ha_ => hQ (cv_ret1 rfl (.tmp rfl) (by (try have q1 := nil_of_z ‹(t.names.length : Int) = 0›); (try have q2 := nil_of_z ‹(t.items.length : Int) = 0›); (try have q3 := ne_of_z ‹¬ (t.names.length : Int) = 0›); (try have q4 := ne_of_z ‹¬ (t.items.length : Int) = 0›); unfold plainT; simp [*]) hB ha_)

theorem refDec_v (s : ByteArray) (sv : Value) (w : World) (L : List Nat) (hL : LL L w) (h1 : RdF 1 L w sv ((sb s).map e8)) (hs : s.size ≤ 1000000) : CV Try.prog 66 [sv] w fun v _ => ∃ u, v = .tuple #[u, .int .i64 (if upB s = true then 0 else 2)] := by
 refine Calls.mono (ref_decode_any sv (sb s) w (rdI_of h1) (sb_bytes _) (by rw [sb_length]; omega)) fun e w' h => ?_
 obtain ⟨u, c, he, hb, h⟩ := h
 refine ⟨_, he, ⟨u, ?_⟩, hb⟩
 unfold upB
 rcases h with ⟨rs, hd, hc, _⟩ | ⟨hd, hc, _⟩ <;> rw [hd, hc] <;> rfl
set_option maxHeartbeats 1000000 in
theorem refUp_v (s : ByteArray) (sv : Value) (w : World) (L : List Nat) (hL : LL L w) (h1 : RdF 1 L w sv ((sb s).map e8))  (hs : s.size ≤ 1000000) : CV Try.prog 36 [sv] w fun v W => v = .bool (upB s) := by
 refine cv_enter (N := 12) (f := [(0, sv)]) Try.func36 rfl rfl rfl rfl fun Q hQ hE => ?_
 have hB := Below.refl w.heap.size w
 refine WC.seq fun K1 hK1 => (WC.region (Pu rfl (WL.nil (hK1 (WC.seq fun K2 hK2 => (WC.region (Pu rfl ?_)))))))
 refine WL.get (dx_cv rfl Try.func66 rfl rfl rfl (refDec_v s _ w _ hL h1 hs)) rfl rfl ?_
 rintro _ W4 ⟨⟨du, rfl⟩, b3⟩
 replace hB := below_then hB b3
 refine Pu rfl (Pu rfl (Pu rfl (Pu rfl (Pu rfl (WL.nil (hK2 (WC.seq fun K5 hK5 => ?_)))))))
 refine WC.region (Pu rfl (WL.val (dx_eql rfl rfl rfl) rfl rfl (Pu rfl (WL.nil (hK5 ?_)))))
 exact WC.ret fun a_ ha_ => hQ (cv_ret1 rfl (.tmp rfl) (by cases upB s <;> simp) hB ha_)

abbrev RefRightAt (n : Nat) : Prop := ∀ (t : Tr) (room : Nat) (w : World) (L : List Nat), LL L w → RdT n L w t → SzT 1000000 n t → room ≤ 12 → CV Try.prog 42 [.agg #[.int .i64 t.kind, .int .i64 t.num, .string t.text, t.nv, t.iv], .int .i64 (12 - (room : Int))] w fun v W => v = .bool (rightJ upB room t.er)
theorem plain_leaf {t : Tr} {a b c d : Bool} (h : plainT a b c d t = true) : (a = false → t.num = 0) ∧ (b = false → t.text = ⟨#[]⟩) ∧ (c = false → t.names = []) ∧ (d = false → t.items = []) := by
 unfold plainT at h
 simp only [Bool.and_eq_true, Bool.or_eq_true, decide_eq_true_eq] at h
 obtain ⟨h1, h2, h3, h4⟩ := h
 refine ⟨fun e => ?_, fun e => ?_, fun e => ?_, fun e => ?_⟩ <;> simp_all
set_option maxHeartbeats 2000000 in
theorem refRight_step (n : Nat) (ih : RefRightAt n) (t : Tr) (room : Nat) (w : World) (L : List Nat) (hL : LL L w) (ht : RdT (n + 1) L w t)  (hz : SzT 1000000 (n + 1) t) (hrm : room ≤ 12) : CV Try.prog 42 [.agg #[.int .i64 t.kind, .int .i64 t.num, .string t.text, t.nv, t.iv], .int .i64 (12 - (room : Int))] w fun v W => v = .bool (rightJ upB room t.er) := by
 refine cv_enter (N := 109) (f := [(0, .agg #[.int .i64 t.kind, .int .i64 t.num, .string t.text, t.nv, t.iv]), (1, .int .i64 (12 - (room : Int)))]) Try.func42 rfl rfl rfl rfl fun Q hQ hE => ?_
 have hB := Below.refl w.heap.size w
 refine Sq fun K1 hK1 => ?_
 have hzt := hz
 obtain ⟨hz1, hz2, hz3, hz4, hz5⟩ := hz
 obtain ⟨hnt, hit, hct⟩ := ht
 replace hct : RdTs n (L) w t.items := hct
 rcases (show t.kind = 0 ∨ t.kind = 1 ∨ t.kind = 2 ∨ t.kind = 3 ∨ t.kind = 4 ∨ t.kind = 5 ∨ t.kind = 6 ∨ (t.kind ≠ 0 ∧ t.kind ≠ 1 ∧ t.kind ≠ 2 ∧ t.kind ≠ 3 ∧ t.kind ≠ 4 ∧ t.kind ≠ 5 ∧ t.kind ≠ 6) by omega) with hkt | hkt | hkt | hkt | hkt | hkt | hkt | hkt
 ·
  refine Rg ?_
  refine Ge (dx_box rfl rfl rfl) rfl rfl ?_
  rintro _ W2 ⟨rfl, k3, b4, z5⟩
  have l6 := hB.size
  replace hnt := hnt.more b4 (Nat.le_refl _)
  replace hit := hit.more b4 (Nat.le_refl _)
  replace hct := hct.more b4 (Nat.le_refl _)
  replace hB := below_then hB b4
  replace hL := LL.more hL z5
  refine Pu rfl (Ni (hK1 (Sq fun K7 hK7 => (Sq fun K8 hK8 => (Rg (Va (dx_fld (o1 := 0) rfl ty_fld_26_0_0 rfl rfl) rfl rfl (Va ((hkt ▸ dx_load rfl ty_one_3 rfl (k3.cell (k := 0) rfl))) rfl rfl ?_)))))))
  refine Ni (hK8 (WC.block (Sq fun K9 hK9 => (Sq fun K10 hK10 => (Rg (Va (dx_eql rfl rfl rfl) rfl rfl (Pu rfl ?_)))))))
  refine Ni (hK10 (WC.condT rfl (WC.skip (hK9 (WC.condT rfl (Sq fun K11 hK11 => (Rg ?_)))))))
  refine Va (dx_loadN rfl ty_agg_26_5 rfl k3.range rfl) rfl rfl ?_
  refine Ge (dx_cv rfl Try.func72 rfl rfl rfl (plainFFFF_v n t W2 _ hL (show RdT (n + 1) (w.heap.size :: L) W2 t from ⟨hnt, hit, hct⟩))) rfl rfl ?_
  rintro _ W13 ⟨rfl, b12⟩
  replace hB := below_then hB b12
  refine Pu rfl (Ni (hK11 ?_))
  exact WC.ret fun a_ ha_ => hQ (cv_ret1 rfl (.tmp rfl) (by rw [right_leaf (by first | (rw [hkt]; decide) | omega) (by first | (rw [hkt]; decide) | omega), leaf_er]; (try unfold plainT at *); by_cases a1 : t.num = 0 <;> by_cases a2 : t.text = ⟨#[]⟩ <;> by_cases a3 : t.names = [] <;> by_cases a4 : t.items = [] <;> simp_all <;> omega) hB ha_)
 ·
  refine Rg ?_
  refine Ge (dx_box rfl rfl rfl) rfl rfl ?_
  rintro _ W14 ⟨rfl, k15, b16, z17⟩
  have l18 := hB.size
  replace hnt := hnt.more b16 (Nat.le_refl _)
  replace hit := hit.more b16 (Nat.le_refl _)
  replace hct := hct.more b16 (Nat.le_refl _)
  replace hB := below_then hB b16
  replace hL := LL.more hL z17
  refine Pu rfl (Ni (hK1 (Sq fun K19 hK19 => (Sq fun K20 hK20 => (Rg (Va (dx_fld (o1 := 0) rfl ty_fld_26_0_0 rfl rfl) rfl rfl (Va ((hkt ▸ dx_load rfl ty_one_3 rfl (k15.cell (k := 0) rfl))) rfl rfl ?_)))))))
  refine Ni (hK20 (WC.block (Sq fun K21 hK21 => (Sq fun K22 hK22 => (Rg (Va (dx_eql rfl rfl rfl) rfl rfl (Pu rfl ?_)))))))
  refine Ni (hK22 (WC.condF rfl (Sq fun K23 hK23 => (Rg (Va (dx_eql rfl rfl rfl) rfl rfl (Pu rfl (Ni ?_)))))))
  refine hK23 (WC.condT rfl (WC.skip (hK21 (WC.condT rfl (Sq fun K24 hK24 => (Rg (Va (dx_loadN rfl ty_agg_26_5 rfl k15.range rfl) rfl rfl ?_)))))))
  refine Ge (dx_cv rfl Try.func72 rfl rfl rfl (plainFFFF_v n t W14 _ hL (show RdT (n + 1) (w.heap.size :: L) W14 t from ⟨hnt, hit, hct⟩))) rfl rfl ?_
  rintro _ W26 ⟨rfl, b25⟩
  replace hB := below_then hB b25
  refine Pu rfl (Ni (hK24 ?_))
  exact WC.ret fun a_ ha_ => hQ (cv_ret1 rfl (.tmp rfl) (by rw [right_leaf (by first | (rw [hkt]; decide) | omega) (by first | (rw [hkt]; decide) | omega), leaf_er]; (try unfold plainT at *); by_cases a1 : t.num = 0 <;> by_cases a2 : t.text = ⟨#[]⟩ <;> by_cases a3 : t.names = [] <;> by_cases a4 : t.items = [] <;> simp_all <;> omega) hB ha_)
 ·
  refine Rg ?_
  refine Ge (dx_box rfl rfl rfl) rfl rfl ?_
  rintro _ W27 ⟨rfl, k28, b29, z30⟩
  have l31 := hB.size
  replace hnt := hnt.more b29 (Nat.le_refl _)
  replace hit := hit.more b29 (Nat.le_refl _)
  replace hct := hct.more b29 (Nat.le_refl _)
  replace hB := below_then hB b29
  replace hL := LL.more hL z30
  refine Pu rfl (Ni (hK1 (Sq fun K32 hK32 => (Sq fun K33 hK33 => (Rg (Va (dx_fld (o1 := 0) rfl ty_fld_26_0_0 rfl rfl) rfl rfl (Va ((hkt ▸ dx_load rfl ty_one_3 rfl (k28.cell (k := 0) rfl))) rfl rfl ?_)))))))
  refine Ni (hK33 (WC.block (Sq fun K34 hK34 => (Sq fun K35 hK35 => (Rg (Va (dx_eql rfl rfl rfl) rfl rfl (Pu rfl ?_)))))))
  refine Ni (hK35 (WC.condF rfl (Sq fun K36 hK36 => (Rg (Va (dx_eql rfl rfl rfl) rfl rfl (Pu rfl (Ni ?_)))))))
  refine hK36 (WC.condF rfl (Rg (Va (dx_eql rfl rfl rfl) rfl rfl (Pu rfl (Ni (hK34 (WC.condT rfl ?_)))))))
  refine Sq fun K37 hK37 => (Rg (Va (dx_loadN rfl ty_agg_26_5 rfl k28.range rfl) rfl rfl ?_))
  refine Ge (dx_cv rfl Try.func72 rfl rfl rfl (plainFFFF_v n t W27 _ hL (show RdT (n + 1) (w.heap.size :: L) W27 t from ⟨hnt, hit, hct⟩))) rfl rfl ?_
  rintro _ W39 ⟨rfl, b38⟩
  replace hB := below_then hB b38
  refine Pu rfl (Ni (hK37 ?_))
  exact WC.ret fun a_ ha_ => hQ (cv_ret1 rfl (.tmp rfl) (by rw [right_leaf (by first | (rw [hkt]; decide) | omega) (by first | (rw [hkt]; decide) | omega), leaf_er]; (try unfold plainT at *); by_cases a1 : t.num = 0 <;> by_cases a2 : t.text = ⟨#[]⟩ <;> by_cases a3 : t.names = [] <;> by_cases a4 : t.items = [] <;> simp_all <;> omega) hB ha_)
 ·
  refine Rg ?_
  refine Ge (dx_box rfl rfl rfl) rfl rfl ?_
  rintro _ W40 ⟨rfl, k41, b42, z43⟩
  have l44 := hB.size
  replace hnt := hnt.more b42 (Nat.le_refl _)
  replace hit := hit.more b42 (Nat.le_refl _)
  replace hct := hct.more b42 (Nat.le_refl _)
  replace hB := below_then hB b42
  replace hL := LL.more hL z43
  refine Pu rfl (Ni (hK1 (Sq fun K45 hK45 => (Sq fun K46 hK46 => (Rg (Va (dx_fld (o1 := 0) rfl ty_fld_26_0_0 rfl rfl) rfl rfl (Va ((hkt ▸ dx_load rfl ty_one_3 rfl (k41.cell (k := 0) rfl))) rfl rfl ?_)))))))
  refine Ni (hK46 (WC.block (Sq fun K47 hK47 => (Sq fun K48 hK48 => (Rg (Va (dx_eql rfl rfl rfl) rfl rfl (Pu rfl ?_)))))))
  refine Ni (hK48 (WC.condF rfl (Sq fun K49 hK49 => (Rg (Va (dx_eql rfl rfl rfl) rfl rfl (Pu rfl (Ni ?_)))))))
  refine hK49 (WC.condF rfl (Rg (Va (dx_eql rfl rfl rfl) rfl rfl (Pu rfl (Ni (hK47 (WC.condF rfl ?_)))))))
  refine Sq fun K50 hK50 => (Rg (Va (dx_eql rfl rfl rfl) rfl rfl (Pu rfl (Ni (hK50 (WC.condT rfl (Sq fun K51 hK51 => ?_)))))))
  refine Rg (Va (dx_loadN rfl ty_agg_26_5 rfl k41.range rfl) rfl rfl ?_)
  refine Ge (dx_cv rfl Try.func72 rfl rfl rfl (plainTFFF_v n t W40 _ hL (show RdT (n + 1) (w.heap.size :: L) W40 t from ⟨hnt, hit, hct⟩))) rfl rfl ?_
  rintro _ W53 ⟨rfl, b52⟩
  replace k41 := k41.below b52
  replace hB := below_then hB b52
  refine Pu rfl ?_
  refine WL.split 19 rfl (fun g54 => ?_) (fun g54 => ?_)
  ·
   refine Va (dx_fld (o1 := 1) rfl ty_fld_26_1_1 rfl rfl) rfl rfl (Va (dx_load rfl ty_one_3 rfl (k41.cell (k := 1) rfl)) rfl rfl (Va (dx_geq rfl rfl rfl) rfl rfl (Pu rfl (Pu rfl ?_))))
   refine WL.split 24 rfl (fun g55 => ?_) (fun g55 => ?_)
   ·
    replace g55 := dT g55
    refine Va (dx_fld (o1 := 1) rfl ty_fld_26_1_1 rfl rfl) rfl rfl (Va (dx_load rfl ty_one_3 rfl (k41.cell (k := 1) rfl)) rfl rfl (Va (dx_leq rfl rfl rfl) rfl rfl (Pu rfl (Pu rfl (Ni (hK51 ?_))))))
    exact WC.ret fun a_ ha_ => hQ (cv_ret1 rfl (.tmp rfl) (by rw [right_leaf (by first | (rw [hkt]; decide) | omega) (by first | (rw [hkt]; decide) | omega), leaf_er]; (try unfold plainT at *); by_cases a1 : t.num = 0 <;> by_cases a2 : t.text = ⟨#[]⟩ <;> by_cases a3 : t.names = [] <;> by_cases a4 : t.items = [] <;> simp_all <;> omega) hB ha_)
   ·
    replace g55 := dF g55
    refine Of rfl (Of rfl (Of rfl (Pu rfl (Pu rfl (Ni (hK51 ?_))))))
    exact WC.ret fun a_ ha_ => hQ (cv_ret1 rfl (.tmp rfl) (by rw [right_leaf (by first | (rw [hkt]; decide) | omega) (by first | (rw [hkt]; decide) | omega), leaf_er]; (try unfold plainT at *); by_cases a1 : t.num = 0 <;> by_cases a2 : t.text = ⟨#[]⟩ <;> by_cases a3 : t.names = [] <;> by_cases a4 : t.items = [] <;> simp_all <;> omega) hB ha_)
  ·
   refine Of rfl (Of rfl (Of rfl (Pu rfl (Pu rfl (Of rfl (Of rfl (Of rfl ?_)))))))
   refine Pu rfl (Pu rfl (Ni (hK51 ?_)))
   exact WC.ret fun a_ ha_ => hQ (cv_ret1 rfl (.tmp rfl) (by rw [right_leaf (by first | (rw [hkt]; decide) | omega) (by first | (rw [hkt]; decide) | omega), leaf_er]; (try unfold plainT at *); by_cases a1 : t.num = 0 <;> by_cases a2 : t.text = ⟨#[]⟩ <;> by_cases a3 : t.names = [] <;> by_cases a4 : t.items = [] <;> simp_all <;> omega) hB ha_)
 ·
  refine Rg ?_
  refine Ge (dx_box rfl rfl rfl) rfl rfl ?_
  rintro _ W56 ⟨rfl, k57, b58, z59⟩
  have l60 := hB.size
  replace hnt := hnt.more b58 (Nat.le_refl _)
  replace hit := hit.more b58 (Nat.le_refl _)
  replace hct := hct.more b58 (Nat.le_refl _)
  replace hB := below_then hB b58
  replace hL := LL.more hL z59
  refine Pu rfl (Ni (hK1 (Sq fun K61 hK61 => (Sq fun K62 hK62 => (Rg (Va (dx_fld (o1 := 0) rfl ty_fld_26_0_0 rfl rfl) rfl rfl (Va ((hkt ▸ dx_load rfl ty_one_3 rfl (k57.cell (k := 0) rfl))) rfl rfl ?_)))))))
  refine Ni (hK62 (WC.block (Sq fun K63 hK63 => (Sq fun K64 hK64 => (Rg (Va (dx_eql rfl rfl rfl) rfl rfl (Pu rfl ?_)))))))
  refine Ni (hK64 (WC.condF rfl (Sq fun K65 hK65 => (Rg (Va (dx_eql rfl rfl rfl) rfl rfl (Pu rfl (Ni ?_)))))))
  refine hK65 (WC.condF rfl (Rg (Va (dx_eql rfl rfl rfl) rfl rfl (Pu rfl (Ni (hK63 (WC.condF rfl ?_)))))))
  refine Sq fun K66 hK66 => (Rg (Va (dx_eql rfl rfl rfl) rfl rfl (Pu rfl (Ni (hK66 (WC.condF rfl (Sq fun K67 hK67 => ?_)))))))
  refine Rg (Va (dx_eql rfl rfl rfl) rfl rfl (Pu rfl (Ni (hK67 (WC.condT rfl (Sq fun K68 hK68 => (Rg ?_)))))))
  refine Va (dx_loadN rfl ty_agg_26_5 rfl k57.range rfl) rfl rfl ?_
  refine Ge (dx_cv rfl Try.func72 rfl rfl rfl (plainFTFF_v n t W56 _ hL (show RdT (n + 1) (w.heap.size :: L) W56 t from ⟨hnt, hit, hct⟩))) rfl rfl ?_
  rintro _ W70 ⟨rfl, b69⟩
  replace k57 := k57.below b69
  replace hB := below_then hB b69
  replace hL := LL.below hL b69
  refine Pu rfl ?_
  refine WL.split 33 rfl (fun g71 => ?_) (fun g71 => ?_)
  ·
   refine Va (dx_fld (o1 := 2) rfl ty_fld_26_2_2 rfl rfl) rfl rfl (Va (dx_load rfl ty_one_9 rfl (k57.cell (k := 2) rfl)) rfl rfl ?_)
   refine Ge (dx_sb (L := w.heap.size :: L) rfl Try.underlying9 Try.underlying50 Try.underlying5 rfl hL (by unfold maxLen; omega)) rfl rfl ?_
   rintro u72 W73 ⟨k74, b75⟩
   replace hB := below_then hB b75
   replace hL := LL.below hL b75
   refine Ge (dx_cv rfl Try.func36 rfl rfl rfl (refUp_v t.text _ W73 _ hL k74 (by omega))) rfl rfl ?_
   rintro _ W77 ⟨rfl, b76⟩
   replace hB := below_then hB b76
   refine Pu rfl (Pu rfl (Ni (hK68 ?_)))
   exact WC.ret fun a_ ha_ => hQ (cv_ret1 rfl (.tmp rfl) (by rw [right_leaf (by first | (rw [hkt]; decide) | omega) (by first | (rw [hkt]; decide) | omega), leaf_er]; (try unfold plainT at *); by_cases a1 : t.num = 0 <;> by_cases a2 : t.text = ⟨#[]⟩ <;> by_cases a3 : t.names = [] <;> by_cases a4 : t.items = [] <;> simp_all <;> omega) hB ha_)
  ·
   refine Of rfl (Of rfl (Of rfl (Of rfl (Pu rfl (Pu rfl (Ni (hK68 ?_)))))))
   exact WC.ret fun a_ ha_ => hQ (cv_ret1 rfl (.tmp rfl) (by rw [right_leaf (by first | (rw [hkt]; decide) | omega) (by first | (rw [hkt]; decide) | omega), leaf_er]; (try unfold plainT at *); by_cases a1 : t.num = 0 <;> by_cases a2 : t.text = ⟨#[]⟩ <;> by_cases a3 : t.names = [] <;> by_cases a4 : t.items = [] <;> simp_all <;> omega) hB ha_)
 ·
  refine Rg ?_
  refine Ge (dx_box rfl rfl rfl) rfl rfl ?_
  rintro _ W78 ⟨rfl, k79, b80, z81⟩
  have l82 := hB.size
  replace hnt := hnt.more b80 (Nat.le_refl _)
  replace hit := hit.more b80 (Nat.le_refl _)
  replace hct := hct.more b80 (Nat.le_refl _)
  replace hB := below_then hB b80
  replace hL := LL.more hL z81
  refine Pu rfl (Ni (hK1 (Sq fun K83 hK83 => (Sq fun K84 hK84 => (Rg (Va (dx_fld (o1 := 0) rfl ty_fld_26_0_0 rfl rfl) rfl rfl (Va ((hkt ▸ dx_load rfl ty_one_3 rfl (k79.cell (k := 0) rfl))) rfl rfl ?_)))))))
  refine Ni (hK84 (WC.block (Sq fun K85 hK85 => (Sq fun K86 hK86 => (Rg (Va (dx_eql rfl rfl rfl) rfl rfl (Pu rfl ?_)))))))
  refine Ni (hK86 (WC.condF rfl (Sq fun K87 hK87 => (Rg (Va (dx_eql rfl rfl rfl) rfl rfl (Pu rfl (Ni ?_)))))))
  refine hK87 (WC.condF rfl (Rg (Va (dx_eql rfl rfl rfl) rfl rfl (Pu rfl (Ni (hK85 (WC.condF rfl ?_)))))))
  refine Sq fun K88 hK88 => (Rg (Va (dx_eql rfl rfl rfl) rfl rfl (Pu rfl (Ni (hK88 (WC.condF rfl (Sq fun K89 hK89 => ?_)))))))
  refine Rg (Va (dx_eql rfl rfl rfl) rfl rfl (Pu rfl (Ni (hK89 (WC.condF rfl (Sq fun K90 hK90 => (Rg ?_)))))))
  refine Va (dx_eql rfl rfl rfl) rfl rfl (Pu rfl (Ni (hK90 (WC.condT rfl (Sq fun K91 hK91 => (Rg (Va (dx_loadN rfl ty_agg_26_5 rfl k79.range rfl) rfl rfl ?_)))))))
  refine Ge (dx_cv rfl Try.func72 rfl rfl rfl (plainFFFT_v n t W78 _ hL (show RdT (n + 1) (w.heap.size :: L) W78 t from ⟨hnt, hit, hct⟩))) rfl rfl ?_
  rintro _ W93 ⟨rfl, b92⟩
  replace hnt := hnt.below b92
  replace hit := hit.below b92
  replace hct := hct.below b92
  replace k79 := k79.below b92
  replace hB := below_then hB b92
  replace hL := LL.below hL b92
  refine Va (dx_not rfl rfl) rfl rfl (Ni (hK91 ?_))
  refine WC.cond rfl (fun c94 => ?_) (fun c94 => ?_)
  ·
   replace c94 := bnot_t c94
   refine Sq fun K95 hK95 => (Rg (Pu rfl (Ni (hK95 ?_))))
   exact WC.ret fun a_ ha_ => hQ (cv_ret1 rfl (.tmp rfl) (by rw [right_node (by first | exact .inl hkt | exact .inr hkt)]; cases room with | zero => rfl | succ m => (have hne : nodeJ upB t.er = false := (by rw [node_er]; first | (have hp : plainT _ _ _ _ t = false := (by assumption); unfold plainT at hp; simp_all; done) | (have hlq : ¬ t.names.length = t.items.length := (by omega); simp [hkt, hlq])); show _ = Value.bool (_ && _); rw [hne, Bool.false_and])) hB ha_)
  ·
   replace c94 := bnot_f c94
   refine WC.skip (hK83 (Sq fun K96 hK96 => (Sq fun K97 hK97 => ?_)))
   cases room with
   | zero =>
    refine Rg (Pu rfl (Va (dv_T (dx_geq rfl rfl rfl) (by omega)) rfl rfl (Ni (hK97 (WC.condT rfl (Sq fun K98 hK98 => (Rg ?_)))))))
    refine Pu rfl (Ni (hK98 ?_))
    exact WC.ret fun a_ ha_ => hQ (cv_ret1 rfl (.tmp rfl) (by rw [right_node (by first | exact .inl hkt | exact .inr hkt)]) hB ha_)
   | succ m =>
    refine Rg (Pu rfl (Va (dv_N (dx_geq rfl rfl rfl) (by omega)) rfl rfl (Ni (hK97 (WC.condF rfl (WC.skip (hK96 ?_)))))))
    refine Sq fun K99 hK99 => (Sq fun K100 hK100 => ?_)
    obtain ⟨w1, w2, w3, w4⟩ := plain_leaf ‹plainT _ _ _ _ t = true›
    have hnode : nodeJ upB t.er = true := by rw [node_er, w1 rfl, w2 rfl, hkt]; rw [w3 rfl]; rfl
    refine Rg (Pu rfl (Ni (hK100 (WC.block ?_))))
    refine WC.loop (fun (i : Nat) => [(1, .int .i64 (12 - ((m + 1 : Nat) : Int))), (2, .pointer (some ⟨w.heap.size, 0, none⟩)), (6, .int .i64 (i : Int))]) (fun (i : Nat) W => i ≤ t.items.length ∧ (∀ k c, k < i → t.items[k]? = some c → rightJ upB m c.er = true) ∧ Below w.heap.size w W ∧ LL (w.heap.size :: L) W ∧ RdF 1 (w.heap.size :: L) W t.nv (t.names.map eS) ∧ RdF 5 (w.heap.size :: L) W t.iv (t.items.map encT) ∧ RdTs n (w.heap.size :: L) W t.items ∧ Blk W w.heap.size [.int .i64 t.kind, .int .i64 t.num, .string t.text, t.nv, t.iv]) (fun (i : Nat) => t.items.length - i) 0 (by repeat first | exact trivial | exact And.intro rfl trivial | refine And.intro rfl ?_ | refine And.intro (congrArg (fun z : Int => some (Value.int .i64 z)) (by omega)) ?_ | refine And.intro (congrArg (fun z : Bool => some (Value.bool z)) (by first | exact (decide_eq_true (by omega)).symm | exact (decide_eq_false (by omega)).symm)) ?_) ⟨Nat.zero_le _, (fun k c hk => by omega), hB, hL, hnt, hit, hct, k79⟩ ?_
    clear hnt hit hct k79 hB hL
    rintro K101 i W102 ⟨hi, hv, hB, hL, hnt, hit, hct, k79⟩ hK101
    refine Sq fun K103 hK103 => (Sq fun K104 hK104 => (Rg (Pu rfl (Va (dx_fld (o1 := 4) rfl ty_fld_26_4_4 rfl rfl) rfl rfl (Va (dx_load rfl ty_one_24 rfl (k79.cell (k := 4) rfl)) rfl rfl (Va (dx_lenFM rfl ty_slice_24 rfl hit) rfl rfl (Va (dx_lss rfl rfl rfl) rfl rfl ?_)))))))
    refine Ni (hK104 ?_)
    refine WC.cond rfl (fun c105 => ?_) (fun c105 => ?_)
    ·
     replace c105 := dT c105
     refine WC.skip (hK103 (Sq fun K106 hK106 => (WC.block (Sq fun K107 hK107 => (Rg (Va (dx_fld (o1 := 4) rfl ty_fld_26_4_4 rfl rfl) rfl rfl (Va (dx_load rfl ty_one_24 rfl (k79.cell (k := 4) rfl)) rfl rfl ?_)))))))
     refine Pu rfl ?_
     obtain ⟨r108, e109⟩ : ∃ x, t.items[i]? = some x := ⟨_, List.getElem?_eq_getElem (by omega)⟩
     refine Ge (dx_idxF i rfl ty_slice_24 rfl rfl hit (by omega) (at_mapX e109)) rfl rfl ?_
     rintro u110 _ ⟨rfl, p111⟩
     refine Va (dx_loadPN rfl ty_agg_26_5 rfl p111 rfl) rfl rfl (Pu rfl (Va (dx_add (r := 12 - (m : Int)) rfl rfl rfl (by rw [wrap64_id (by omega)]; omega)) rfl rfl ?_))
     refine Ge (dx_cv rfl Try.func42 rfl rfl rfl (ih r108 m W102 _ hL (hct r108 (List.mem_of_getElem? e109)) (hz5 r108 (List.mem_of_getElem? e109)) (by omega))) rfl rfl ?_
     rintro _ W113 ⟨rfl, b112⟩
     replace hnt := hnt.below b112
     replace hit := hit.below b112
     replace hct := hct.below b112
     replace k79 := k79.below b112
     replace hB := below_then hB b112
     replace hL := LL.below hL b112
     refine Va (dx_not rfl rfl) rfl rfl (Ni (hK107 ?_))
     refine WC.cond rfl (fun c114 => ?_) (fun c114 => ?_)
     ·
      replace c114 := bnot_t c114
      refine Sq fun K115 hK115 => (Rg (Pu rfl (Ni (hK115 ?_))))
      exact WC.ret fun a_ ha_ => hQ (cv_ret1 rfl (.tmp rfl) (by rw [right_node (by first | exact .inl hkt | exact .inr hkt)]; show _ = Value.bool (_ && _); rw [er_items, items_f e109 (by first | assumption | simp_all), Bool.and_false]) hB ha_)
     ·
      replace c114 := bnot_f c114
      refine WC.skip (hK106 (Rg (Pu rfl (Va (dx_add (r := (i : Int) + 1) rfl rfl rfl (wrap64_id (by omega))) rfl rfl (Pu rfl (Ni ?_))))))
      exact hK101 (i + 1) ⟨(by omega), (fun k c hk hc_ => by rcases Nat.lt_or_ge k i with hl | hl; exact hv k c hl hc_; obtain rfl : k = i := (by omega); rw [e109] at hc_; cases hc_; first | assumption | simp_all), hB, hL, hnt, hit, hct, k79⟩ (by omega) (by repeat first | exact trivial | exact And.intro rfl trivial | refine And.intro rfl ?_ | refine And.intro (congrArg (fun z : Int => some (Value.int .i64 z)) (by omega)) ?_ | refine And.intro (congrArg (fun z : Bool => some (Value.bool z)) (by first | exact (decide_eq_true (by omega)).symm | exact (decide_eq_false (by omega)).symm)) ?_)
    ·
     replace c105 := dF c105
     refine WC.exit ?_
     refine hK99 (Sq fun K116 hK116 => (Rg (Pu rfl (Ni (hK116 ?_)))))
     exact WC.ret fun a_ ha_ => hQ (cv_ret1 rfl (.tmp rfl) (by rw [right_node (by first | exact .inl hkt | exact .inr hkt)]; show _ = Value.bool (_ && _); rw [hnode, er_items, items_t (fun k c hk hc_ => hv k c (by omega) hc_)]; rfl) hB ha_)
 ·
  refine Rg ?_
  refine Ge (dx_box rfl rfl rfl) rfl rfl ?_
  rintro _ W117 ⟨rfl, k118, b119, z120⟩
  have l121 := hB.size
  replace hnt := hnt.more b119 (Nat.le_refl _)
  replace hit := hit.more b119 (Nat.le_refl _)
  replace hct := hct.more b119 (Nat.le_refl _)
  replace hB := below_then hB b119
  replace hL := LL.more hL z120
  refine Pu rfl (Ni (hK1 (Sq fun K122 hK122 => (Sq fun K123 hK123 => (Rg (Va (dx_fld (o1 := 0) rfl ty_fld_26_0_0 rfl rfl) rfl rfl (Va ((hkt ▸ dx_load rfl ty_one_3 rfl (k118.cell (k := 0) rfl))) rfl rfl ?_)))))))
  refine Ni (hK123 (WC.block (Sq fun K124 hK124 => (Sq fun K125 hK125 => (Rg (Va (dx_eql rfl rfl rfl) rfl rfl (Pu rfl ?_)))))))
  refine Ni (hK125 (WC.condF rfl (Sq fun K126 hK126 => (Rg (Va (dx_eql rfl rfl rfl) rfl rfl (Pu rfl (Ni ?_)))))))
  refine hK126 (WC.condF rfl (Rg (Va (dx_eql rfl rfl rfl) rfl rfl (Pu rfl (Ni (hK124 (WC.condF rfl ?_)))))))
  refine Sq fun K127 hK127 => (Rg (Va (dx_eql rfl rfl rfl) rfl rfl (Pu rfl (Ni (hK127 (WC.condF rfl (Sq fun K128 hK128 => ?_)))))))
  refine Rg (Va (dx_eql rfl rfl rfl) rfl rfl (Pu rfl (Ni (hK128 (WC.condF rfl (Sq fun K129 hK129 => (Rg ?_)))))))
  refine Va (dx_eql rfl rfl rfl) rfl rfl (Pu rfl (Ni (hK129 (WC.condF rfl (Sq fun K130 hK130 => (Rg (Va (dx_eql rfl rfl rfl) rfl rfl ?_)))))))
  refine Pu rfl (Ni (hK130 (WC.condT rfl (Sq fun K131 hK131 => (Sq fun K132 hK132 => (Rg (Va (dx_loadN rfl ty_agg_26_5 rfl k118.range rfl) rfl rfl ?_)))))))
  refine Ge (dx_cv rfl Try.func72 rfl rfl rfl (plainFFTT_v n t W117 _ hL (show RdT (n + 1) (w.heap.size :: L) W117 t from ⟨hnt, hit, hct⟩))) rfl rfl ?_
  rintro _ W134 ⟨rfl, b133⟩
  replace hnt := hnt.below b133
  replace hit := hit.below b133
  replace hct := hct.below b133
  replace k118 := k118.below b133
  replace hB := below_then hB b133
  replace hL := LL.below hL b133
  refine Va (dx_not rfl rfl) rfl rfl (Pu rfl ?_)
  refine WL.split 49 rfl (fun g135 => ?_) (fun g135 => ?_)
  ·
   replace g135 := bnot_t g135
   refine Of rfl (Of rfl (Of rfl (Of rfl (Of rfl (Of rfl (Of rfl (Pu rfl ?_)))))))
   refine Ni (hK132 (WC.condT rfl (Sq fun K136 hK136 => (Rg (Pu rfl (Ni (hK136 ?_)))))))
   exact WC.ret fun a_ ha_ => hQ (cv_ret1 rfl (.tmp rfl) (by rw [right_node (by first | exact .inl hkt | exact .inr hkt)]; cases room with | zero => rfl | succ m => (have hne : nodeJ upB t.er = false := (by rw [node_er]; first | (have hp : plainT _ _ _ _ t = false := (by assumption); unfold plainT at hp; simp_all; done) | (have hlq : ¬ t.names.length = t.items.length := (by omega); simp [hkt, hlq])); show _ = Value.bool (_ && _); rw [hne, Bool.false_and])) hB ha_)
  ·
   replace g135 := bnot_f g135
   refine Va (dx_fld (o1 := 3) rfl ty_fld_26_3_3 rfl rfl) rfl rfl (Va (dx_load rfl ty_one_23 rfl (k118.cell (k := 3) rfl)) rfl rfl (Va (dx_lenFM rfl ty_slice_23 rfl hnt) rfl rfl (Va (dx_fld (o1 := 4) rfl ty_fld_26_4_4 rfl rfl) rfl rfl (Va (dx_load rfl ty_one_24 rfl (k118.cell (k := 4) rfl)) rfl rfl (Va (dx_lenFM rfl ty_slice_24 rfl hit) rfl rfl (Va (dx_neq rfl rfl rfl) rfl rfl (Pu rfl ?_)))))))
   refine Ni (hK132 ?_)
   refine WC.cond rfl (fun c137 => ?_) (fun c137 => ?_)
   ·
    replace c137 := bnot_t c137
    replace c137 := dF c137
    refine Sq fun K138 hK138 => (Rg (Pu rfl (Ni (hK138 ?_))))
    exact WC.ret fun a_ ha_ => hQ (cv_ret1 rfl (.tmp rfl) (by rw [right_node (by first | exact .inl hkt | exact .inr hkt)]; cases room with | zero => rfl | succ m => (have hne : nodeJ upB t.er = false := (by rw [node_er]; first | (have hp : plainT _ _ _ _ t = false := (by assumption); unfold plainT at hp; simp_all; done) | (have hlq : ¬ t.names.length = t.items.length := (by omega); simp [hkt, hlq])); show _ = Value.bool (_ && _); rw [hne, Bool.false_and])) hB ha_)
   ·
    replace c137 := bnot_f c137
    replace c137 := dT c137
    refine WC.skip (hK131 (Sq fun K139 hK139 => (Rg (Pu rfl (Ni (hK139 (WC.block ?_)))))))
    refine WC.loop (fun (i : Nat) => [(1, .int .i64 (12 - (room : Int))), (2, .pointer (some ⟨w.heap.size, 0, none⟩)), (5, .int .i64 (i : Int))]) (fun (i : Nat) W => i ≤ t.names.length ∧ (∀ k a, k < i → t.names[k]? = some a → upB a = true) ∧ (∀ k a b, k + 1 < i → t.names[k]? = some a → t.names[k + 1]? = some b → sless a b = true) ∧ Below w.heap.size w W ∧ LL (w.heap.size :: L) W ∧ RdF 1 (w.heap.size :: L) W t.nv (t.names.map eS) ∧ RdF 5 (w.heap.size :: L) W t.iv (t.items.map encT) ∧ RdTs n (w.heap.size :: L) W t.items ∧ Blk W w.heap.size [.int .i64 t.kind, .int .i64 t.num, .string t.text, t.nv, t.iv]) (fun (i : Nat) => t.names.length - i) 0 (by repeat first | exact trivial | exact And.intro rfl trivial | refine And.intro rfl ?_ | refine And.intro (congrArg (fun z : Int => some (Value.int .i64 z)) (by omega)) ?_ | refine And.intro (congrArg (fun z : Bool => some (Value.bool z)) (by first | exact (decide_eq_true (by omega)).symm | exact (decide_eq_false (by omega)).symm)) ?_) ⟨Nat.zero_le _, (fun k a hk => by omega), (fun k a b hk => by omega), hB, hL, hnt, hit, hct, k118⟩ ?_
    clear hnt hit hct k118 hB hL
    rintro K140 i W141 ⟨hi, hv, hs, hB, hL, hnt, hit, hct, k118⟩ hK140
    refine Sq fun K142 hK142 => (Sq fun K143 hK143 => (Rg (Pu rfl (Va (dx_fld (o1 := 3) rfl ty_fld_26_3_3 rfl rfl) rfl rfl (Va (dx_load rfl ty_one_23 rfl (k118.cell (k := 3) rfl)) rfl rfl (Va (dx_lenFM rfl ty_slice_23 rfl hnt) rfl rfl (Va (dx_lss rfl rfl rfl) rfl rfl ?_)))))))
    refine Ni (hK143 ?_)
    refine WC.cond rfl (fun c144 => ?_) (fun c144 => ?_)
    ·
     replace c144 := dT c144
     refine WC.skip (hK142 (Sq fun K145 hK145 => (WC.block (Sq fun K146 hK146 => ?_))))
     obtain ⟨r147, e148⟩ : ∃ x, t.names[i]? = some x := ⟨_, List.getElem?_eq_getElem (by omega)⟩
     have hsz := hz4 r147 (List.mem_of_getElem? e148)
     obtain ⟨b149, hb149⟩ : ∃ b, b = (!(upB r147)) := ⟨_, rfl⟩
     obtain ⟨b150, hb150⟩ : ∃ b, b = ((!b149) && (decide (0 < (i : Int)))) := ⟨_, rfl⟩
     obtain ⟨r151, e152⟩ : ∃ x, t.names[(i - 1)]? = some x := ⟨_, List.getElem?_eq_getElem (by omega)⟩
     refine WC.drawM 26 [(some 65, .is (.pointer (some ⟨w.heap.size, 3, none⟩))), (some 66, .is (t.nv)), (some 67, .is (.int .i64 (i : Int))), (some 68, .by fun u W => PtR (w.heap.size :: L) W u [.string r147]), (some 69, .is (.string r147)), (some 70, .by fun u W => RdF 1 (w.heap.size :: L) W u ((sb r147).map e8)), (some 71, .is (.bool (upB r147))), (some 72, .is (.bool (!(upB r147)))), (some 73, .is (.bool b149)), (some 74, .is (bif b149 then undef else .int .i64 (i : Int))), (some 75, .is (bif b149 then undef else .bool (decide (0 < (i : Int))))), (some 76, .is (bif b149 then undef else .bool b150)), (some 77, .is (bif b150 then .pointer (some ⟨w.heap.size, 3, none⟩) else undef)), (some 78, .is (bif b150 then t.nv else undef)), (some 79, .is (bif b150 then .int .i64 (i : Int) else undef)), (some 80, .is (bif b150 then .int .i64 ((i : Int) - 1) else undef)), (some 81, .by fun u W => b150 = true → PtR (w.heap.size :: L) W u [.string r151]), (some 82, .is (bif b150 then .string r151 else undef)), (some 83, .is (bif b150 then .pointer (some ⟨w.heap.size, 3, none⟩) else undef)), (some 84, .is (bif b150 then t.nv else undef)), (some 85, .is (bif b150 then .int .i64 (i : Int) else undef)), (some 86, .by fun u W => b150 = true → PtR (w.heap.size :: L) W u [.string r147]), (some 87, .is (bif b150 then .string r147 else undef)), (some 88, .is (bif b150 then .bool (!(sless r151 r147)) else undef)), (some 89, .is (bif b149 then undef else .bool (b150 && (!(sless r151 r147))))), (some 90, .is (.bool (b149 || (b150 && (!(sless r151 r147))))))] [[], [0], [], [1, 2], [3], [4], [5], [6], [7, 6], [8], [9, 8], [10, 8, 8], [11], [12, 11], [11], [14, 11], [13, 15, 11], [16, 11], [11], [18, 11], [11], [19, 20, 11], [21, 11], [17, 22, 11], [11, 23, 8], [8, 24]] (by kernel_rfl) (by kernel_rfl) (by kernel_rfl) (by kernel_rfl) (by kernel_rfl) (by kernel_rfl) (by kernel_rfl) ⟨fun _ _ _ hb h => h.below hb, fun _ _ _ hb h => h.below hb, fun _ _ _ hb h g => (h g).below hb, fun _ _ _ hb h g => (h g).below hb, trivial⟩ ?_ ?_
     ·
      refine Dc (fun Wd hd => ?_) ?_
      ·
       exact Dd (dx_fld (o1 := 3) rfl ty_fld_26_3_3 rfl rfl) rfl
      refine Dc (fun Wd hd => ?_) ?_
      ·
       have k118 := k118.below hd
       exact Dd (dx_load rfl ty_one_23 rfl (k118.cell (k := 3) rfl)) rfl
      refine Dc (fun Wd hd => ?_) ?_
      ·
       exact Dd (dx_move rfl rfl) rfl
      refine Dc (fun Wd hd => ?_) ?_
      ·
       have hnt := hnt.below hd
       exact (dx_idxF i rfl ty_slice_23 rfl rfl hnt (by omega) (at_mapX e148)).mono (fun v W' h => ⟨by rw [← h.1]; exact Below.refl _ _, by rw [← h.1]; exact h.2⟩)
      refine Dc (fun Wd hd => ?_) ?_
      ·
       intro u20_3 p20_3
       exact Dd (dx_loadP rfl ty_one_9 rfl p20_3) rfl
      refine Dc (fun Wd hd => ?_) ?_
      ·
       exact (dx_sb (L := w.heap.size :: L) rfl Try.underlying9 Try.underlying50 Try.underlying5 rfl (LL.below hL hd) (by unfold maxLen; omega)).mono (fun v W' h => ⟨h.2, h.1⟩)
      refine Dc (fun Wd hd => ?_) ?_
      ·
       intro u20_5 p20_5
       exact DR.mono (dx_cv rfl Try.func36 rfl rfl rfl (refUp_v r147 _ Wd _ (LL.below hL hd) p20_5 (by omega))) (fun v W' ⟨h, hb⟩ => ⟨hb, (by rw [h]; exact rfl)⟩)
      refine Dc (fun Wd hd => ?_) ?_
      ·
       exact Dd (dx_not rfl rfl) rfl
      refine Dc (fun Wd hd => ?_) ?_
      ·
       exact DV.dr (dx_move rfl rfl) ⟨Below.refl _ _, by rw [hb149]; rfl⟩
      refine Dc (fun Wd hd => ?_) ?_
      ·
       cases b149
       ·
        exact Dd (dx_move rfl rfl) rfl
       ·
        exact Dd (dv_off rfl) rfl
      refine Dc (fun Wd hd => ?_) ?_
      ·
       cases b149
       ·
        exact Dd (dx_gtr rfl rfl rfl) rfl
       ·
        exact Dd (dv_off rfl) rfl
      refine Dc (fun Wd hd => ?_) ?_
      ·
       cases b149
       ·
        exact DV.dr (dx_move rfl rfl) ⟨Below.refl _ _, by rw [hb150]; rfl⟩
       ·
        exact DV.dr (dv_off rfl) ⟨Below.refl _ _, by rw [hb150]; rfl⟩
      refine Dc (fun Wd hd => ?_) ?_
      ·
       cases b149
       ·
        cases b150
        ·
         exact Dd (dv_off rfl) rfl
        ·
         exact Dd (dx_fld (o1 := 3) rfl ty_fld_26_3_3 rfl rfl) rfl
       ·
        cases b150
        ·
         exact Dd (dv_off rfl) rfl
        ·
         exact absurd hb150 (by simp)
      refine Dc (fun Wd hd => ?_) ?_
      ·
       cases b149
       ·
        cases b150
        ·
         exact Dd (dv_off rfl) rfl
        ·
         have k118 := k118.below hd
         exact Dd (dx_load rfl ty_one_23 rfl (k118.cell (k := 3) rfl)) rfl
       ·
        cases b150
        ·
         exact Dd (dv_off rfl) rfl
        ·
         exact absurd hb150 (by simp)
      refine Dc (fun Wd hd => ?_) ?_
      ·
       cases b149
       ·
        cases b150
        ·
         exact Dd (dv_off rfl) rfl
        ·
         exact Dd (dx_move rfl rfl) rfl
       ·
        cases b150
        ·
         exact Dd (dv_off rfl) rfl
        ·
         exact absurd hb150 (by simp)
      refine Dc (fun Wd hd => ?_) ?_
      ·
       cases b149
       ·
        cases b150
        ·
         exact Dd (dv_off rfl) rfl
        ·
         exact Dd (dx_sub (r := (i : Int) - 1) rfl rfl rfl (wrap64_id (by omega))) rfl
       ·
        cases b150
        ·
         exact Dd (dv_off rfl) rfl
        ·
         exact absurd hb150 (by simp)
      refine Dc (fun Wd hd => ?_) ?_
      ·
       cases b149
       ·
        cases b150
        ·
         exact DV.dr (dv_off rfl) ⟨Below.refl _ _, fun h => by cases h⟩
        ·
         have hnt := hnt.below hd
         exact (dx_idxF (i - 1) rfl ty_slice_23 rfl rfl hnt (by first | omega | (have hq_ := of_decide_eq_true hb150.symm; omega)) (at_mapX e152)).mono (fun v W' h => ⟨by rw [← h.1]; exact Below.refl _ _, fun _ => by rw [← h.1]; exact h.2⟩)
       ·
        cases b150
        ·
         exact DV.dr (dv_off rfl) ⟨Below.refl _ _, fun h => by cases h⟩
        ·
         exact absurd hb150 (by simp)
      refine Dc (fun Wd hd => ?_) ?_
      ·
       intro u20_16 p20_16
       cases b149
       ·
        cases b150
        ·
         exact Dd (dv_off rfl) rfl
        ·
         replace p20_16 := p20_16 rfl
         exact Dd (dx_loadP rfl ty_one_9 rfl p20_16) rfl
       ·
        cases b150
        ·
         exact Dd (dv_off rfl) rfl
        ·
         replace p20_16 := p20_16 rfl
         exact absurd hb150 (by simp)
      refine Dc (fun Wd hd => ?_) ?_
      ·
       cases b149
       ·
        cases b150
        ·
         exact Dd (dv_off rfl) rfl
        ·
         exact Dd (dx_fld (o1 := 3) rfl ty_fld_26_3_3 rfl rfl) rfl
       ·
        cases b150
        ·
         exact Dd (dv_off rfl) rfl
        ·
         exact absurd hb150 (by simp)
      refine Dc (fun Wd hd => ?_) ?_
      ·
       cases b149
       ·
        cases b150
        ·
         exact Dd (dv_off rfl) rfl
        ·
         have k118 := k118.below hd
         exact Dd (dx_load rfl ty_one_23 rfl (k118.cell (k := 3) rfl)) rfl
       ·
        cases b150
        ·
         exact Dd (dv_off rfl) rfl
        ·
         exact absurd hb150 (by simp)
      refine Dc (fun Wd hd => ?_) ?_
      ·
       cases b149
       ·
        cases b150
        ·
         exact Dd (dv_off rfl) rfl
        ·
         exact Dd (dx_move rfl rfl) rfl
       ·
        cases b150
        ·
         exact Dd (dv_off rfl) rfl
        ·
         exact absurd hb150 (by simp)
      refine Dc (fun Wd hd => ?_) ?_
      ·
       cases b149
       ·
        cases b150
        ·
         exact DV.dr (dv_off rfl) ⟨Below.refl _ _, fun h => by cases h⟩
        ·
         have hnt := hnt.below hd
         exact (dx_idxF i rfl ty_slice_23 rfl rfl hnt (by first | omega | (have hq_ := of_decide_eq_true hb150.symm; omega)) (at_mapX e148)).mono (fun v W' h => ⟨by rw [← h.1]; exact Below.refl _ _, fun _ => by rw [← h.1]; exact h.2⟩)
       ·
        cases b150
        ·
         exact DV.dr (dv_off rfl) ⟨Below.refl _ _, fun h => by cases h⟩
        ·
         exact absurd hb150 (by simp)
      refine Dc (fun Wd hd => ?_) ?_
      ·
       intro u20_21 p20_21
       cases b149
       ·
        cases b150
        ·
         exact Dd (dv_off rfl) rfl
        ·
         replace p20_21 := p20_21 rfl
         exact Dd (dx_loadP rfl ty_one_9 rfl p20_21) rfl
       ·
        cases b150
        ·
         exact Dd (dv_off rfl) rfl
        ·
         replace p20_21 := p20_21 rfl
         exact absurd hb150 (by simp)
      refine Dc (fun Wd hd => ?_) ?_
      ·
       cases b149
       ·
        cases b150
        ·
         exact Dd (dv_off rfl) rfl
        ·
         exact Dd (dx_geqT rfl rfl rfl) rfl
       ·
        cases b150
        ·
         exact Dd (dv_off rfl) rfl
        ·
         exact absurd hb150 (by simp)
      refine Dc (fun Wd hd => ?_) ?_
      ·
       cases b149
       ·
        cases b150
        ·
         exact Dd (dx_pick rfl rfl rfl) rfl
        ·
         exact Dd (dx_pick rfl rfl rfl) rfl
       ·
        cases b150
        ·
         exact Dd (dv_off rfl) rfl
        ·
         exact absurd hb150 (by simp)
      refine Dc (fun Wd hd => ?_) ?_
      ·
       cases b149
       ·
        exact Dd (dx_pick rfl rfl rfl) rfl
       ·
        exact Dd (dx_pick rfl rfl rfl) rfl
      exact trivial
     ·
      intro W153 b154
      intro u20_3 p20_3
      intro u20_5 p20_5
      intro _ _
      intro _ _
      replace hnt := hnt.below b154
      replace hit := hit.below b154
      replace hct := hct.below b154
      replace k118 := k118.below b154
      replace hB := below_then hB b154
      replace hL := LL.below hL b154
      refine Ni (hK146 ?_)
      refine WC.cond rfl (fun c155 => ?_) (fun c155 => ?_)
      ·
       refine Sq fun K156 hK156 => (Rg (Pu rfl (Ni (hK156 ?_))))
       exact WC.ret fun a_ ha_ => hQ (cv_ret1 rfl (.tmp rfl) (by rw [right_node (by first | exact .inl hkt | exact .inr hkt)]; cases room with | zero => rfl | succ m => (show _ = Value.bool (_ && _); rw [node_er, show (risesJ t.names && t.names.all upB) = false from (by cases hu_ : upB r147 <;> first | exact names_f1 e148 hu_ | (have hi0 : 0 < i := (by rcases Nat.eq_zero_or_pos i with h0_ | h0_; exfalso; simp_all; exact h0_); exact names_f2 hi0 e152 e148 (by cases hs_ : sless r151 r147; rfl; exfalso; simp_all)))]; simp [hkt])) hB ha_)
      ·
       obtain ⟨g157, g158⟩ := bor_f c155
       replace g157 := bvar_f g157
       refine WC.skip (hK145 (Rg (Pu rfl (Va (dx_add (r := (i : Int) + 1) rfl rfl rfl (wrap64_id (by omega))) rfl rfl (Pu rfl (Ni ?_))))))
       exact hK140 (i + 1) ⟨(by omega), (fun k a hk ha => by rcases Nat.lt_or_ge k i with hl | hl; exact hv k a hl ha; obtain rfl : k = i := (by omega); rw [e148] at ha; cases ha; first | assumption | simp_all), (fun k a b hk ha hb => by rcases Nat.lt_or_ge (k + 1) i with hl | hl; exact hs k a b hl ha hb; obtain rfl : k = i - 1 := (by omega); rw [e152] at ha; rw [show i - 1 + 1 = i by omega, e148] at hb; cases ha; cases hb; cases hs_ : sless r151 r147 with | true => rfl | false => exfalso; have hi0 : (0 : Int) < (i : Int) := (by omega); simp_all), hB, hL, hnt, hit, hct, k118⟩ (by omega) (by repeat first | exact trivial | exact And.intro rfl trivial | refine And.intro rfl ?_ | refine And.intro (congrArg (fun z : Int => some (Value.int .i64 z)) (by omega)) ?_ | refine And.intro (congrArg (fun z : Bool => some (Value.bool z)) (by first | exact (decide_eq_true (by omega)).symm | exact (decide_eq_false (by omega)).symm)) ?_)
    ·
     replace c144 := dF c144
     refine WC.exit ?_
     refine hK122 (Sq fun K159 hK159 => (Sq fun K160 hK160 => ?_))
     cases room with
     | zero =>
      refine Rg (Pu rfl (Va (dv_T (dx_geq rfl rfl rfl) (by omega)) rfl rfl (Ni (hK160 (WC.condT rfl (Sq fun K161 hK161 => (Rg ?_)))))))
      refine Pu rfl (Ni (hK161 ?_))
      exact WC.ret fun a_ ha_ => hQ (cv_ret1 rfl (.tmp rfl) (by rw [right_node (by first | exact .inl hkt | exact .inr hkt)]) hB ha_)
     | succ m =>
      refine Rg (Pu rfl (Va (dv_N (dx_geq rfl rfl rfl) (by omega)) rfl rfl (Ni (hK160 (WC.condF rfl (WC.skip (hK159 ?_)))))))
      refine Sq fun K162 hK162 => (Sq fun K163 hK163 => ?_)
      obtain ⟨w1, w2, w3, w4⟩ := plain_leaf ‹plainT _ _ _ _ t = true›
      have hnm := names_t (up := upB) (l := t.names) (fun k a hk ha => hv k a (by omega) ha) (fun k a b hk ha hb => hs k a b (by omega) ha hb)
      have hln : t.names.length = t.items.length := by omega
      have hnode : nodeJ upB t.er = true := by rw [node_er, w1 rfl, w2 rfl, hkt]; rw [hnm, decide_eq_true hln]; rfl
      refine Rg (Pu rfl (Ni (hK163 (WC.block ?_))))
      refine WC.loop (fun (i : Nat) => [(1, .int .i64 (12 - ((m + 1 : Nat) : Int))), (2, .pointer (some ⟨w.heap.size, 0, none⟩)), (6, .int .i64 (i : Int))]) (fun (i : Nat) W => i ≤ t.items.length ∧ (∀ k c, k < i → t.items[k]? = some c → rightJ upB m c.er = true) ∧ Below w.heap.size w W ∧ LL (w.heap.size :: L) W ∧ RdF 1 (w.heap.size :: L) W t.nv (t.names.map eS) ∧ RdF 5 (w.heap.size :: L) W t.iv (t.items.map encT) ∧ RdTs n (w.heap.size :: L) W t.items ∧ Blk W w.heap.size [.int .i64 t.kind, .int .i64 t.num, .string t.text, t.nv, t.iv]) (fun (i : Nat) => t.items.length - i) 0 (by repeat first | exact trivial | exact And.intro rfl trivial | refine And.intro rfl ?_ | refine And.intro (congrArg (fun z : Int => some (Value.int .i64 z)) (by omega)) ?_ | refine And.intro (congrArg (fun z : Bool => some (Value.bool z)) (by first | exact (decide_eq_true (by omega)).symm | exact (decide_eq_false (by omega)).symm)) ?_) ⟨Nat.zero_le _, (fun k c hk => by omega), hB, hL, hnt, hit, hct, k118⟩ ?_
      clear hnt hit hct k118 hB hL
      rintro K164 i W165 ⟨hi, hv, hB, hL, hnt, hit, hct, k118⟩ hK164
      refine Sq fun K166 hK166 => (Sq fun K167 hK167 => (Rg (Pu rfl (Va (dx_fld (o1 := 4) rfl ty_fld_26_4_4 rfl rfl) rfl rfl (Va (dx_load rfl ty_one_24 rfl (k118.cell (k := 4) rfl)) rfl rfl (Va (dx_lenFM rfl ty_slice_24 rfl hit) rfl rfl (Va (dx_lss rfl rfl rfl) rfl rfl ?_)))))))
      refine Ni (hK167 ?_)
      refine WC.cond rfl (fun c168 => ?_) (fun c168 => ?_)
      ·
       replace c168 := dT c168
       refine WC.skip (hK166 (Sq fun K169 hK169 => (WC.block (Sq fun K170 hK170 => (Rg (Va (dx_fld (o1 := 4) rfl ty_fld_26_4_4 rfl rfl) rfl rfl (Va (dx_load rfl ty_one_24 rfl (k118.cell (k := 4) rfl)) rfl rfl ?_)))))))
       refine Pu rfl ?_
       obtain ⟨r171, e172⟩ : ∃ x, t.items[i]? = some x := ⟨_, List.getElem?_eq_getElem (by omega)⟩
       refine Ge (dx_idxF i rfl ty_slice_24 rfl rfl hit (by omega) (at_mapX e172)) rfl rfl ?_
       rintro u173 _ ⟨rfl, p174⟩
       refine Va (dx_loadPN rfl ty_agg_26_5 rfl p174 rfl) rfl rfl (Pu rfl (Va (dx_add (r := 12 - (m : Int)) rfl rfl rfl (by rw [wrap64_id (by omega)]; omega)) rfl rfl ?_))
       refine Ge (dx_cv rfl Try.func42 rfl rfl rfl (ih r171 m W165 _ hL (hct r171 (List.mem_of_getElem? e172)) (hz5 r171 (List.mem_of_getElem? e172)) (by omega))) rfl rfl ?_
       rintro _ W176 ⟨rfl, b175⟩
       replace hnt := hnt.below b175
       replace hit := hit.below b175
       replace hct := hct.below b175
       replace k118 := k118.below b175
       replace hB := below_then hB b175
       replace hL := LL.below hL b175
       refine Va (dx_not rfl rfl) rfl rfl (Ni (hK170 ?_))
       refine WC.cond rfl (fun c177 => ?_) (fun c177 => ?_)
       ·
        replace c177 := bnot_t c177
        refine Sq fun K178 hK178 => (Rg (Pu rfl (Ni (hK178 ?_))))
        exact WC.ret fun a_ ha_ => hQ (cv_ret1 rfl (.tmp rfl) (by rw [right_node (by first | exact .inl hkt | exact .inr hkt)]; show _ = Value.bool (_ && _); rw [er_items, items_f e172 (by first | assumption | simp_all), Bool.and_false]) hB ha_)
       ·
        replace c177 := bnot_f c177
        refine WC.skip (hK169 (Rg (Pu rfl (Va (dx_add (r := (i : Int) + 1) rfl rfl rfl (wrap64_id (by omega))) rfl rfl (Pu rfl (Ni ?_))))))
        exact hK164 (i + 1) ⟨(by omega), (fun k c hk hc_ => by rcases Nat.lt_or_ge k i with hl | hl; exact hv k c hl hc_; obtain rfl : k = i := (by omega); rw [e172] at hc_; cases hc_; first | assumption | simp_all), hB, hL, hnt, hit, hct, k118⟩ (by omega) (by repeat first | exact trivial | exact And.intro rfl trivial | refine And.intro rfl ?_ | refine And.intro (congrArg (fun z : Int => some (Value.int .i64 z)) (by omega)) ?_ | refine And.intro (congrArg (fun z : Bool => some (Value.bool z)) (by first | exact (decide_eq_true (by omega)).symm | exact (decide_eq_false (by omega)).symm)) ?_)
      ·
       replace c168 := dF c168
       refine WC.exit ?_
       refine hK162 (Sq fun K179 hK179 => (Rg (Pu rfl (Ni (hK179 ?_)))))
       exact WC.ret fun a_ ha_ => hQ (cv_ret1 rfl (.tmp rfl) (by rw [right_node (by first | exact .inl hkt | exact .inr hkt)]; show _ = Value.bool (_ && _); rw [hnode, er_items, items_t (fun k c hk hc_ => hv k c (by omega) hc_)]; rfl) hB ha_)
 ·
  refine Rg ?_
  refine Ge (dx_box rfl rfl rfl) rfl rfl ?_
  rintro _ W180 ⟨rfl, k181, b182, z183⟩
  have l184 := hB.size
  replace hB := below_then hB b182
  refine Pu rfl (Ni (hK1 (Sq fun K185 hK185 => (Sq fun K186 hK186 => (Rg (Va (dx_fld (o1 := 0) rfl ty_fld_26_0_0 rfl rfl) rfl rfl (Va (dx_load rfl ty_one_3 rfl (k181.cell (k := 0) rfl)) rfl rfl ?_)))))))
  refine Ni (hK186 (WC.block (Sq fun K187 hK187 => (Sq fun K188 hK188 => (Rg (Va (dv_N (dx_eql rfl rfl rfl) (by omega)) rfl rfl (Pu rfl ?_)))))))
  refine Ni (hK188 (WC.condF rfl (Sq fun K189 hK189 => (Rg (Va (dv_N (dx_eql rfl rfl rfl) (by omega)) rfl rfl (Pu rfl (Ni ?_)))))))
  refine hK189 (WC.condF rfl (Rg (Va (dv_N (dx_eql rfl rfl rfl) (by omega)) rfl rfl (Pu rfl (Ni (hK187 (WC.condF rfl ?_)))))))
  refine Sq fun K190 hK190 => (Rg (Va (dv_N (dx_eql rfl rfl rfl) (by omega)) rfl rfl (Pu rfl (Ni (hK190 (WC.condF rfl (Sq fun K191 hK191 => ?_)))))))
  refine Rg (Va (dv_N (dx_eql rfl rfl rfl) (by omega)) rfl rfl (Pu rfl (Ni (hK191 (WC.condF rfl (Sq fun K192 hK192 => (Rg ?_)))))))
  refine Va (dv_N (dx_eql rfl rfl rfl) (by omega)) rfl rfl (Pu rfl (Ni (hK192 (WC.condF rfl (Sq fun K193 hK193 => (Rg (Va (dv_N (dx_eql rfl rfl rfl) (by omega)) rfl rfl ?_)))))))
  refine Pu rfl (Ni (hK193 (WC.condF rfl (Sq fun K194 hK194 => (Rg (Pu rfl (Ni ?_)))))))
  refine hK194 ?_
  exact WC.ret fun a_ ha_ => hQ (cv_ret1 rfl (.tmp rfl) (by rw [right_leaf (by first | (rw [hkt]; decide) | omega) (by first | (rw [hkt]; decide) | omega), leaf_er]; (try unfold plainT at *); by_cases a1 : t.num = 0 <;> by_cases a2 : t.text = ⟨#[]⟩ <;> by_cases a3 : t.names = [] <;> by_cases a4 : t.items = [] <;> simp_all <;> omega) hB ha_)

theorem refRight_all : ∀ n, RefRightAt n
 | 0 => fun t _ _ _ _ h => h.elim
 | n + 1 => fun t room w L hL ht hz hr => refRight_step n (refRight_all n) t room w L hL ht hz hr
set_option maxHeartbeats 1000000 in
theorem rRight_v (n : Nat) (t : Tr) (w : World) (L : List Nat) (hL : LL L w) (ht : RdT (n + 1) L w t)  (hz : SzT 1000000 (n + 1) t) : CV Try.prog 19 [.agg #[.int .i64 t.kind, .int .i64 t.num, .string t.text, t.nv, t.iv]] w fun v W => v = .bool (rightJ upB 12 t.er) := by
 refine cv_enter (N := 5) (f := [(0, .agg #[.int .i64 t.kind, .int .i64 t.num, .string t.text, t.nv, t.iv])]) Try.func19 rfl rfl rfl rfl fun Q hQ hE => ?_
 have hB := Below.refl w.heap.size w
 refine Sq fun K1 hK1 => ?_
 obtain ⟨hnt, hit, hct⟩ := ht
 replace hct : RdTs n (L) w t.items := hct
 refine Rg ?_
 refine Ge (dx_box rfl rfl rfl) rfl rfl ?_
 rintro _ W2 ⟨rfl, k3, b4, z5⟩
 have l6 := hB.size
 replace hnt := hnt.more b4 (Nat.le_refl _)
 replace hit := hit.more b4 (Nat.le_refl _)
 replace hct := hct.more b4 (Nat.le_refl _)
 replace hB := below_then hB b4
 replace hL := LL.more hL z5
 refine Pu rfl (Ni (hK1 (Sq fun K7 hK7 => (Rg (Va (dx_loadN rfl ty_agg_26_5 rfl k3.range rfl) rfl rfl ?_)))))
 refine Ge (dx_cv rfl Try.func42 rfl rfl rfl ((show CV _ _ [_, .int .i64 0] _ _ from refRight_all (n + 1) t 12 W2 _ hL (show RdT (n + 1) (w.heap.size :: L) W2 t from ⟨hnt, hit, hct⟩) hz (by decide)))) rfl rfl ?_
 rintro _ W9 ⟨rfl, b8⟩
 replace hB := below_then hB b8
 refine Pu rfl (Ni (hK7 ?_))
 exact WC.ret fun a_ ha_ => hQ (cv_ret1 rfl (.tmp rfl) rfl hB ha_)

abbrev RefDeepAt (n : Nat) : Prop := ∀ (t : Tr) (most : Nat) (w : World) (L : List Nat), LL L w → RdT n L w t → most ≤ 100 → CV Try.prog 44 [.agg #[.int .i64 t.kind, .int .i64 t.num, .string t.text, t.nv, t.iv], .int .i64 (most : Int)] w fun v W => v = .int .i64 (deepJ most t.er : Nat)
set_option maxHeartbeats 1000000 in
theorem refDeep_step (n : Nat) (ih : RefDeepAt n) (t : Tr) (most : Nat) (w : World) (L : List Nat) (hL : LL L w) (ht : RdT (n + 1) L w t)  (hrm : most ≤ 100) : CV Try.prog 44 [.agg #[.int .i64 t.kind, .int .i64 t.num, .string t.text, t.nv, t.iv], .int .i64 (most : Int)] w fun v W => v = .int .i64 (deepJ most t.er : Nat) := by
 refine cv_enter (N := 38) (f := [(0, .agg #[.int .i64 t.kind, .int .i64 t.num, .string t.text, t.nv, t.iv]), (1, .int .i64 (most : Int))]) Try.func44 rfl rfl rfl rfl fun Q hQ hE => ?_
 have hB := Below.refl w.heap.size w
 refine Sq fun K1 hK1 => ?_
 obtain ⟨hnt, hit, hct⟩ := ht
 replace hct : RdTs n (L) w t.items := hct
 have hil0 := hit.len
 rw [List.length_map] at hil0
 unfold maxLen at hil0
 rcases (show t.kind = 5 ∨ t.kind = 6 ∨ (t.kind ≠ 5 ∧ t.kind ≠ 6) by omega) with hkt | hkt | hkt
 ·
  refine Rg ?_
  refine Ge (dx_box rfl rfl rfl) rfl rfl ?_
  rintro _ W2 ⟨rfl, k3, b4, z5⟩
  have l6 := hB.size
  replace hnt := hnt.more b4 (Nat.le_refl _)
  replace hit := hit.more b4 (Nat.le_refl _)
  replace hct := hct.more b4 (Nat.le_refl _)
  replace hB := below_then hB b4
  replace hL := LL.more hL z5
  refine Pu rfl (Ni (hK1 (Sq fun K7 hK7 => (Sq fun K8 hK8 => ?_))))
  cases most with
  | zero =>
   refine Rg (Va (dx_fld (o1 := 0) rfl ty_fld_26_0_0 rfl rfl) rfl rfl (Va ((hkt ▸ dx_load rfl ty_one_3 rfl (k3.cell (k := 0) rfl))) rfl rfl (Va (dx_neq rfl rfl rfl) rfl rfl (Pu rfl (Of rfl (Of rfl (Of rfl ?_)))))))
   refine Pu rfl (Pu rfl (Pu rfl (Va (dv_T (dx_eql rfl rfl rfl) (by omega)) rfl rfl (Pu rfl (Ni (hK8 (WC.condT rfl ?_)))))))
   refine Sq fun K9 hK9 => (Rg (Pu rfl (Ni (hK9 ?_))))
   exact WC.ret fun a_ ha_ => hQ (cv_ret1 rfl (.tmp rfl) rfl hB ha_)
  | succ m =>
   refine Rg (Va (dx_fld (o1 := 0) rfl ty_fld_26_0_0 rfl rfl) rfl rfl (Va ((hkt ▸ dx_load rfl ty_one_3 rfl (k3.cell (k := 0) rfl))) rfl rfl (Va (dx_neq rfl rfl rfl) rfl rfl (Pu rfl (Of rfl (Of rfl (Of rfl ?_)))))))
   refine Pu rfl (Pu rfl (Pu rfl (Va (dv_N (dx_eql rfl rfl rfl) (by omega)) rfl rfl (Pu rfl (Ni (hK8 (WC.condF rfl ?_)))))))
   refine WC.skip (hK7 (Sq fun K10 hK10 => (Rg (Pu rfl (Ni (hK10 (Sq fun K11 hK11 => ?_)))))))
   refine Sq fun K12 hK12 => (Rg (Pu rfl (Ni (hK12 (WC.block ?_)))))
   refine WC.loop2 (fun (i : Nat) (b : Nat) => [(1, .int .i64 ((m + 1 : Nat) : Int)), (2, .pointer (some ⟨w.heap.size, 0, none⟩)), (6, .int .i64 (i : Int)), (5, .int .i64 (b : Int))]) (fun (i : Nat) (b : Nat) W => i ≤ t.items.length ∧ b = maxJ (deepJ m) ((t.items.take i).map Tr.er) ∧ b ≤ m ∧ Below w.heap.size w W ∧ LL (w.heap.size :: L) W ∧ RdF 1 (w.heap.size :: L) W t.nv (t.names.map eS) ∧ RdF 5 (w.heap.size :: L) W t.iv (t.items.map encT) ∧ RdTs n (w.heap.size :: L) W t.items ∧ Blk W w.heap.size [.int .i64 t.kind, .int .i64 t.num, .string t.text, t.nv, t.iv]) (fun (i : Nat) (b : Nat) => t.items.length - i) 0 0 (by repeat first | exact trivial | exact And.intro rfl trivial | refine And.intro rfl ?_ | refine And.intro (congrArg (fun z : Int => some (Value.int .i64 z)) (by omega)) ?_ | refine And.intro (congrArg (fun z : Bool => some (Value.bool z)) (by first | exact (decide_eq_true (by omega)).symm | exact (decide_eq_false (by omega)).symm)) ?_) ⟨Nat.zero_le _, rfl, Nat.zero_le _, hB, hL, hnt, hit, hct, k3⟩ ?_
   clear hnt hit hct k3 hB hL
   rintro K13 i b W14 ⟨hi, hb, hbm, hB, hL, hnt, hit, hct, k3⟩ hK13
   refine Sq fun K15 hK15 => (Sq fun K16 hK16 => (Rg (Pu rfl (Va (dx_fld (o1 := 4) rfl ty_fld_26_4_4 rfl rfl) rfl rfl (Va (dx_load rfl ty_one_24 rfl (k3.cell (k := 4) rfl)) rfl rfl (Va (dx_lenFM rfl ty_slice_24 rfl hit) rfl rfl (Va (dx_lss rfl rfl rfl) rfl rfl ?_)))))))
   refine Ni (hK16 ?_)
   refine WC.cond rfl (fun c17 => ?_) (fun c17 => ?_)
   ·
    replace c17 := dT c17
    refine WC.skip (hK15 (Sq fun K18 hK18 => (WC.block (Rg (Pu rfl (Va (dx_fld (o1 := 4) rfl ty_fld_26_4_4 rfl rfl) rfl rfl (Va (dx_load rfl ty_one_24 rfl (k3.cell (k := 4) rfl)) rfl rfl ?_)))))))
    refine Pu rfl ?_
    obtain ⟨r19, e20⟩ : ∃ x, t.items[i]? = some x := ⟨_, List.getElem?_eq_getElem (by omega)⟩
    refine Ge (dx_idxF i rfl ty_slice_24 rfl rfl hit (by omega) (at_mapX e20)) rfl rfl ?_
    rintro u21 _ ⟨rfl, p22⟩
    refine Va (dx_loadPN rfl ty_agg_26_5 rfl p22 rfl) rfl rfl (Pu rfl (Va (dx_sub (r := (m : Int)) rfl rfl rfl (by rw [wrap64_id (by omega)]; omega)) rfl rfl ?_))
    have hdl := deepJ_le m r19.er
    refine Ge (dx_cv rfl Try.func44 rfl rfl rfl (ih r19 m W14 _ hL (hct r19 (List.mem_of_getElem? e20)) (by omega))) rfl rfl ?_
    rintro _ W24 ⟨rfl, b23⟩
    replace hnt := hnt.below b23
    replace hit := hit.below b23
    replace hct := hct.below b23
    replace k3 := k3.below b23
    replace hB := below_then hB b23
    replace hL := LL.below hL b23
    refine Va (dx_max rfl rfl rfl) rfl rfl (Pu rfl (Ni (hK18 (Rg (Pu rfl (Va (dx_add (r := (i : Int) + 1) rfl rfl rfl (wrap64_id (by omega))) rfl rfl (Pu rfl ?_)))))))
    refine Ni ?_
    have hdl := deepJ_le m r19.er
    exact hK13 (i + 1) (max b (deepJ m r19.er)) ⟨(by omega), (by rw [maxJ_step e20, ← hb]), (by omega), hB, hL, hnt, hit, hct, k3⟩ (by omega) (by repeat first | exact trivial | exact And.intro rfl trivial | refine And.intro rfl ?_ | refine And.intro (congrArg (fun z : Int => some (Value.int .i64 z)) (by omega)) ?_ | refine And.intro (congrArg (fun z : Bool => some (Value.bool z)) (by first | exact (decide_eq_true (by omega)).symm | exact (decide_eq_false (by omega)).symm)) ?_)
   ·
    replace c17 := dF c17
    refine WC.exit ?_
    refine hK11 (Sq fun K25 hK25 => (Rg (Pu rfl (Va (dx_add (r := (b : Int) + 1) rfl rfl rfl (wrap64_id (by omega))) rfl rfl (Pu rfl (Ni (hK25 ?_)))))))
    exact WC.ret fun a_ ha_ => hQ (cv_ret1 rfl (.tmp rfl) (by rw [deep_node (by first | exact .inl hkt | exact .inr hkt)]; have e4 : t.items.take i = t.items := List.take_of_length_le (by omega); rw [e4] at hb; exact congrArg (Value.int .i64) (by omega)) hB ha_)
 ·
  refine Rg ?_
  refine Ge (dx_box rfl rfl rfl) rfl rfl ?_
  rintro _ W26 ⟨rfl, k27, b28, z29⟩
  have l30 := hB.size
  replace hnt := hnt.more b28 (Nat.le_refl _)
  replace hit := hit.more b28 (Nat.le_refl _)
  replace hct := hct.more b28 (Nat.le_refl _)
  replace hB := below_then hB b28
  replace hL := LL.more hL z29
  refine Pu rfl (Ni (hK1 (Sq fun K31 hK31 => (Sq fun K32 hK32 => ?_))))
  cases most with
  | zero =>
   refine Rg (Va (dx_fld (o1 := 0) rfl ty_fld_26_0_0 rfl rfl) rfl rfl (Va ((hkt ▸ dx_load rfl ty_one_3 rfl (k27.cell (k := 0) rfl))) rfl rfl (Va (dx_neq rfl rfl rfl) rfl rfl (Pu rfl (Va (dx_fld (o1 := 0) rfl ty_fld_26_0_0 rfl rfl) rfl rfl (Va ((hkt ▸ dx_load rfl ty_one_3 rfl (k27.cell (k := 0) rfl))) rfl rfl (Va (dx_neq rfl rfl rfl) rfl rfl ?_)))))))
   refine Pu rfl (Pu rfl (Pu rfl (Va (dv_T (dx_eql rfl rfl rfl) (by omega)) rfl rfl (Pu rfl (Ni (hK32 (WC.condT rfl ?_)))))))
   refine Sq fun K33 hK33 => (Rg (Pu rfl (Ni (hK33 ?_))))
   exact WC.ret fun a_ ha_ => hQ (cv_ret1 rfl (.tmp rfl) rfl hB ha_)
  | succ m =>
   refine Rg (Va (dx_fld (o1 := 0) rfl ty_fld_26_0_0 rfl rfl) rfl rfl (Va ((hkt ▸ dx_load rfl ty_one_3 rfl (k27.cell (k := 0) rfl))) rfl rfl (Va (dx_neq rfl rfl rfl) rfl rfl (Pu rfl (Va (dx_fld (o1 := 0) rfl ty_fld_26_0_0 rfl rfl) rfl rfl (Va ((hkt ▸ dx_load rfl ty_one_3 rfl (k27.cell (k := 0) rfl))) rfl rfl (Va (dx_neq rfl rfl rfl) rfl rfl ?_)))))))
   refine Pu rfl (Pu rfl (Pu rfl (Va (dv_N (dx_eql rfl rfl rfl) (by omega)) rfl rfl (Pu rfl (Ni (hK32 (WC.condF rfl ?_)))))))
   refine WC.skip (hK31 (Sq fun K34 hK34 => (Rg (Pu rfl (Ni (hK34 (Sq fun K35 hK35 => ?_)))))))
   refine Sq fun K36 hK36 => (Rg (Pu rfl (Ni (hK36 (WC.block ?_)))))
   refine WC.loop2 (fun (i : Nat) (b : Nat) => [(1, .int .i64 ((m + 1 : Nat) : Int)), (2, .pointer (some ⟨w.heap.size, 0, none⟩)), (6, .int .i64 (i : Int)), (5, .int .i64 (b : Int))]) (fun (i : Nat) (b : Nat) W => i ≤ t.items.length ∧ b = maxJ (deepJ m) ((t.items.take i).map Tr.er) ∧ b ≤ m ∧ Below w.heap.size w W ∧ LL (w.heap.size :: L) W ∧ RdF 1 (w.heap.size :: L) W t.nv (t.names.map eS) ∧ RdF 5 (w.heap.size :: L) W t.iv (t.items.map encT) ∧ RdTs n (w.heap.size :: L) W t.items ∧ Blk W w.heap.size [.int .i64 t.kind, .int .i64 t.num, .string t.text, t.nv, t.iv]) (fun (i : Nat) (b : Nat) => t.items.length - i) 0 0 (by repeat first | exact trivial | exact And.intro rfl trivial | refine And.intro rfl ?_ | refine And.intro (congrArg (fun z : Int => some (Value.int .i64 z)) (by omega)) ?_ | refine And.intro (congrArg (fun z : Bool => some (Value.bool z)) (by first | exact (decide_eq_true (by omega)).symm | exact (decide_eq_false (by omega)).symm)) ?_) ⟨Nat.zero_le _, rfl, Nat.zero_le _, hB, hL, hnt, hit, hct, k27⟩ ?_
   clear hnt hit hct k27 hB hL
   rintro K37 i b W38 ⟨hi, hb, hbm, hB, hL, hnt, hit, hct, k27⟩ hK37
   refine Sq fun K39 hK39 => (Sq fun K40 hK40 => (Rg (Pu rfl (Va (dx_fld (o1 := 4) rfl ty_fld_26_4_4 rfl rfl) rfl rfl (Va (dx_load rfl ty_one_24 rfl (k27.cell (k := 4) rfl)) rfl rfl (Va (dx_lenFM rfl ty_slice_24 rfl hit) rfl rfl (Va (dx_lss rfl rfl rfl) rfl rfl ?_)))))))
   refine Ni (hK40 ?_)
   refine WC.cond rfl (fun c41 => ?_) (fun c41 => ?_)
   ·
    replace c41 := dT c41
    refine WC.skip (hK39 (Sq fun K42 hK42 => (WC.block (Rg (Pu rfl (Va (dx_fld (o1 := 4) rfl ty_fld_26_4_4 rfl rfl) rfl rfl (Va (dx_load rfl ty_one_24 rfl (k27.cell (k := 4) rfl)) rfl rfl ?_)))))))
    refine Pu rfl ?_
    obtain ⟨r43, e44⟩ : ∃ x, t.items[i]? = some x := ⟨_, List.getElem?_eq_getElem (by omega)⟩
    refine Ge (dx_idxF i rfl ty_slice_24 rfl rfl hit (by omega) (at_mapX e44)) rfl rfl ?_
    rintro u45 _ ⟨rfl, p46⟩
    refine Va (dx_loadPN rfl ty_agg_26_5 rfl p46 rfl) rfl rfl (Pu rfl (Va (dx_sub (r := (m : Int)) rfl rfl rfl (by rw [wrap64_id (by omega)]; omega)) rfl rfl ?_))
    have hdl := deepJ_le m r43.er
    refine Ge (dx_cv rfl Try.func44 rfl rfl rfl (ih r43 m W38 _ hL (hct r43 (List.mem_of_getElem? e44)) (by omega))) rfl rfl ?_
    rintro _ W48 ⟨rfl, b47⟩
    replace hnt := hnt.below b47
    replace hit := hit.below b47
    replace hct := hct.below b47
    replace k27 := k27.below b47
    replace hB := below_then hB b47
    replace hL := LL.below hL b47
    refine Va (dx_max rfl rfl rfl) rfl rfl (Pu rfl (Ni (hK42 (Rg (Pu rfl (Va (dx_add (r := (i : Int) + 1) rfl rfl rfl (wrap64_id (by omega))) rfl rfl (Pu rfl ?_)))))))
    refine Ni ?_
    have hdl := deepJ_le m r43.er
    exact hK37 (i + 1) (max b (deepJ m r43.er)) ⟨(by omega), (by rw [maxJ_step e44, ← hb]), (by omega), hB, hL, hnt, hit, hct, k27⟩ (by omega) (by repeat first | exact trivial | exact And.intro rfl trivial | refine And.intro rfl ?_ | refine And.intro (congrArg (fun z : Int => some (Value.int .i64 z)) (by omega)) ?_ | refine And.intro (congrArg (fun z : Bool => some (Value.bool z)) (by first | exact (decide_eq_true (by omega)).symm | exact (decide_eq_false (by omega)).symm)) ?_)
   ·
    replace c41 := dF c41
    refine WC.exit ?_
    refine hK35 (Sq fun K49 hK49 => (Rg (Pu rfl (Va (dx_add (r := (b : Int) + 1) rfl rfl rfl (wrap64_id (by omega))) rfl rfl (Pu rfl (Ni (hK49 ?_)))))))
    exact WC.ret fun a_ ha_ => hQ (cv_ret1 rfl (.tmp rfl) (by rw [deep_node (by first | exact .inl hkt | exact .inr hkt)]; have e4 : t.items.take i = t.items := List.take_of_length_le (by omega); rw [e4] at hb; exact congrArg (Value.int .i64) (by omega)) hB ha_)
 ·
  refine Rg ?_
  refine Ge (dx_box rfl rfl rfl) rfl rfl ?_
  rintro _ W50 ⟨rfl, k51, b52, z53⟩
  have l54 := hB.size
  replace hB := below_then hB b52
  refine Pu rfl (Ni (hK1 (Sq fun K55 hK55 => (Sq fun K56 hK56 => ?_))))
  cases most with
  | zero =>
   refine Rg (Va (dx_fld (o1 := 0) rfl ty_fld_26_0_0 rfl rfl) rfl rfl (Va (dx_load rfl ty_one_3 rfl (k51.cell (k := 0) rfl)) rfl rfl (Va (dv_NT (dx_neq rfl rfl rfl) (by omega)) rfl rfl (Pu rfl (Va (dx_fld (o1 := 0) rfl ty_fld_26_0_0 rfl rfl) rfl rfl (Va (dx_load rfl ty_one_3 rfl (k51.cell (k := 0) rfl)) rfl rfl (Va (dv_NT (dx_neq rfl rfl rfl) (by omega)) rfl rfl ?_)))))))
   refine Pu rfl (Pu rfl (Of rfl (Of rfl (Pu rfl (Ni (hK56 (WC.condT rfl ?_)))))))
   refine Sq fun K57 hK57 => (Rg (Pu rfl (Ni (hK57 ?_))))
   exact WC.ret fun a_ ha_ => hQ (cv_ret1 rfl (.tmp rfl) (by rw [deep_leaf (by omega) (by omega)]; rfl) hB ha_)
  | succ m =>
   refine Rg (Va (dx_fld (o1 := 0) rfl ty_fld_26_0_0 rfl rfl) rfl rfl (Va (dx_load rfl ty_one_3 rfl (k51.cell (k := 0) rfl)) rfl rfl (Va (dv_NT (dx_neq rfl rfl rfl) (by omega)) rfl rfl (Pu rfl (Va (dx_fld (o1 := 0) rfl ty_fld_26_0_0 rfl rfl) rfl rfl (Va (dx_load rfl ty_one_3 rfl (k51.cell (k := 0) rfl)) rfl rfl (Va (dv_NT (dx_neq rfl rfl rfl) (by omega)) rfl rfl ?_)))))))
   refine Pu rfl (Pu rfl (Of rfl (Of rfl (Pu rfl (Ni (hK56 (WC.condT rfl ?_)))))))
   refine Sq fun K58 hK58 => (Rg (Pu rfl (Ni (hK58 ?_))))
   exact WC.ret fun a_ ha_ => hQ (cv_ret1 rfl (.tmp rfl) (by rw [deep_leaf (by omega) (by omega)]; rfl) hB ha_)

theorem refDeep_all : ∀ n, RefDeepAt n
 | 0 => fun t _ _ _ _ h => h.elim
 | n + 1 => fun t most w L hL ht hr => refDeep_step n (refDeep_all n) t most w L hL ht hr
set_option maxHeartbeats 1000000 in
theorem rDeep_v (n : Nat) (t : Tr) (w : World) (L : List Nat) (hL : LL L w) (ht : RdT (n + 1) L w t) : CV Try.prog 21 [.agg #[.int .i64 t.kind, .int .i64 t.num, .string t.text, t.nv, t.iv]] w fun v W => v = .int .i64 (deepJ 13 t.er : Nat) := by
 refine cv_enter (N := 5) (f := [(0, .agg #[.int .i64 t.kind, .int .i64 t.num, .string t.text, t.nv, t.iv])]) Try.func21 rfl rfl rfl rfl fun Q hQ hE => ?_
 have hB := Below.refl w.heap.size w
 refine Sq fun K1 hK1 => ?_
 obtain ⟨hnt, hit, hct⟩ := ht
 replace hct : RdTs n (L) w t.items := hct
 refine Rg ?_
 refine Ge (dx_box rfl rfl rfl) rfl rfl ?_
 rintro _ W2 ⟨rfl, k3, b4, z5⟩
 have l6 := hB.size
 replace hnt := hnt.more b4 (Nat.le_refl _)
 replace hit := hit.more b4 (Nat.le_refl _)
 replace hct := hct.more b4 (Nat.le_refl _)
 replace hB := below_then hB b4
 replace hL := LL.more hL z5
 refine Pu rfl (Ni (hK1 (Sq fun K7 hK7 => (Rg (Va (dx_loadN rfl ty_agg_26_5 rfl k3.range rfl) rfl rfl ?_)))))
 refine Ge (dx_cv rfl Try.func44 rfl rfl rfl (refDeep_all (n + 1) t 13 W2 _ hL (show RdT (n + 1) (w.heap.size :: L) W2 t from ⟨hnt, hit, hct⟩) (by decide))) rfl rfl ?_
 rintro _ W9 ⟨rfl, b8⟩
 replace hB := below_then hB b8
 refine Pu rfl (Ni (hK7 ?_))
 exact WC.ret fun a_ ha_ => hQ (cv_ret1 rfl (.tmp rfl) rfl hB ha_)

abbrev RefSameAt (n : Nat) : Prop := ∀ (p q : Tr) (w : World) (L : List Nat), LL L w → RdT n L w p → RdT n L w q → CV Try.prog 39 [.agg #[.int .i64 p.kind, .int .i64 p.num, .string p.text, p.nv, p.iv], .agg #[.int .i64 q.kind, .int .i64 q.num, .string q.text, q.nv, q.iv]] w fun x W => x = .bool (eqJ p.er q.er)
set_option maxHeartbeats 2000000 in
theorem refSame_step (n : Nat) (ih : RefSameAt n) (p q : Tr) (w : World) (L : List Nat) (hL : LL L w) (htp : RdT (n + 1) L w p) (htq : RdT (n + 1) L w q) : CV Try.prog 39 [.agg #[.int .i64 p.kind, .int .i64 p.num, .string p.text, p.nv, p.iv], .agg #[.int .i64 q.kind, .int .i64 q.num, .string q.text, q.nv, q.iv]] w fun v W => v = .bool (eqJ p.er q.er) := by
 refine cv_enter (N := 81) (f := [(0, .agg #[.int .i64 p.kind, .int .i64 p.num, .string p.text, p.nv, p.iv]), (1, .agg #[.int .i64 q.kind, .int .i64 q.num, .string q.text, q.nv, q.iv])]) Try.func39 rfl rfl rfl rfl fun Q hQ hE => ?_
 have hB := Below.refl w.heap.size w
 refine Sq fun K1 hK1 => ?_
 obtain ⟨hnp, hip, hcp⟩ := htp
 replace hcp : RdTs n (L) w p.items := hcp
 obtain ⟨hnq, hiq, hcq⟩ := htq
 replace hcq : RdTs n (L) w q.items := hcq
 have hil0 := hip.len
 rw [List.length_map] at hil0
 have hnl0 := hnp.len
 rw [List.length_map] at hnl0
 unfold maxLen at hil0 hnl0
 refine Rg ?_
 refine Ge (dx_box rfl rfl rfl) rfl rfl ?_
 rintro _ W2 ⟨rfl, k3, b4, z5⟩
 have l6 := hB.size
 replace hnp := hnp.more b4 (Nat.le_refl _)
 replace hip := hip.more b4 (Nat.le_refl _)
 replace hcp := hcp.more b4 (Nat.le_refl _)
 replace hnq := hnq.more b4 (Nat.le_refl _)
 replace hiq := hiq.more b4 (Nat.le_refl _)
 replace hcq := hcq.more b4 (Nat.le_refl _)
 replace hB := below_then hB b4
 replace hL := LL.more hL z5
 refine Ge (dx_box rfl rfl rfl) rfl rfl ?_
 rintro _ W7 ⟨rfl, k8, b9, z10⟩
 have l12 := hB.size
 replace hnp := hnp.more b9 (Nat.le_refl _)
 replace hip := hip.more b9 (Nat.le_refl _)
 replace hcp := hcp.more b9 (Nat.le_refl _)
 replace hnq := hnq.more b9 (Nat.le_refl _)
 replace hiq := hiq.more b9 (Nat.le_refl _)
 replace hcq := hcq.more b9 (Nat.le_refl _)
 replace k3 := k3.below b9
 replace hB := below_then hB b9
 replace hL := LL.more hL z10
 refine Pu rfl (Ni (hK1 (Sq fun K13 hK13 => (Sq fun K14 hK14 => (Rg (Va (dx_fld (o1 := 0) rfl ty_fld_26_0_0 rfl rfl) rfl rfl (Va (dx_load rfl ty_one_3 rfl (k3.cell (k := 0) rfl)) rfl rfl ?_)))))))
 refine Va (dx_fld (o1 := 0) rfl ty_fld_26_0_0 rfl rfl) rfl rfl (Va (dx_load rfl ty_one_3 rfl (k8.cell (k := 0) rfl)) rfl rfl (Va (dx_neq rfl rfl rfl) rfl rfl (Pu rfl ?_)))
 refine WL.split 12 rfl (fun g15 => ?_) (fun g15 => ?_)
 ·
  replace g15 := bnot_t g15
  replace g15 := dF g15
  refine Of rfl (Of rfl (Of rfl (Of rfl (Of rfl (Pu rfl (Pu rfl (Of rfl ?_)))))))
  refine Of rfl (Of rfl (Of rfl (Of rfl (Pu rfl (Pu rfl (Of rfl (Of rfl ?_)))))))
  refine Of rfl (Of rfl (Of rfl (Of rfl (Of rfl (Pu rfl (Pu rfl (Of rfl ?_)))))))
  refine Of rfl (Of rfl (Of rfl (Of rfl (Of rfl (Of rfl (Pu rfl (Ni ?_)))))))
  refine hK14 (WC.condT rfl (Sq fun K16 hK16 => (Rg (Pu rfl (Ni (hK16 ?_))))))
  exact WC.ret fun a_ ha_ => hQ (cv_ret1 rfl (.tmp rfl) (by rw [eqJ_f (fun e => by obtain ⟨e1, e2, e3, e4, _⟩ := er_parts e; have e5 := er_len e; have e6 := congrArg List.length e4; first | contradiction | (exact absurd e3 (by assumption)) | omega)]) hB ha_)
 ·
  replace g15 := bnot_f g15
  replace g15 := dT g15
  refine Va (dx_fld (o1 := 1) rfl ty_fld_26_1_1 rfl rfl) rfl rfl (Va (dx_load rfl ty_one_3 rfl (k3.cell (k := 1) rfl)) rfl rfl (Va (dx_fld (o1 := 1) rfl ty_fld_26_1_1 rfl rfl) rfl rfl (Va (dx_load rfl ty_one_3 rfl (k8.cell (k := 1) rfl)) rfl rfl (Va (dx_neq rfl rfl rfl) rfl rfl (Pu rfl (Pu rfl ?_))))))
  refine WL.split 19 rfl (fun g17 => ?_) (fun g17 => ?_)
  ·
   replace g17 := bnot_t g17
   replace g17 := dF g17
   refine Of rfl (Of rfl (Of rfl (Of rfl (Of rfl (Pu rfl (Pu rfl (Of rfl ?_)))))))
   refine Of rfl (Of rfl (Of rfl (Of rfl (Of rfl (Of rfl (Pu rfl (Pu rfl ?_)))))))
   refine Of rfl (Of rfl (Of rfl (Of rfl (Of rfl (Of rfl (Of rfl (Pu rfl ?_)))))))
   refine Ni (hK14 (WC.condT rfl (Sq fun K18 hK18 => (Rg (Pu rfl (Ni (hK18 ?_)))))))
   exact WC.ret fun a_ ha_ => hQ (cv_ret1 rfl (.tmp rfl) (by rw [eqJ_f (fun e => by obtain ⟨e1, e2, e3, e4, _⟩ := er_parts e; have e5 := er_len e; have e6 := congrArg List.length e4; first | contradiction | (exact absurd e3 (by assumption)) | omega)]) hB ha_)
  ·
   replace g17 := bnot_f g17
   replace g17 := dT g17
   refine Va (dx_fld (o1 := 2) rfl ty_fld_26_2_2 rfl rfl) rfl rfl (Va (dx_load rfl ty_one_9 rfl (k3.cell (k := 2) rfl)) rfl rfl (Va (dx_fld (o1 := 2) rfl ty_fld_26_2_2 rfl rfl) rfl rfl (Va (dx_load rfl ty_one_9 rfl (k8.cell (k := 2) rfl)) rfl rfl (Va (dx_neqT rfl rfl rfl) rfl rfl (Pu rfl (Pu rfl ?_))))))
   refine WL.split 26 rfl (fun g19 => ?_) (fun g19 => ?_)
   ·
    replace g19 := bnot_t g19
    replace g19 := dF g19
    refine Of rfl (Of rfl (Of rfl (Of rfl (Of rfl (Of rfl (Of rfl (Pu rfl ?_)))))))
    refine Pu rfl (Of rfl (Of rfl (Of rfl (Of rfl (Of rfl (Of rfl (Of rfl ?_)))))))
    refine Pu rfl (Ni (hK14 (WC.condT rfl (Sq fun K20 hK20 => (Rg (Pu rfl (Ni ?_)))))))
    refine hK20 ?_
    exact WC.ret fun a_ ha_ => hQ (cv_ret1 rfl (.tmp rfl) (by rw [eqJ_f (fun e => by obtain ⟨e1, e2, e3, e4, _⟩ := er_parts e; have e5 := er_len e; have e6 := congrArg List.length e4; first | contradiction | (exact absurd e3 (by assumption)) | omega)]) hB ha_)
   ·
    replace g19 := bnot_f g19
    replace g19 := dT g19
    refine Va (dx_fld (o1 := 3) rfl ty_fld_26_3_3 rfl rfl) rfl rfl (Va (dx_load rfl ty_one_23 rfl (k3.cell (k := 3) rfl)) rfl rfl (Va (dx_lenFM rfl ty_slice_23 rfl hnp) rfl rfl (Va (dx_fld (o1 := 3) rfl ty_fld_26_3_3 rfl rfl) rfl rfl (Va (dx_load rfl ty_one_23 rfl (k8.cell (k := 3) rfl)) rfl rfl (Va (dx_lenFM rfl ty_slice_23 rfl hnq) rfl rfl (Va (dx_neq rfl rfl rfl) rfl rfl (Pu rfl ?_)))))))
    refine Pu rfl ?_
    refine WL.split 35 rfl (fun g21 => ?_) (fun g21 => ?_)
    ·
     replace g21 := bnot_t g21
     replace g21 := dF g21
     refine Of rfl (Of rfl (Of rfl (Of rfl (Of rfl (Of rfl (Of rfl (Pu rfl ?_)))))))
     refine Ni (hK14 (WC.condT rfl (Sq fun K22 hK22 => (Rg (Pu rfl (Ni (hK22 ?_)))))))
     exact WC.ret fun a_ ha_ => hQ (cv_ret1 rfl (.tmp rfl) (by rw [eqJ_f (fun e => by obtain ⟨e1, e2, e3, e4, _⟩ := er_parts e; have e5 := er_len e; have e6 := congrArg List.length e4; first | contradiction | (exact absurd e3 (by assumption)) | omega)]) hB ha_)
    ·
     replace g21 := bnot_f g21
     replace g21 := dT g21
     refine Va (dx_fld (o1 := 4) rfl ty_fld_26_4_4 rfl rfl) rfl rfl (Va (dx_load rfl ty_one_24 rfl (k3.cell (k := 4) rfl)) rfl rfl (Va (dx_lenFM rfl ty_slice_24 rfl hip) rfl rfl (Va (dx_fld (o1 := 4) rfl ty_fld_26_4_4 rfl rfl) rfl rfl (Va (dx_load rfl ty_one_24 rfl (k8.cell (k := 4) rfl)) rfl rfl (Va (dx_lenFM rfl ty_slice_24 rfl hiq) rfl rfl (Va (dx_neq rfl rfl rfl) rfl rfl (Pu rfl ?_)))))))
     refine Ni (hK14 ?_)
     refine WC.cond rfl (fun c23 => ?_) (fun c23 => ?_)
     ·
      replace c23 := bnot_t c23
      replace c23 := dF c23
      refine Sq fun K24 hK24 => (Rg (Pu rfl (Ni (hK24 ?_))))
      exact WC.ret fun a_ ha_ => hQ (cv_ret1 rfl (.tmp rfl) (by rw [eqJ_f (fun e => by obtain ⟨e1, e2, e3, e4, _⟩ := er_parts e; have e5 := er_len e; have e6 := congrArg List.length e4; first | contradiction | (exact absurd e3 (by assumption)) | omega)]) hB ha_)
     ·
      replace c23 := bnot_f c23
      replace c23 := dT c23
      refine WC.skip (hK13 (Sq fun K25 hK25 => (Sq fun K26 hK26 => ?_)))
      have hln : p.items.length = q.items.length := by omega
      have hnn : p.names.length = q.names.length := by omega
      refine Rg (Pu rfl (Ni (hK26 (WC.block ?_))))
      refine WC.loop (fun (i : Nat) => [(2, .pointer (some ⟨w.heap.size, 0, none⟩)), (3, .pointer (some ⟨W2.heap.size, 0, none⟩)), (5, .int .i64 (i : Int))]) (fun (i : Nat) W => i ≤ p.names.length ∧ p.names.take i = q.names.take i ∧ Below w.heap.size w W ∧ LL (W2.heap.size :: w.heap.size :: L) W ∧ RdF 1 (W2.heap.size :: w.heap.size :: L) W p.nv (p.names.map eS) ∧ RdF 5 (W2.heap.size :: w.heap.size :: L) W p.iv (p.items.map encT) ∧ RdTs n (W2.heap.size :: w.heap.size :: L) W p.items ∧ RdF 1 (W2.heap.size :: w.heap.size :: L) W q.nv (q.names.map eS) ∧ RdF 5 (W2.heap.size :: w.heap.size :: L) W q.iv (q.items.map encT) ∧ RdTs n (W2.heap.size :: w.heap.size :: L) W q.items ∧ Blk W w.heap.size [.int .i64 p.kind, .int .i64 p.num, .string p.text, p.nv, p.iv] ∧ Blk W W2.heap.size [.int .i64 q.kind, .int .i64 q.num, .string q.text, q.nv, q.iv]) (fun (i : Nat) => p.names.length - i) 0 (by repeat first | exact trivial | exact And.intro rfl trivial | refine And.intro rfl ?_ | refine And.intro (congrArg (fun z : Int => some (Value.int .i64 z)) (by omega)) ?_ | refine And.intro (congrArg (fun z : Bool => some (Value.bool z)) (by first | exact (decide_eq_true (by omega)).symm | exact (decide_eq_false (by omega)).symm)) ?_) ⟨Nat.zero_le _, rfl, hB, hL, hnp, hip, hcp, hnq, hiq, hcq, k3, k8⟩ ?_
      clear hnp hip hcp hnq hiq hcq k3 k8 hB hL
      rintro K27 i W28 ⟨hi, hv, hB, hL, hnp, hip, hcp, hnq, hiq, hcq, k3, k8⟩ hK27
      refine Sq fun K29 hK29 => (Sq fun K30 hK30 => (Rg (Pu rfl (Va (dx_fld (o1 := 3) rfl ty_fld_26_3_3 rfl rfl) rfl rfl (Va (dx_load rfl ty_one_23 rfl (k3.cell (k := 3) rfl)) rfl rfl (Va (dx_lenFM rfl ty_slice_23 rfl hnp) rfl rfl (Va (dx_lss rfl rfl rfl) rfl rfl ?_)))))))
      refine Ni (hK30 ?_)
      refine WC.cond rfl (fun c31 => ?_) (fun c31 => ?_)
      ·
       replace c31 := dT c31
       refine WC.skip (hK29 (Sq fun K32 hK32 => (WC.block (Sq fun K33 hK33 => ?_))))
       obtain ⟨r34, e35⟩ : ∃ x, p.names[i]? = some x := ⟨_, List.getElem?_eq_getElem (by omega)⟩
       obtain ⟨r36, e37⟩ : ∃ x, q.names[i]? = some x := ⟨_, List.getElem?_eq_getElem (by omega)⟩
       refine WC.drawM 10 [(some 51, .is (.pointer (some ⟨w.heap.size, 3, none⟩))), (some 52, .is (p.nv)), (some 53, .is (.int .i64 (i : Int))), (some 54, .by fun u W => PtR (W2.heap.size :: w.heap.size :: L) W u [.string r34]), (some 55, .is (.string r34)), (some 56, .is (.pointer (some ⟨W2.heap.size, 3, none⟩))), (some 57, .is (q.nv)), (some 58, .is (.int .i64 (i : Int))), (some 59, .by fun u W => PtR (W2.heap.size :: w.heap.size :: L) W u [.string r36]), (some 60, .is (.string r36))] [[], [0], [], [1, 2], [3], [], [5], [], [6, 7], [8]] (by kernel_rfl) (by kernel_rfl) (by kernel_rfl) (by kernel_rfl) (by kernel_rfl) (by kernel_rfl) (by kernel_rfl) ⟨fun _ _ _ hb h => h.below hb, fun _ _ _ hb h => h.below hb, trivial⟩ ?_ ?_
       ·
        refine Dc (fun Wd hd => ?_) ?_
        ·
         exact Dd (dx_fld (o1 := 3) rfl ty_fld_26_3_3 rfl rfl) rfl
        refine Dc (fun Wd hd => ?_) ?_
        ·
         have k3 := k3.below hd
         exact Dd (dx_load rfl ty_one_23 rfl (k3.cell (k := 3) rfl)) rfl
        refine Dc (fun Wd hd => ?_) ?_
        ·
         exact Dd (dx_move rfl rfl) rfl
        refine Dc (fun Wd hd => ?_) ?_
        ·
         have hnp := hnp.below hd
         exact (dx_idxF i rfl ty_slice_23 rfl rfl hnp (by omega) (at_mapX e35)).mono (fun v W' h => ⟨by rw [← h.1]; exact Below.refl _ _, by rw [← h.1]; exact h.2⟩)
        refine Dc (fun Wd hd => ?_) ?_
        ·
         intro u6_3 p6_3
         exact Dd (dx_loadP rfl ty_one_9 rfl p6_3) rfl
        refine Dc (fun Wd hd => ?_) ?_
        ·
         exact Dd (dx_fld (o1 := 3) rfl ty_fld_26_3_3 rfl rfl) rfl
        refine Dc (fun Wd hd => ?_) ?_
        ·
         have k8 := k8.below hd
         exact Dd (dx_load rfl ty_one_23 rfl (k8.cell (k := 3) rfl)) rfl
        refine Dc (fun Wd hd => ?_) ?_
        ·
         exact Dd (dx_move rfl rfl) rfl
        refine Dc (fun Wd hd => ?_) ?_
        ·
         have hnq := hnq.below hd
         exact (dx_idxF i rfl ty_slice_23 rfl rfl hnq (by omega) (at_mapX e37)).mono (fun v W' h => ⟨by rw [← h.1]; exact Below.refl _ _, by rw [← h.1]; exact h.2⟩)
        refine Dc (fun Wd hd => ?_) ?_
        ·
         intro u6_8 p6_8
         exact Dd (dx_loadP rfl ty_one_9 rfl p6_8) rfl
        exact trivial
       ·
        intro W38 b39
        intro u6_3 p6_3
        intro u6_8 p6_8
        replace hnp := hnp.below b39
        replace hip := hip.below b39
        replace hcp := hcp.below b39
        replace hnq := hnq.below b39
        replace hiq := hiq.below b39
        replace hcq := hcq.below b39
        replace k3 := k3.below b39
        replace k8 := k8.below b39
        replace hB := below_then hB b39
        replace hL := LL.below hL b39
        refine Va (dx_neqT rfl rfl rfl) rfl rfl (Ni (hK33 ?_))
        refine WC.cond rfl (fun c40 => ?_) (fun c40 => ?_)
        ·
         replace c40 := bnot_t c40
         replace c40 := dF c40
         refine Sq fun K41 hK41 => (Rg (Pu rfl (Ni (hK41 ?_))))
         exact WC.ret fun a_ ha_ => hQ (cv_ret1 rfl (.tmp rfl) (by rw [eqJ_f (fun e => by obtain ⟨e1, e2, e3, e4, _⟩ := er_parts e; rw [e4, e37] at e35; cases e35; exact absurd rfl (by assumption))]) hB ha_)
        ·
         replace c40 := bnot_f c40
         replace c40 := dT c40
         refine WC.skip (hK32 (Rg (Pu rfl (Va (dx_add (r := (i : Int) + 1) rfl rfl rfl (wrap64_id (by omega))) rfl rfl (Pu rfl (Ni ?_))))))
         exact hK27 (i + 1) ⟨(by omega), (by rw [List.take_add_one, List.take_add_one, hv, e35, e37, show r34 = r36 by first | assumption | exact Classical.not_not.1 (by assumption)]), hB, hL, hnp, hip, hcp, hnq, hiq, hcq, k3, k8⟩ (by omega) (by repeat first | exact trivial | exact And.intro rfl trivial | refine And.intro rfl ?_ | refine And.intro (congrArg (fun z : Int => some (Value.int .i64 z)) (by omega)) ?_ | refine And.intro (congrArg (fun z : Bool => some (Value.bool z)) (by first | exact (decide_eq_true (by omega)).symm | exact (decide_eq_false (by omega)).symm)) ?_)
      ·
       replace c31 := dF c31
       refine WC.exit ?_
       refine hK25 (Sq fun K42 hK42 => (Sq fun K43 hK43 => ?_))
       have hns : p.names = q.names := by rw [List.take_of_length_le (by omega), List.take_of_length_le (by omega)] at hv; exact hv
       refine Rg (Pu rfl (Ni (hK43 (WC.block ?_))))
       refine WC.loop (fun (i : Nat) => [(2, .pointer (some ⟨w.heap.size, 0, none⟩)), (3, .pointer (some ⟨W2.heap.size, 0, none⟩)), (6, .int .i64 (i : Int))]) (fun (i : Nat) W => i ≤ p.items.length ∧ (∀ k x y, k < i → p.items[k]? = some x → q.items[k]? = some y → x.er = y.er) ∧ Below w.heap.size w W ∧ LL (W2.heap.size :: w.heap.size :: L) W ∧ RdF 1 (W2.heap.size :: w.heap.size :: L) W p.nv (p.names.map eS) ∧ RdF 5 (W2.heap.size :: w.heap.size :: L) W p.iv (p.items.map encT) ∧ RdTs n (W2.heap.size :: w.heap.size :: L) W p.items ∧ RdF 1 (W2.heap.size :: w.heap.size :: L) W q.nv (q.names.map eS) ∧ RdF 5 (W2.heap.size :: w.heap.size :: L) W q.iv (q.items.map encT) ∧ RdTs n (W2.heap.size :: w.heap.size :: L) W q.items ∧ Blk W w.heap.size [.int .i64 p.kind, .int .i64 p.num, .string p.text, p.nv, p.iv] ∧ Blk W W2.heap.size [.int .i64 q.kind, .int .i64 q.num, .string q.text, q.nv, q.iv]) (fun (i : Nat) => p.items.length - i) 0 (by repeat first | exact trivial | exact And.intro rfl trivial | refine And.intro rfl ?_ | refine And.intro (congrArg (fun z : Int => some (Value.int .i64 z)) (by omega)) ?_ | refine And.intro (congrArg (fun z : Bool => some (Value.bool z)) (by first | exact (decide_eq_true (by omega)).symm | exact (decide_eq_false (by omega)).symm)) ?_) ⟨Nat.zero_le _, (fun k x y hk => by omega), hB, hL, hnp, hip, hcp, hnq, hiq, hcq, k3, k8⟩ ?_
       clear hnp hip hcp hnq hiq hcq k3 k8 hB hL
       rintro K44 i W45 ⟨hi, hw, hB, hL, hnp, hip, hcp, hnq, hiq, hcq, k3, k8⟩ hK44
       refine Sq fun K46 hK46 => (Sq fun K47 hK47 => (Rg (Pu rfl (Va (dx_fld (o1 := 4) rfl ty_fld_26_4_4 rfl rfl) rfl rfl (Va (dx_load rfl ty_one_24 rfl (k3.cell (k := 4) rfl)) rfl rfl (Va (dx_lenFM rfl ty_slice_24 rfl hip) rfl rfl (Va (dx_lss rfl rfl rfl) rfl rfl ?_)))))))
       refine Ni (hK47 ?_)
       refine WC.cond rfl (fun c48 => ?_) (fun c48 => ?_)
       ·
        replace c48 := dT c48
        refine WC.skip (hK46 (Sq fun K49 hK49 => (WC.block (Sq fun K50 hK50 => ?_))))
        obtain ⟨r51, e52⟩ : ∃ x, p.items[i]? = some x := ⟨_, List.getElem?_eq_getElem (by omega)⟩
        obtain ⟨r53, e54⟩ : ∃ x, q.items[i]? = some x := ⟨_, List.getElem?_eq_getElem (by omega)⟩
        refine WC.drawM 10 [(some 69, .is (.pointer (some ⟨w.heap.size, 4, none⟩))), (some 70, .is (p.iv)), (some 71, .is (.int .i64 (i : Int))), (some 72, .by fun u W => PtR (W2.heap.size :: w.heap.size :: L) W u (encT r51)), (some 73, .is (.agg #[.int .i64 r51.kind, .int .i64 r51.num, .string r51.text, r51.nv, r51.iv])), (some 74, .is (.pointer (some ⟨W2.heap.size, 4, none⟩))), (some 75, .is (q.iv)), (some 76, .is (.int .i64 (i : Int))), (some 77, .by fun u W => PtR (W2.heap.size :: w.heap.size :: L) W u (encT r53)), (some 78, .is (.agg #[.int .i64 r53.kind, .int .i64 r53.num, .string r53.text, r53.nv, r53.iv]))] [[], [0], [], [1, 2], [3], [], [5], [], [6, 7], [8]] (by kernel_rfl) (by kernel_rfl) (by kernel_rfl) (by kernel_rfl) (by kernel_rfl) (by kernel_rfl) (by kernel_rfl) ⟨fun _ _ _ hb h => h.below hb, fun _ _ _ hb h => h.below hb, trivial⟩ ?_ ?_
        ·
         refine Dc (fun Wd hd => ?_) ?_
         ·
          exact Dd (dx_fld (o1 := 4) rfl ty_fld_26_4_4 rfl rfl) rfl
         refine Dc (fun Wd hd => ?_) ?_
         ·
          have k3 := k3.below hd
          exact Dd (dx_load rfl ty_one_24 rfl (k3.cell (k := 4) rfl)) rfl
         refine Dc (fun Wd hd => ?_) ?_
         ·
          exact Dd (dx_move rfl rfl) rfl
         refine Dc (fun Wd hd => ?_) ?_
         ·
          have hip := hip.below hd
          exact (dx_idxF i rfl ty_slice_24 rfl rfl hip (by omega) (at_mapX e52)).mono (fun v W' h => ⟨by rw [← h.1]; exact Below.refl _ _, by rw [← h.1]; exact h.2⟩)
         refine Dc (fun Wd hd => ?_) ?_
         ·
          intro u11_3 p11_3
          exact Dd (dx_loadPN rfl ty_agg_26_5 rfl p11_3 rfl) rfl
         refine Dc (fun Wd hd => ?_) ?_
         ·
          exact Dd (dx_fld (o1 := 4) rfl ty_fld_26_4_4 rfl rfl) rfl
         refine Dc (fun Wd hd => ?_) ?_
         ·
          have k8 := k8.below hd
          exact Dd (dx_load rfl ty_one_24 rfl (k8.cell (k := 4) rfl)) rfl
         refine Dc (fun Wd hd => ?_) ?_
         ·
          exact Dd (dx_move rfl rfl) rfl
         refine Dc (fun Wd hd => ?_) ?_
         ·
          have hiq := hiq.below hd
          exact (dx_idxF i rfl ty_slice_24 rfl rfl hiq (by omega) (at_mapX e54)).mono (fun v W' h => ⟨by rw [← h.1]; exact Below.refl _ _, by rw [← h.1]; exact h.2⟩)
         refine Dc (fun Wd hd => ?_) ?_
         ·
          intro u11_8 p11_8
          exact Dd (dx_loadPN rfl ty_agg_26_5 rfl p11_8 rfl) rfl
         exact trivial
        ·
         intro W55 b56
         intro u11_3 p11_3
         intro u11_8 p11_8
         replace hnp := hnp.below b56
         replace hip := hip.below b56
         replace hcp := hcp.below b56
         replace hnq := hnq.below b56
         replace hiq := hiq.below b56
         replace hcq := hcq.below b56
         replace k3 := k3.below b56
         replace k8 := k8.below b56
         replace hB := below_then hB b56
         replace hL := LL.below hL b56
         refine Ge (dx_cv rfl Try.func39 rfl rfl rfl (ih r51 r53 W55 _ hL (hcp r51 (List.mem_of_getElem? e52)) (hcq r53 (List.mem_of_getElem? e54)))) rfl rfl ?_
         rintro _ W58 ⟨rfl, b57⟩
         replace hnp := hnp.below b57
         replace hip := hip.below b57
         replace hcp := hcp.below b57
         replace hnq := hnq.below b57
         replace hiq := hiq.below b57
         replace hcq := hcq.below b57
         replace k3 := k3.below b57
         replace k8 := k8.below b57
         replace hB := below_then hB b57
         replace hL := LL.below hL b57
         refine Va (dx_not rfl rfl) rfl rfl (Ni (hK50 ?_))
         refine WC.cond rfl (fun c59 => ?_) (fun c59 => ?_)
         ·
          replace c59 := bnot_t c59
          refine Sq fun K60 hK60 => (Rg (Pu rfl (Ni (hK60 ?_))))
          exact WC.ret fun a_ ha_ => hQ (cv_ret1 rfl (.tmp rfl) (by rw [eqJ_f (fun e => by have hce := er_item e e52 e54; have := eqJ_t hce; simp_all)]) hB ha_)
         ·
          replace c59 := bnot_f c59
          refine WC.skip (hK49 (Rg (Pu rfl (Va (dx_add (r := (i : Int) + 1) rfl rfl rfl (wrap64_id (by omega))) rfl rfl (Pu rfl (Ni ?_))))))
          have hce : r51.er = r53.er := Classical.byContradiction fun hn_ => by have := eqJ_f hn_; simp_all
          exact hK44 (i + 1) ⟨(by omega), (fun k x y hk hx hy => by rcases Nat.lt_or_ge k i with hl | hl; exact hw k x y hl hx hy; obtain rfl : k = i := (by omega); rw [e52] at hx; rw [e54] at hy; cases hx; cases hy; exact hce), hB, hL, hnp, hip, hcp, hnq, hiq, hcq, k3, k8⟩ (by omega) (by repeat first | exact trivial | exact And.intro rfl trivial | refine And.intro rfl ?_ | refine And.intro (congrArg (fun z : Int => some (Value.int .i64 z)) (by omega)) ?_ | refine And.intro (congrArg (fun z : Bool => some (Value.bool z)) (by first | exact (decide_eq_true (by omega)).symm | exact (decide_eq_false (by omega)).symm)) ?_)
       ·
        replace c48 := dF c48
        refine WC.exit ?_
        refine hK42 (Sq fun K61 hK61 => (Rg (Pu rfl (Ni (hK61 ?_)))))
        exact WC.ret fun a_ ha_ => hQ (cv_ret1 rfl (.tmp rfl) (by rw [eqJ_t (er_eq (by first | assumption | simp_all) (by first | assumption | simp_all) (by first | assumption | simp_all) hns hln (fun k c d hc hd => hw k c d (by have := (List.getElem?_eq_some_iff.1 hc).1; omega) hc hd))]) hB ha_)

theorem refSame_all : ∀ n, RefSameAt n
 | 0 => fun p q _ _ _ h => h.elim
 | n + 1 => fun p q w L hL h1 h2 => refSame_step n (refSame_all n) p q w L hL h1 h2
set_option maxHeartbeats 1000000 in
theorem alike_v (n : Nat) (p q : Tr) (w : World) (L : List Nat) (hL : LL L w) (htp : RdT (n + 1) L w p) (htq : RdT (n + 1) L w q) : CV Try.prog 14 [.agg #[.int .i64 p.kind, .int .i64 p.num, .string p.text, p.nv, p.iv], .agg #[.int .i64 q.kind, .int .i64 q.num, .string q.text, q.nv, q.iv]] w fun v W => v = .bool (eqJ p.er q.er) := by
 refine cv_enter (N := 8) (f := [(0, .agg #[.int .i64 p.kind, .int .i64 p.num, .string p.text, p.nv, p.iv]), (1, .agg #[.int .i64 q.kind, .int .i64 q.num, .string q.text, q.nv, q.iv])]) Try.func14 rfl rfl rfl rfl fun Q hQ hE => ?_
 have hB := Below.refl w.heap.size w
 refine Sq fun K1 hK1 => ?_
 obtain ⟨hnp, hip, hcp⟩ := htp
 replace hcp : RdTs n (L) w p.items := hcp
 obtain ⟨hnq, hiq, hcq⟩ := htq
 replace hcq : RdTs n (L) w q.items := hcq
 refine Rg ?_
 refine Ge (dx_box rfl rfl rfl) rfl rfl ?_
 rintro _ W2 ⟨rfl, k3, b4, z5⟩
 have l6 := hB.size
 replace hnp := hnp.more b4 (Nat.le_refl _)
 replace hip := hip.more b4 (Nat.le_refl _)
 replace hcp := hcp.more b4 (Nat.le_refl _)
 replace hnq := hnq.more b4 (Nat.le_refl _)
 replace hiq := hiq.more b4 (Nat.le_refl _)
 replace hcq := hcq.more b4 (Nat.le_refl _)
 replace hB := below_then hB b4
 replace hL := LL.more hL z5
 refine Ge (dx_box rfl rfl rfl) rfl rfl ?_
 rintro _ W7 ⟨rfl, k8, b9, z10⟩
 have l12 := hB.size
 replace hnp := hnp.more b9 (Nat.le_refl _)
 replace hip := hip.more b9 (Nat.le_refl _)
 replace hcp := hcp.more b9 (Nat.le_refl _)
 replace hnq := hnq.more b9 (Nat.le_refl _)
 replace hiq := hiq.more b9 (Nat.le_refl _)
 replace hcq := hcq.more b9 (Nat.le_refl _)
 replace k3 := k3.below b9
 replace hB := below_then hB b9
 replace hL := LL.more hL z10
 refine Pu rfl (Ni (hK1 (Sq fun K13 hK13 => (Rg (Va (dx_loadN rfl ty_agg_26_5 rfl k3.range rfl) rfl rfl (Va (dx_loadN rfl ty_agg_26_5 rfl k8.range rfl) rfl rfl ?_))))))
 refine Ge (dx_cv rfl Try.func39 rfl rfl rfl (refSame_all (n + 1) p q W7 _ hL (show RdT (n + 1) (W2.heap.size :: w.heap.size :: L) W7 p from ⟨hnp, hip, hcp⟩) (show RdT (n + 1) (W2.heap.size :: w.heap.size :: L) W7 q from ⟨hnq, hiq, hcq⟩))) rfl rfl ?_
 rintro _ W15 ⟨rfl, b14⟩
 replace hB := below_then hB b14
 refine Pu rfl (Ni (hK13 ?_))
 exact WC.ret fun a_ ha_ => hQ (cv_ret1 rfl (.tmp rfl) rfl hB ha_)

abbrev WeighAt (n : Nat) : Prop := ∀ (t : Tr) (most : Nat) (w : World) (L : List Nat), LL L w → RdT n L w t → most ≤ 1000000 → CV Try.prog 28 [.agg #[.int .i64 t.kind, .int .i64 t.num, .string t.text, t.nv, t.iv], .int .i64 (most : Int)] w fun v W => ∃ z : Int, v = .int .i64 z ∧ 1 ≤ z ∧ z ≤ 3 * (most : Int) + 3 ∧ (z ≤ (most : Int) → SzT most n t)
set_option maxHeartbeats 2000000 in
theorem weigh_step (n : Nat) (ih : WeighAt n) (t : Tr) (most : Nat) (w : World) (L : List Nat) (hL : LL L w) (ht : RdT (n + 1) L w t)  (hrm : most ≤ 1000000) : CV Try.prog 28 [.agg #[.int .i64 t.kind, .int .i64 t.num, .string t.text, t.nv, t.iv], .int .i64 (most : Int)] w fun v W => ∃ z : Int, v = .int .i64 z ∧ 1 ≤ z ∧ z ≤ 3 * (most : Int) + 3 ∧ (z ≤ (most : Int) → SzT most (n + 1) t) := by
 refine cv_enter (N := 61) (f := [(0, .agg #[.int .i64 t.kind, .int .i64 t.num, .string t.text, t.nv, t.iv]), (1, .int .i64 (most : Int))]) Try.func28 rfl rfl rfl rfl fun Q hQ hE => ?_
 have hB := Below.refl w.heap.size w
 refine Sq fun K1 hK1 => ?_
 obtain ⟨hnt, hit, hct⟩ := ht
 replace hct : RdTs n (L) w t.items := hct
 have hil0 := hit.len
 rw [List.length_map] at hil0
 have hnl0 := hnt.len
 rw [List.length_map] at hnl0
 unfold maxLen at hil0 hnl0
 refine Rg ?_
 refine Ge (dx_box rfl rfl rfl) rfl rfl ?_
 rintro _ W2 ⟨rfl, k3, b4, z5⟩
 have l6 := hB.size
 replace hnt := hnt.more b4 (Nat.le_refl _)
 replace hit := hit.more b4 (Nat.le_refl _)
 replace hct := hct.more b4 (Nat.le_refl _)
 replace hB := below_then hB b4
 replace hL := LL.more hL z5
 refine Pu rfl (Ni (hK1 (Sq fun K7 hK7 => (Rg (Va (dx_fld (o1 := 2) rfl ty_fld_26_2_2 rfl rfl) rfl rfl (Va (dx_load rfl ty_one_9 rfl (k3.cell (k := 2) rfl)) rfl rfl (Va (dx_lenT rfl Try.underlying9 rfl) rfl rfl ?_)))))))
 refine Pu rfl (Va (dx_min rfl rfl rfl) rfl rfl (Va (dx_add (r := 1 + (if (most : Int) < ((t.text).size : Int) then (most : Int) else ((t.text).size : Int))) rfl rfl rfl (wrap64_id (by omega))) rfl rfl (Pu rfl (Ni (hK7 (Sq fun K8 hK8 => (Sq fun K9 hK9 => ?_)))))))
 refine Rg (Pu rfl (Ni (hK9 (WC.block ?_))))
 have hz0 := (show True from trivial)
 refine WC.loop2 (fun (i : Nat) (z : Int) => [(1, .int .i64 (most : Int)), (2, .pointer (some ⟨w.heap.size, 0, none⟩)), (6, .int .i64 (i : Int)), (5, .int .i64 z)]) (fun (i : Nat) (z : Int) W => i ≤ t.names.length ∧ (1 + (i : Int) ≤ z) ∧ z ≤ 3 * (most : Int) + 3 ∧ (z ≤ (most : Int) → t.text.size ≤ most ∧ ∀ k a, k < i → t.names[k]? = some a → a.size ≤ most) ∧ Below w.heap.size w W ∧ LL (w.heap.size :: L) W ∧ RdF 1 (w.heap.size :: L) W t.nv (t.names.map eS) ∧ RdF 5 (w.heap.size :: L) W t.iv (t.items.map encT) ∧ RdTs n (w.heap.size :: L) W t.items ∧ Blk W w.heap.size [.int .i64 t.kind, .int .i64 t.num, .string t.text, t.nv, t.iv]) (fun (i : Nat) (z : Int) => t.names.length - i) 0 (1 + (if (most : Int) < ((t.text).size : Int) then (most : Int) else ((t.text).size : Int))) (by repeat first | exact trivial | exact And.intro rfl trivial | refine And.intro rfl ?_ | refine And.intro (congrArg (fun z : Int => some (Value.int .i64 z)) (by omega)) ?_ | refine And.intro (congrArg (fun z : Bool => some (Value.bool z)) (by first | exact (decide_eq_true (by omega)).symm | exact (decide_eq_false (by omega)).symm)) ?_) ⟨Nat.zero_le _, (by omega), (by omega), (fun hh => ⟨by omega, fun k a hk => by omega⟩), hB, hL, hnt, hit, hct, k3⟩ ?_
 clear hnt hit hct k3 hB hL
 rintro K10 i z W11 ⟨hi, hz1, hz2, hs, hB, hL, hnt, hit, hct, k3⟩ hK10
 refine Sq fun K12 hK12 => (Sq fun K13 hK13 => (Rg (Pu rfl (Va (dx_fld (o1 := 3) rfl ty_fld_26_3_3 rfl rfl) rfl rfl (Va (dx_load rfl ty_one_23 rfl (k3.cell (k := 3) rfl)) rfl rfl (Va (dx_lenFM rfl ty_slice_23 rfl hnt) rfl rfl (Va (dx_lss rfl rfl rfl) rfl rfl ?_)))))))
 refine Pu rfl ?_
 refine WL.split 19 rfl (fun g14 => ?_) (fun g14 => ?_)
 ·
  replace g14 := dT g14
  refine Pu rfl (Pu rfl (Va (dx_leq rfl rfl rfl) rfl rfl (Pu rfl (Ni (hK13 ?_)))))
  refine WC.cond rfl (fun c15 => ?_) (fun c15 => ?_)
  ·
   replace c15 := dT c15
   refine WC.skip (hK12 (Sq fun K16 hK16 => (WC.block (Rg (Pu rfl (Va (dx_add (r := z + 1) rfl rfl rfl (wrap64_id (by omega))) rfl rfl (Va (dx_fld (o1 := 3) rfl ty_fld_26_3_3 rfl rfl) rfl rfl ?_)))))))
   refine Va (dx_load rfl ty_one_23 rfl (k3.cell (k := 3) rfl)) rfl rfl (Pu rfl ?_)
   obtain ⟨r17, e18⟩ : ∃ x, t.names[i]? = some x := ⟨_, List.getElem?_eq_getElem (by omega)⟩
   refine Ge (dx_idxF i rfl ty_slice_23 rfl rfl hnt (by omega) (at_mapX e18)) rfl rfl ?_
   rintro u19 _ ⟨rfl, p20⟩
   refine Va (dx_loadP rfl ty_one_9 rfl p20) rfl rfl (Va (dx_lenT rfl Try.underlying9 rfl) rfl rfl (Pu rfl (Va (dx_min rfl rfl rfl) rfl rfl (Va (dx_add (r := (z + 1) + (if (most : Int) < (r17.size : Int) then (most : Int) else (r17.size : Int))) rfl rfl rfl (wrap64_id (by omega))) rfl rfl (Pu rfl (Ni (hK16 ?_)))))))
   refine Rg (Pu rfl (Va (dx_add (r := (i : Int) + 1) rfl rfl rfl (wrap64_id (by omega))) rfl rfl (Pu rfl (Ni ?_))))
   exact hK10 (i + 1) ((z + 1) + (if (most : Int) < (r17.size : Int) then (most : Int) else (r17.size : Int))) ⟨(by omega), (by omega), (by omega), (fun hh => ⟨by have := (hs (by omega)).1; omega, fun k a hk ha => by rcases Nat.lt_or_ge k i with hl | hl; exact (hs (by omega)).2 k a hl ha; obtain rfl : k = i := (by omega); rw [e18] at ha; cases ha; omega⟩), hB, hL, hnt, hit, hct, k3⟩ (by omega) (by repeat first | exact trivial | exact And.intro rfl trivial | refine And.intro rfl ?_ | refine And.intro (congrArg (fun z : Int => some (Value.int .i64 z)) (by omega)) ?_ | refine And.intro (congrArg (fun z : Bool => some (Value.bool z)) (by first | exact (decide_eq_true (by omega)).symm | exact (decide_eq_false (by omega)).symm)) ?_)
  ·
   replace c15 := dF c15
   refine WC.exit ?_
   refine hK8 (Sq fun K21 hK21 => (Sq fun K22 hK22 => (Rg (Pu rfl (Ni (hK22 (WC.block ?_)))))))
   have hnames : z ≤ (most : Int) → t.text.size ≤ most ∧ t.names.length ≤ most ∧ ∀ a ∈ t.names, a.size ≤ most := fun hh => by have hie : i = t.names.length := (by omega); refine ⟨(hs hh).1, by omega, fun a ha => ?_⟩; obtain ⟨k, hk⟩ := List.getElem?_of_mem ha; exact (hs hh).2 k a (by have := (List.getElem?_eq_some_iff.1 hk).1; omega) hk
   refine WC.loop2 (fun (j : Nat) (y : Int) => [(1, .int .i64 (most : Int)), (2, .pointer (some ⟨w.heap.size, 0, none⟩)), (7, .int .i64 (j : Int)), (5, .int .i64 y)]) (fun (j : Nat) (y : Int) W => j ≤ t.items.length ∧ (1 + (j : Int) ≤ y) ∧ y ≤ 3 * (most : Int) + 3 ∧ (y ≤ (most : Int) → (t.text.size ≤ most ∧ t.names.length ≤ most ∧ ∀ a ∈ t.names, a.size ≤ most) ∧ ∀ k c, k < j → t.items[k]? = some c → SzT most n c) ∧ Below w.heap.size w W ∧ LL (w.heap.size :: L) W ∧ RdF 1 (w.heap.size :: L) W t.nv (t.names.map eS) ∧ RdF 5 (w.heap.size :: L) W t.iv (t.items.map encT) ∧ RdTs n (w.heap.size :: L) W t.items ∧ Blk W w.heap.size [.int .i64 t.kind, .int .i64 t.num, .string t.text, t.nv, t.iv]) (fun (j : Nat) (y : Int) => t.items.length - j) 0 z (by repeat first | exact trivial | exact And.intro rfl trivial | refine And.intro rfl ?_ | refine And.intro (congrArg (fun z : Int => some (Value.int .i64 z)) (by omega)) ?_ | refine And.intro (congrArg (fun z : Bool => some (Value.bool z)) (by first | exact (decide_eq_true (by omega)).symm | exact (decide_eq_false (by omega)).symm)) ?_) ⟨Nat.zero_le _, (by omega), (by omega), (fun hh => ⟨hnames hh, fun k c hk => by omega⟩), hB, hL, hnt, hit, hct, k3⟩ ?_
   clear hnt hit hct k3 hB hL
   rintro K23 j y W24 ⟨hj, hy1, hy2, ht2, hB, hL, hnt, hit, hct, k3⟩ hK23
   refine Sq fun K25 hK25 => (Sq fun K26 hK26 => (Rg (Pu rfl (Va (dx_fld (o1 := 4) rfl ty_fld_26_4_4 rfl rfl) rfl rfl (Va (dx_load rfl ty_one_24 rfl (k3.cell (k := 4) rfl)) rfl rfl (Va (dx_lenFM rfl ty_slice_24 rfl hit) rfl rfl (Va (dx_lss rfl rfl rfl) rfl rfl ?_)))))))
   refine Pu rfl ?_
   refine WL.split 42 rfl (fun g27 => ?_) (fun g27 => ?_)
   ·
    replace g27 := dT g27
    refine Pu rfl (Pu rfl (Va (dx_leq rfl rfl rfl) rfl rfl (Pu rfl (Ni (hK26 ?_)))))
    refine WC.cond rfl (fun c28 => ?_) (fun c28 => ?_)
    ·
     replace c28 := dT c28
     refine WC.skip (hK25 (Sq fun K29 hK29 => (WC.block ?_)))
     obtain ⟨mm, hmm⟩ : ∃ k : Nat, (k : Int) = (most : Int) - y := ⟨((most : Int) - y).toNat, by omega⟩
     refine Rg (Pu rfl (Va (dx_fld (o1 := 4) rfl ty_fld_26_4_4 rfl rfl) rfl rfl (Va (dx_load rfl ty_one_24 rfl (k3.cell (k := 4) rfl)) rfl rfl (Pu rfl ?_))))
     obtain ⟨r30, e31⟩ : ∃ x, t.items[j]? = some x := ⟨_, List.getElem?_eq_getElem (by omega)⟩
     refine Ge (dx_idxF j rfl ty_slice_24 rfl rfl hit (by omega) (at_mapX e31)) rfl rfl ?_
     rintro u32 _ ⟨rfl, p33⟩
     refine Va (dx_loadPN rfl ty_agg_26_5 rfl p33 rfl) rfl rfl (Pu rfl (Pu rfl (Va (dx_sub (r := (mm : Int)) rfl rfl rfl (by rw [wrap64_id (by omega)]; omega)) rfl rfl ?_)))
     refine Ge (dx_cv rfl Try.func28 rfl rfl rfl (ih r30 mm W24 _ hL (hct r30 (List.mem_of_getElem? e31)) (by omega))) rfl rfl ?_
     rintro _ W35 ⟨⟨wz, rfl, hw1, hw2, hws⟩, b34⟩
     replace hnt := hnt.below b34
     replace hit := hit.below b34
     replace hct := hct.below b34
     replace k3 := k3.below b34
     replace hB := below_then hB b34
     replace hL := LL.below hL b34
     refine Va (dx_add (r := y + wz) rfl rfl rfl (wrap64_id (by omega))) rfl rfl (Pu rfl (Ni (hK29 (Rg (Pu rfl (Va (dx_add (r := (j : Int) + 1) rfl rfl rfl (wrap64_id (by omega))) rfl rfl (Pu rfl ?_)))))))
     refine Ni ?_
     exact hK23 (j + 1) (y + wz) ⟨(by omega), (by omega), (by omega), (fun hh => by obtain ⟨q1, q2⟩ := ht2 (by omega); exact ⟨q1, fun k a hk ha => by rcases Nat.lt_or_ge k j with hl | hl; exact q2 k a hl ha; obtain rfl : k = j := (by omega); rw [e31] at ha; cases ha; exact (hws (by omega)).le (by omega)⟩), hB, hL, hnt, hit, hct, k3⟩ (by omega) (by repeat first | exact trivial | exact And.intro rfl trivial | refine And.intro rfl ?_ | refine And.intro (congrArg (fun z : Int => some (Value.int .i64 z)) (by omega)) ?_ | refine And.intro (congrArg (fun z : Bool => some (Value.bool z)) (by first | exact (decide_eq_true (by omega)).symm | exact (decide_eq_false (by omega)).symm)) ?_)
    ·
     replace c28 := dF c28
     refine WC.exit ?_
     refine hK21 (Sq fun K36 hK36 => (Rg (Pu rfl (Pu rfl (Ni (hK36 ?_))))))
     exact WC.ret fun a_ ha_ => hQ (cv_ret1 rfl (.tmp rfl) ⟨_, rfl, by omega, by omega, fun hh => by obtain ⟨⟨q1, q2, q3⟩, q4⟩ := ht2 hh; have hje : j = t.items.length := (by omega); exact ⟨q1, q2, by omega, q3, fun c hc => by obtain ⟨k, hk⟩ := List.getElem?_of_mem hc; exact q4 k c (by have := (List.getElem?_eq_some_iff.1 hk).1; omega) hk⟩⟩ hB ha_)
   ·
    replace g27 := dF g27
    refine Of rfl (Of rfl (Of rfl (Pu rfl (Ni (hK26 (WC.condF rfl ?_))))))
    refine WC.exit ?_
    refine hK21 (Sq fun K37 hK37 => (Rg (Pu rfl (Pu rfl (Ni (hK37 ?_))))))
    exact WC.ret fun a_ ha_ => hQ (cv_ret1 rfl (.tmp rfl) ⟨_, rfl, by omega, by omega, fun hh => by obtain ⟨⟨q1, q2, q3⟩, q4⟩ := ht2 hh; have hje : j = t.items.length := (by omega); exact ⟨q1, q2, by omega, q3, fun c hc => by obtain ⟨k, hk⟩ := List.getElem?_of_mem hc; exact q4 k c (by have := (List.getElem?_eq_some_iff.1 hk).1; omega) hk⟩⟩ hB ha_)
 ·
  replace g14 := dF g14
  refine Of rfl (Of rfl (Of rfl (Pu rfl (Ni (hK13 (WC.condF rfl ?_))))))
  refine WC.exit ?_
  refine hK8 (Sq fun K38 hK38 => (Sq fun K39 hK39 => (Rg (Pu rfl (Ni (hK39 (WC.block ?_)))))))
  have hnames : z ≤ (most : Int) → t.text.size ≤ most ∧ t.names.length ≤ most ∧ ∀ a ∈ t.names, a.size ≤ most := fun hh => by have hie : i = t.names.length := (by omega); refine ⟨(hs hh).1, by omega, fun a ha => ?_⟩; obtain ⟨k, hk⟩ := List.getElem?_of_mem ha; exact (hs hh).2 k a (by have := (List.getElem?_eq_some_iff.1 hk).1; omega) hk
  refine WC.loop2 (fun (j : Nat) (y : Int) => [(1, .int .i64 (most : Int)), (2, .pointer (some ⟨w.heap.size, 0, none⟩)), (7, .int .i64 (j : Int)), (5, .int .i64 y)]) (fun (j : Nat) (y : Int) W => j ≤ t.items.length ∧ (1 + (j : Int) ≤ y) ∧ y ≤ 3 * (most : Int) + 3 ∧ (y ≤ (most : Int) → (t.text.size ≤ most ∧ t.names.length ≤ most ∧ ∀ a ∈ t.names, a.size ≤ most) ∧ ∀ k c, k < j → t.items[k]? = some c → SzT most n c) ∧ Below w.heap.size w W ∧ LL (w.heap.size :: L) W ∧ RdF 1 (w.heap.size :: L) W t.nv (t.names.map eS) ∧ RdF 5 (w.heap.size :: L) W t.iv (t.items.map encT) ∧ RdTs n (w.heap.size :: L) W t.items ∧ Blk W w.heap.size [.int .i64 t.kind, .int .i64 t.num, .string t.text, t.nv, t.iv]) (fun (j : Nat) (y : Int) => t.items.length - j) 0 z (by repeat first | exact trivial | exact And.intro rfl trivial | refine And.intro rfl ?_ | refine And.intro (congrArg (fun z : Int => some (Value.int .i64 z)) (by omega)) ?_ | refine And.intro (congrArg (fun z : Bool => some (Value.bool z)) (by first | exact (decide_eq_true (by omega)).symm | exact (decide_eq_false (by omega)).symm)) ?_) ⟨Nat.zero_le _, (by omega), (by omega), (fun hh => ⟨hnames hh, fun k c hk => by omega⟩), hB, hL, hnt, hit, hct, k3⟩ ?_
  clear hnt hit hct k3 hB hL
  rintro K40 j y W41 ⟨hj, hy1, hy2, ht2, hB, hL, hnt, hit, hct, k3⟩ hK40
  refine Sq fun K42 hK42 => (Sq fun K43 hK43 => (Rg (Pu rfl (Va (dx_fld (o1 := 4) rfl ty_fld_26_4_4 rfl rfl) rfl rfl (Va (dx_load rfl ty_one_24 rfl (k3.cell (k := 4) rfl)) rfl rfl (Va (dx_lenFM rfl ty_slice_24 rfl hit) rfl rfl (Va (dx_lss rfl rfl rfl) rfl rfl ?_)))))))
  refine Pu rfl ?_
  refine WL.split 42 rfl (fun g44 => ?_) (fun g44 => ?_)
  ·
   replace g44 := dT g44
   refine Pu rfl (Pu rfl (Va (dx_leq rfl rfl rfl) rfl rfl (Pu rfl (Ni (hK43 ?_)))))
   refine WC.cond rfl (fun c45 => ?_) (fun c45 => ?_)
   ·
    replace c45 := dT c45
    refine WC.skip (hK42 (Sq fun K46 hK46 => (WC.block ?_)))
    obtain ⟨mm, hmm⟩ : ∃ k : Nat, (k : Int) = (most : Int) - y := ⟨((most : Int) - y).toNat, by omega⟩
    refine Rg (Pu rfl (Va (dx_fld (o1 := 4) rfl ty_fld_26_4_4 rfl rfl) rfl rfl (Va (dx_load rfl ty_one_24 rfl (k3.cell (k := 4) rfl)) rfl rfl (Pu rfl ?_))))
    obtain ⟨r47, e48⟩ : ∃ x, t.items[j]? = some x := ⟨_, List.getElem?_eq_getElem (by omega)⟩
    refine Ge (dx_idxF j rfl ty_slice_24 rfl rfl hit (by omega) (at_mapX e48)) rfl rfl ?_
    rintro u49 _ ⟨rfl, p50⟩
    refine Va (dx_loadPN rfl ty_agg_26_5 rfl p50 rfl) rfl rfl (Pu rfl (Pu rfl (Va (dx_sub (r := (mm : Int)) rfl rfl rfl (by rw [wrap64_id (by omega)]; omega)) rfl rfl ?_)))
    refine Ge (dx_cv rfl Try.func28 rfl rfl rfl (ih r47 mm W41 _ hL (hct r47 (List.mem_of_getElem? e48)) (by omega))) rfl rfl ?_
    rintro _ W52 ⟨⟨wz, rfl, hw1, hw2, hws⟩, b51⟩
    replace hnt := hnt.below b51
    replace hit := hit.below b51
    replace hct := hct.below b51
    replace k3 := k3.below b51
    replace hB := below_then hB b51
    replace hL := LL.below hL b51
    refine Va (dx_add (r := y + wz) rfl rfl rfl (wrap64_id (by omega))) rfl rfl (Pu rfl (Ni (hK46 (Rg (Pu rfl (Va (dx_add (r := (j : Int) + 1) rfl rfl rfl (wrap64_id (by omega))) rfl rfl (Pu rfl ?_)))))))
    refine Ni ?_
    exact hK40 (j + 1) (y + wz) ⟨(by omega), (by omega), (by omega), (fun hh => by obtain ⟨q1, q2⟩ := ht2 (by omega); exact ⟨q1, fun k a hk ha => by rcases Nat.lt_or_ge k j with hl | hl; exact q2 k a hl ha; obtain rfl : k = j := (by omega); rw [e48] at ha; cases ha; exact (hws (by omega)).le (by omega)⟩), hB, hL, hnt, hit, hct, k3⟩ (by omega) (by repeat first | exact trivial | exact And.intro rfl trivial | refine And.intro rfl ?_ | refine And.intro (congrArg (fun z : Int => some (Value.int .i64 z)) (by omega)) ?_ | refine And.intro (congrArg (fun z : Bool => some (Value.bool z)) (by first | exact (decide_eq_true (by omega)).symm | exact (decide_eq_false (by omega)).symm)) ?_)
   ·
    replace c45 := dF c45
    refine WC.exit ?_
    refine hK38 (Sq fun K53 hK53 => (Rg (Pu rfl (Pu rfl (Ni (hK53 ?_))))))
    exact WC.ret fun a_ ha_ => hQ (cv_ret1 rfl (.tmp rfl) ⟨_, rfl, by omega, by omega, fun hh => by obtain ⟨⟨q1, q2, q3⟩, q4⟩ := ht2 hh; have hje : j = t.items.length := (by omega); exact ⟨q1, q2, by omega, q3, fun c hc => by obtain ⟨k, hk⟩ := List.getElem?_of_mem hc; exact q4 k c (by have := (List.getElem?_eq_some_iff.1 hk).1; omega) hk⟩⟩ hB ha_)
  ·
   replace g44 := dF g44
   refine Of rfl (Of rfl (Of rfl (Pu rfl (Ni (hK43 (WC.condF rfl ?_))))))
   refine WC.exit ?_
   refine hK38 (Sq fun K54 hK54 => (Rg (Pu rfl (Pu rfl (Ni (hK54 ?_))))))
   exact WC.ret fun a_ ha_ => hQ (cv_ret1 rfl (.tmp rfl) ⟨_, rfl, by omega, by omega, fun hh => by obtain ⟨⟨q1, q2, q3⟩, q4⟩ := ht2 hh; have hje : j = t.items.length := (by omega); exact ⟨q1, q2, by omega, q3, fun c hc => by obtain ⟨k, hk⟩ := List.getElem?_of_mem hc; exact q4 k c (by have := (List.getElem?_eq_some_iff.1 hk).1; omega) hk⟩⟩ hB ha_)

theorem weigh_all : ∀ n, WeighAt n
 | 0 => fun t _ _ _ _ h => h.elim
 | n + 1 => fun t most w L hL ht hr => weigh_step n (weigh_all n) t most w L hL ht hr
section
variable {P : Program} {ops : Array Oper} {o : Oper} {N : Nat} {f : Fl} {w : World}
theorem fill_two5 {a0 a1 a2 a3 a4 b0 b1 b2 b3 b4 : Value} : ∀ c : Array Value, c.size = 10 → Instr.fill (fun k => some (k * 5, 5)) c [(0, .agg #[a0, a1, a2, a3, a4]), (1, .agg #[b0, b1, b2, b3, b4])] = some #[a0, a1, a2, a3, a4, b0, b1, b2, b3, b4] := fun c hc => by
 obtain ⟨l⟩ := c
 match l, hc with
 | [x0, x1, x2, x3, x4, y0, y1, y2, y3, y4], _ => simp [Instr.fill, Value.cells]
theorem dx_lit25 {t bytes : Nat} {x y : Operand} {a0 a1 a2 a3 a4 b0 b1 b2 b3 b4 : Value} (ho : o.op = .buildSlice t 2 #[(0, x), (1, y)]) (ht : apB P t 5 bytes = true) (hx : ev f x = some (.agg #[a0, a1, a2, a3, a4])) (hy : ev f y = some (.agg #[b0, b1, b2, b3, b4])) (hw : wantF ops o f = some true := by rfl) : DR P ops o N f w (NewO 5 w [[a0, a1, a2, a3, a4], [b0, b1, b2, b3, b4]]) := by
 obtain ⟨e, i, Z, hu, hi, hZ, hs, rfl, hzs⟩ := of_apB ht
 refine dx_lit (ps := [(0, .agg #[a0, a1, a2, a3, a4]), (1, .agg #[b0, b1, b2, b3, b4])]) (rs := [[a0, a1, a2, a3, a4], [b0, b1, b2, b3, b4]]) ho hu hi hZ hs (by decide) (by simp [evl, hx, hy]) (by omega) ?_ (by simp) rfl (by unfold maxLen; omega) hw
 rw [if_neg (by decide)]
 exact fill_two5 _ (by simp)
end
def noJ : Js := .mk 0 0 ⟨#[]⟩ [] []
def getJ (j : Js) (name : ByteArray) : Js × Bool := if j.kind = 6 ∧ 0 ≤ idxX (fun x => decide (name = x)) j.names 0 ∧ (idxX (fun x => decide (name = x)) j.names 0).toNat < j.items.length then ((j.items[(idxX (fun x => decide (name = x)) j.names 0).toNat]?).getD noJ, true) else (noJ, false)
theorem getT_er (t : Tr) (name : ByteArray) : ((getT t name).1.er, (getT t name).2) = getJ t.er name := by
  unfold getT getJ
  rw [er_kind, er_names, er_items, List.length_map]
  split
  · rename_i h
    rw [List.getElem?_map, List.getElem?_eq_getElem h.2.2]; rfl
  · unfold noT noJ; rw [Tr.er_mk]; rfl
theorem pa1 : parJ { data := #[123, 34, 98, 34, 58, 32, 91, 49, 44, 32, 45, 50, 93, 44, 32, 34, 97, 34, 58, 32, 34, 92, 117, 48, 48, 101, 57, 34, 125] } = .ok (.mk 6 0 ⟨#[]⟩ [⟨#[97]⟩, ⟨#[98]⟩] [.mk 4 0 ⟨#[195, 169]⟩ [] [], .mk 5 0 ⟨#[]⟩ [] [.mk 3 1 ⟨#[]⟩ [] [], .mk 3 (-2) ⟨#[]⟩ [] []]]) := by kernel_rfl
theorem pa2 : parJ { data := #[49, 46, 53] } = .error 2 := by kernel_rfl
theorem pa3 : parJ { data := #[123, 34, 97, 34, 58, 49, 44, 34, 97, 34, 58, 50, 125] } = .error 6 := by kernel_rfl
theorem alP1 (w : World) (L : List Nat) (hL : LL L w) : CV Try.prog 12 [.string { data := #[123, 34, 98, 34, 58, 32, 91, 49, 44, 32, 45, 50, 93, 44, 32, 34, 97, 34, 58, 32, 34, 92, 117, 48, 48, 101, 57, 34, 125] }] w fun v W => ∃ t, v = .tuple #[.agg #[.int .i64 t.kind, .int .i64 t.num, .string t.text, t.nv, t.iv], .int .i64 0] ∧ getJ t.er ⟨#[97]⟩ = (.mk 4 0 ⟨#[195, 169]⟩ [] [], true) ∧ deepJ 13 t.er = 2 ∧ RdT 13 L W t :=
  (jParse_v { data := #[123, 34, 98, 34, 58, 32, 91, 49, 44, 32, 45, 50, 93, 44, 32, 34, 97, 34, 58, 32, 34, 92, 117, 48, 48, 101, 57, 34, 125] } w L hL).mono fun v W _ h => by
    rcases h with ⟨t, rfl, h1, h2⟩ | ⟨e, rfl, h0, h1⟩
    · rw [pa1] at h1
      have h1 := (Except.ok.inj h1).symm
      exact ⟨t, rfl, by rw [h1]; kernel_rfl, by rw [h1]; kernel_rfl, h2⟩
    · rw [pa1] at h1; cases h1
theorem alP2 (w : World) (L : List Nat) (hL : LL L w) : CV Try.prog 12 [.string { data := #[49, 46, 53] }] w fun v W => v = .tuple #[.agg #[.int .i64 0, .int .i64 0, .string ⟨#[]⟩, .slice none 0 0, .slice none 0 0], .int .i64 2] :=
 (jParse_v { data := #[49, 46, 53] } w L hL).mono fun v W _ h => by
  rcases h with ⟨t, rfl, h1, h2⟩ | ⟨e, rfl, h0, h1⟩
  · rw [pa2] at h1; cases h1
  · rw [pa2] at h1; cases h1; rfl
theorem alP3 (w : World) (L : List Nat) (hL : LL L w) : CV Try.prog 12 [.string { data := #[123, 34, 97, 34, 58, 49, 44, 34, 97, 34, 58, 50, 125] }] w fun v W => v = .tuple #[.agg #[.int .i64 0, .int .i64 0, .string ⟨#[]⟩, .slice none 0 0, .slice none 0 0], .int .i64 6] :=
 (jParse_v { data := #[123, 34, 97, 34, 58, 49, 44, 34, 97, 34, 58, 50, 125] } w L hL).mono fun v W _ h => by
  rcases h with ⟨t, rfl, h1, h2⟩ | ⟨e, rfl, h0, h1⟩
  · rw [pa3] at h1; cases h1
  · rw [pa3] at h1; cases h1; rfl
theorem alG (t : Tr) (w : World) (L : List Nat) (hL : LL L w) (ht : RdT 13 L w t) (hg : getJ t.er ⟨#[97]⟩ = (.mk 4 0 ⟨#[195, 169]⟩ [] [], true)) : CV Try.prog 17 [.agg #[.int .i64 t.kind, .int .i64 t.num, .string t.text, t.nv, t.iv], .string ⟨#[97]⟩] w fun v W => ∃ a, v = .tuple #[.agg #[.int .i64 a.kind, .int .i64 a.num, .string a.text, a.nv, a.iv], .bool true] ∧ a.text = ⟨#[195, 169]⟩ ∧ RdT 13 L W a :=
 (jGet_v 12 t ⟨#[97]⟩ w L hL ht).mono fun v W hb h => by
  subst h
  have e := (getT_er t ⟨#[97]⟩).trans hg
  simp only [Prod.mk.injEq] at e
  refine ⟨(getT t ⟨#[97]⟩).1, by rw [e.2]; rfl, ?_, (getT_rd ht _).below hb⟩
  rw [← er_text, e.1]; rfl
set_option maxHeartbeats 1000000 in
theorem alive_v  (w : World) (L : List Nat) (hL : LL L w)  : CV Try.prog 11 [] w fun v W => v = .bool true := by
 refine cv_enter (N := 49) (f := []) Try.func11 rfl rfl rfl rfl fun Q hQ hE => ?_
 have hB := Below.refl w.heap.size w
 refine Sq fun K1 hK1 => (Rg (Pu rfl (Ni (hK1 (Sq fun K2 hK2 => (Rg ?_))))))
 refine Ge (dx_cv rfl Try.func12 rfl rfl rfl (alP1 w _ hL)) rfl rfl ?_
 rintro _ W4 ⟨⟨t, rfl, hgj, hdj, ht⟩, b3⟩
 replace hB := below_then hB b3
 replace hL := LL.below hL b3
 obtain ⟨hnt, hit, hct⟩ := ht
 replace hct : RdTs 12 (L) W4 t.items := hct
 refine Pu rfl (Pu rfl (Pu rfl ?_))
 refine Ge (dx_alloc rfl ty_zero_26 rfl) rfl rfl ?_
 rintro _ W5 ⟨rfl, k6, b7, z8⟩
 have l9 := hB.size
 replace hnt := hnt.more b7 (Nat.le_refl _)
 replace hit := hit.more b7 (Nat.le_refl _)
 replace hct := hct.more b7 (Nat.le_refl _)
 replace hB := below_then hB b7
 replace hL := LL.more hL z8
 refine WL.do (dx_store (cs' := [.int .i64 t.kind, .int .i64 t.num, .string t.text, t.nv, t.iv]) (vs := [.int .i64 t.kind, .int .i64 t.num, .string t.text, t.nv, t.iv]) rfl ty_size_26_5 rfl rfl rfl (oc_cons rfl (oc_cons rfl (oc_cons rfl (oc_cons hnt.one (oc_cons hit.one oc_nil))))) k6 rfl (Nat.le_of_ble_eq_true rfl) rfl) rfl ?_
 rintro _ W10 ⟨k12, o11⟩
 clear k6
 replace hnt := hnt.only o11 (.head _)
 replace hit := hit.only o11 (.head _)
 replace hct := hct.only o11 (.head _)
 replace hB := o11.below hB l9
 replace hL := LL.only hL o11
 refine Pu rfl (Ni (hK2 (Sq fun K13 hK13 => (Rg ?_))))
 refine Ge (dx_cv rfl Try.func12 rfl rfl rfl (alP2 W10 _ hL)) rfl rfl ?_
 rintro _ W15 ⟨rfl, b14⟩
 replace hnt := hnt.below b14
 replace hit := hit.below b14
 replace hct := hct.below b14
 replace k12 := k12.below b14
 replace hB := below_then hB b14
 replace hL := LL.below hL b14
 refine Pu rfl (Pu rfl (Pu rfl ?_))
 refine Ge (dx_alloc rfl ty_zero_26 rfl) rfl rfl ?_
 rintro _ W16 ⟨rfl, k17, b18, z19⟩
 have n20 : W4.heap.size ≠ W15.heap.size := Nat.ne_of_lt k12.lt
 have l21 := hB.size
 replace hnt := hnt.more b18 (Nat.le_refl _)
 replace hit := hit.more b18 (Nat.le_refl _)
 replace hct := hct.more b18 (Nat.le_refl _)
 replace k12 := k12.below b18
 replace hB := below_then hB b18
 replace hL := LL.more hL z19
 refine WL.do (dx_store (cs' := zV) (vs := zV) rfl ty_size_26_5 rfl rfl rfl (oc_cons rfl (oc_cons rfl (oc_cons rfl (oc_cons rfl (oc_cons rfl oc_nil))))) k17 rfl (Nat.le_of_ble_eq_true rfl) rfl) rfl ?_
 rintro _ W22 ⟨k24, o23⟩
 replace k12 := k12.other o23 n20
 clear k17
 replace hnt := hnt.only o23 (.head _)
 replace hit := hit.only o23 (.head _)
 replace hct := hct.only o23 (.head _)
 replace hB := o23.below hB l21
 replace hL := LL.only hL o23
 refine Pu rfl (Ni (hK13 (Sq fun K25 hK25 => (Rg ?_))))
 refine Ge (dx_cv rfl Try.func12 rfl rfl rfl (alP3 W22 _ hL)) rfl rfl ?_
 rintro _ W27 ⟨rfl, b26⟩
 replace hnt := hnt.below b26
 replace hit := hit.below b26
 replace hct := hct.below b26
 replace k12 := k12.below b26
 replace hB := below_then hB b26
 replace hL := LL.below hL b26
 refine Pu rfl (Pu rfl (Pu rfl ?_))
 refine Ge (dx_alloc rfl ty_zero_26 rfl) rfl rfl ?_
 rintro _ W28 ⟨rfl, k29, b30, z31⟩
 have n32 : W4.heap.size ≠ W27.heap.size := Nat.ne_of_lt k12.lt
 have l34 := hB.size
 replace hnt := hnt.more b30 (Nat.le_refl _)
 replace hit := hit.more b30 (Nat.le_refl _)
 replace hct := hct.more b30 (Nat.le_refl _)
 replace k12 := k12.below b30
 replace hB := below_then hB b30
 replace hL := LL.more hL z31
 refine WL.do (dx_store (cs' := zV) (vs := zV) rfl ty_size_26_5 rfl rfl rfl (oc_cons rfl (oc_cons rfl (oc_cons rfl (oc_cons rfl (oc_cons rfl oc_nil))))) k29 rfl (Nat.le_of_ble_eq_true rfl) rfl) rfl ?_
 rintro _ W35 ⟨k37, o36⟩
 replace k12 := k12.other o36 n32
 clear k29
 replace hnt := hnt.only o36 (.head _)
 replace hit := hit.only o36 (.head _)
 replace hct := hct.only o36 (.head _)
 replace hB := o36.below hB l34
 replace hL := LL.only hL o36
 refine Pu rfl (Ni (hK25 (Sq fun K38 hK38 => (Rg (Va (dx_loadN rfl ty_agg_26_5 rfl k12.range rfl) rfl rfl ?_)))))
 refine Ge (dx_cv rfl Try.func17 rfl rfl rfl (alG t W35 _ hL (show RdT (12 + 1) (W27.heap.size :: W15.heap.size :: W4.heap.size :: L) W35 t from ⟨hnt, hit, hct⟩) hgj)) rfl rfl ?_
 rintro _ W40 ⟨⟨a, rfl, htx, ha⟩, b39⟩
 replace hnt := hnt.below b39
 replace hit := hit.below b39
 replace hct := hct.below b39
 replace k12 := k12.below b39
 replace hB := below_then hB b39
 replace hL := LL.below hL b39
 obtain ⟨hna, hia, hca⟩ := ha
 replace hca : RdTs 12 (W27.heap.size :: W15.heap.size :: W4.heap.size :: L) W40 a.items := hca
 refine Pu rfl (Pu rfl (Pu rfl ?_))
 refine Ge (dx_alloc rfl ty_zero_26 rfl) rfl rfl ?_
 rintro _ W41 ⟨rfl, k42, b43, z44⟩
 have n45 : W4.heap.size ≠ W40.heap.size := Nat.ne_of_lt k12.lt
 have l48 := hB.size
 replace hnt := hnt.more b43 (Nat.le_refl _)
 replace hit := hit.more b43 (Nat.le_refl _)
 replace hct := hct.more b43 (Nat.le_refl _)
 replace hna := hna.more b43 (Nat.le_refl _)
 replace hia := hia.more b43 (Nat.le_refl _)
 replace k12 := k12.below b43
 replace hB := below_then hB b43
 replace hL := LL.more hL z44
 refine WL.do (dx_store (cs' := [.int .i64 a.kind, .int .i64 a.num, .string a.text, a.nv, a.iv]) (vs := [.int .i64 a.kind, .int .i64 a.num, .string a.text, a.nv, a.iv]) rfl ty_size_26_5 rfl rfl rfl (oc_cons rfl (oc_cons rfl (oc_cons rfl (oc_cons hna.one (oc_cons hia.one oc_nil))))) k42 rfl (Nat.le_of_ble_eq_true rfl) rfl) rfl ?_
 rintro _ W49 ⟨k51, o50⟩
 replace k12 := k12.other o50 n45
 clear k42
 replace hnt := hnt.only o50 (.head _)
 replace hit := hit.only o50 (.head _)
 replace hct := hct.only o50 (.head _)
 replace hB := o50.below hB l48
 replace hL := LL.only hL o50
 refine Pu rfl (Ni (hK38 (Sq fun K52 hK52 => (Rg (Pu rfl (Va (dx_eql rfl rfl rfl) rfl rfl (Pu rfl ?_)))))))
 refine Pu rfl (Va (dx_eql rfl rfl rfl) rfl rfl (Pu rfl (Pu rfl (Pu rfl (Va (dx_eql rfl rfl rfl) rfl rfl (Pu rfl (Pu rfl ?_)))))))
 refine Pu rfl (Pu rfl (Pu rfl (Va (dx_fld (o1 := 2) rfl ty_fld_26_2_2 rfl rfl) rfl rfl (Va (dx_load rfl ty_one_9 rfl (k51.cell (k := 2) rfl)) rfl rfl (Va (dv_T (dx_eqlT rfl rfl rfl) htx) rfl rfl (Pu rfl (Pu rfl ?_)))))))
 refine Va (dx_loadN rfl ty_agg_26_5 rfl k12.range rfl) rfl rfl ?_
 refine Ge (dx_cv rfl Try.func20 rfl rfl rfl (jDeep_v 12 t W49 _ hL (show RdT (12 + 1) (W40.heap.size :: W27.heap.size :: W15.heap.size :: W4.heap.size :: L) W49 t from ⟨hnt, hit, hct⟩))) rfl rfl ?_
 rintro _ W54 ⟨rfl, b53⟩
 replace hB := below_then hB b53
 refine Va (dv_T (dx_eql rfl rfl rfl) (by rw [hdj]; rfl)) rfl rfl (Pu rfl (Pu rfl (Ni (hK52 ?_))))
 exact WC.ret fun a_ ha_ => hQ (cv_ret1 rfl (.tmp rfl) rfl hB ha_)

set_option maxHeartbeats 1000000 in
theorem great_v (n : Nat) (ts : List Tr) (sv : Value) (w : World) (L : List Nat) (hL : LL L w) (h1 : RdF 5 L w sv (ts.map encT)) (hts : RdTs (n + 1) L w ts)  (hsm : ts.length ≤ 100) : CV Try.prog 16 [sv] w fun v W => ∃ b, v = .bool b ∧ (b = false → ∀ t ∈ ts, SzT 1000 (n + 1) t) := by
 refine cv_enter (N := 20) (f := [(0, sv)]) Try.func16 rfl rfl rfl rfl fun Q hQ hE => ?_
 have hB := Below.refl w.heap.size w
 have h1m : ts.length ≤ maxLen := by have := h1.len; rwa [List.length_map] at this
 unfold maxLen at h1m
 refine Sq fun K1 hK1 => (Rg (Pu rfl (Ni (hK1 (Sq fun K2 hK2 => (Rg (Pu rfl ?_)))))))
 refine Ni (hK2 (Sq fun K3 hK3 => (Sq fun K4 hK4 => (Rg (Pu rfl (Ni (hK4 ?_)))))))
 refine WC.block ?_
 refine WC.loop2 (fun (i : Nat) (z : Int) => [(0, sv), (4, .int .i64 (i : Int)), (3, .int .i64 z)]) (fun (i : Nat) (z : Int) W => i ≤ ts.length ∧ 0 ≤ z ∧ z ≤ 3003 * (i : Int) ∧ (z ≤ 1000 → ∀ k a, k < i → ts[k]? = some a → SzT 1000 (n + 1) a) ∧ Below w.heap.size w W ∧ LL (L) W ∧ RdF 5 (L) W sv (ts.map encT) ∧ RdTs (n + 1) (L) W ts) (fun (i : Nat) (z : Int) => ts.length - i) 0 0 (by repeat first | exact trivial | exact And.intro rfl trivial | refine And.intro rfl ?_ | refine And.intro (congrArg (fun z : Int => some (Value.int .i64 z)) (by omega)) ?_ | refine And.intro (congrArg (fun z : Bool => some (Value.bool z)) (by first | exact (decide_eq_true (by omega)).symm | exact (decide_eq_false (by omega)).symm)) ?_) ⟨Nat.zero_le _, (by omega), (by omega), (fun _ k a hk => by omega), hB, hL, h1, hts⟩ ?_
 clear h1 hts hB hL
 rintro K5 i z W6 ⟨hi, hz0, hz1, hs, hB, hL, h1, hts⟩ hK5
 refine Sq fun K7 hK7 => (Sq fun K8 hK8 => (Rg (Pu rfl (Pu rfl (Va (dx_lenFM rfl ty_slice_24 rfl h1) rfl rfl (Va (dx_lss rfl rfl rfl) rfl rfl (Ni ?_)))))))
 refine hK8 ?_
 refine WC.cond rfl (fun c9 => ?_) (fun c9 => ?_)
 ·
  replace c9 := dT c9
  refine WC.skip (hK7 (Sq fun K10 hK10 => (WC.block (Rg (Pu rfl (Pu rfl (Pu rfl ?_)))))))
  obtain ⟨r11, e12⟩ : ∃ x, ts[i]? = some x := ⟨_, List.getElem?_eq_getElem (by omega)⟩
  refine Ge (dx_idxF i rfl ty_slice_24 rfl rfl h1 (by omega) (at_mapX e12)) rfl rfl ?_
  rintro u13 _ ⟨rfl, p14⟩
  refine Va (dx_loadPN rfl ty_agg_26_5 rfl p14 rfl) rfl rfl ?_
  refine Ge (dx_cv rfl Try.func28 rfl rfl rfl (weigh_all (n + 1) r11 1000 W6 _ hL (hts r11 (List.mem_of_getElem? e12)) (by omega))) rfl rfl ?_
  rintro _ W16 ⟨⟨wz, rfl, hw1, hw2, hws⟩, b15⟩
  replace h1 := h1.below b15
  replace hts := hts.below b15
  replace hB := below_then hB b15
  replace hL := LL.below hL b15
  refine Va (dx_add (r := z + wz) rfl rfl rfl (wrap64_id (by omega))) rfl rfl (Pu rfl (Ni (hK10 (Rg (Pu rfl (Va (dx_add (r := (i : Int) + 1) rfl rfl rfl (wrap64_id (by omega))) rfl rfl (Pu rfl ?_)))))))
  refine Ni ?_
  exact hK5 (i + 1) (z + wz) ⟨(by omega), (by omega), (by omega), (fun hh k a hk ha => by rcases Nat.lt_or_ge k i with hl | hl; exact hs (by omega) k a hl ha; obtain rfl : k = i := (by omega); rw [e12] at ha; cases ha; exact hws (by omega)), hB, hL, h1, hts⟩ (by omega) (by repeat first | exact trivial | exact And.intro rfl trivial | refine And.intro rfl ?_ | refine And.intro (congrArg (fun z : Int => some (Value.int .i64 z)) (by omega)) ?_ | refine And.intro (congrArg (fun z : Bool => some (Value.bool z)) (by first | exact (decide_eq_true (by omega)).symm | exact (decide_eq_false (by omega)).symm)) ?_)
 ·
  replace c9 := dF c9
  refine WC.exit ?_
  refine hK3 (Sq fun K17 hK17 => (Rg (Pu rfl (Va (dx_gtr rfl rfl rfl) rfl rfl (Pu rfl (Ni (hK17 ?_)))))))
  exact WC.ret fun a_ ha_ => hQ (cv_ret1 rfl (.tmp rfl) ⟨_, rfl, fun hb t ht => by obtain ⟨k, hk⟩ := List.getElem?_of_mem ht; exact hs (by have := of_decide_eq_false hb; omega) k t (by have := (List.getElem?_eq_some_iff.1 hk).1; omega) hk⟩ hB ha_)

theorem leaf_kind {up : ByteArray → Bool} {j : Js} (h : leafJ up j = true) : ¬ (j.kind = 5 ∨ j.kind = 6) := by
 unfold leafJ at h
 rintro (e | e) <;> rw [e] at h <;> simp at h
section
variable {P : Program} {ops : Array Oper} {md : Region.Mode}
theorem wpAny_factsV {Q : Exit → Act → World → Prop} (hb : ordB md ops = true) (a : Act) (G : (Nat → Bool) → (Nat → Value) → World → Prop) (F : Facts) (R : Nat → (Nat → Value) → World → World → Prop)
    (hF : ∀ i f w w' j g, R i f w w' → j ≠ i → i ∉ depsAt md ops j → F j g w → F j g w')
    (hstep : ∀ i o, ops[i]? = some o → ∀ L f w, L i = false → (∀ j, i ∈ depsAt md ops j → L j = false) → (∀ j ∈ depsOf md o, L j = true) → G L f w → (∀ j ∈ depsOf md o, F j (restr f (j :: depsAt md ops j)) w) →
      Does P ops o (putDeps ops f (depsOf md o) a) w fun v w' => R i (restr f (depsOf md o)) w w' ∧ G (upd L i true) (upd f i v) w' ∧ F i (restr (upd f i v) (i :: depsOf md o)) w')
    (hend : ∀ L f w, (∀ j, L j = decide (j < ops.size)) → G L f w → (∀ j, j < ops.size → F j (restr f (j :: depsAt md ops j)) w) → Q .normal (putDeps ops f (List.range ops.size) a) w) :
    ∀ (fuel : Nat) (listed : Array Bool) (f : Nat → Value) (a' : Act) (w : World), listed.size = ops.size → (listed.toList.countP (fun b => !b) ≤ fuel) →
      (∀ j, listed.getD j false = true → ∀ k ∈ depsAt md ops j, listed.getD k false = true) →
      Agrees ops (fun j => listed.getD j false = true) f a a' → G (fun j => listed.getD j false) f w → (∀ j, listed.getD j false = true → F j (restr f (j :: depsAt md ops j)) w) → wpAny P md ops Q fuel listed a' w := by
  have ho := ordB_own hb
  have fin : ∀ (listed : Array Bool) (f : Nat → Value) (a' : Act) (w : World), listed.size = ops.size → Region.ready md ops listed = [] →
      Agrees ops (fun j => listed.getD j false = true) f a a' → G (fun j => listed.getD j false) f w → (∀ j, listed.getD j false = true → F j (restr f (j :: depsAt md ops j)) w) → Q .normal a' w := by
    intro listed f a' w hsz hr hag hg hf
    have hl := all_listed hb hsz hr
    have hout : ∀ j, listed.getD j false = true → j < ops.size := by
      intro j h
      rcases Nat.lt_or_ge j ops.size with h' | h'
      · exact h'
      · simp [Array.getElem?_eq_none (by omega : listed.size ≤ j)] at h
    have e : a' = putDeps ops f (List.range ops.size) a := by
      refine hag.unique ((Agrees.of ho f a (List.range ops.size)).congr (fun j => ?_) (fun _ _ => rfl))
      rw [List.mem_range]
      exact ⟨hl j, hout j⟩
    rw [e]
    refine hend _ f w (fun j => ?_) hg fun j hj => hf j (hl j hj)
    by_cases hj : j < ops.size
    · rw [hl j hj]; simp [hj]
    · have : ¬ listed.getD j false = true := fun h => hj (hout j h)
      rw [Bool.not_eq_true] at this
      rw [this]; simp [hj]
  intro fuel
  induction fuel with
  | zero =>
    intro listed f a' w hsz hc hcl hag hg hf
    have hr : Region.ready md ops listed = [] := by
      rw [List.eq_nil_iff_forall_not_mem]
      intro j hj
      obtain ⟨h0, o, hoj, _⟩ := mem_ready.1 hj
      have hjs : j < ops.size := (Array.getElem?_eq_some_iff.1 hoj).1
      have hc0 : listed.toList.countP (fun b => !b) = 0 := by omega
      rw [List.countP_eq_zero] at hc0
      have h1 := hc0 listed[j] (by simp)
      rw [Array.getD_eq_getD_getElem?, Array.getElem?_eq_getElem (by omega)] at h0
      simp only [Option.getD_some] at h0
      rw [h0] at h1
      exact h1 rfl
    exact ⟨hr, fin listed f a' w hsz hr hag hg hf⟩
  | succ fuel ih =>
    intro listed f a' w hsz hc hcl hag hg hf
    refine ⟨fun hr => fin listed f a' w hsz hr hag hg hf, fun i hi => ?_⟩
    obtain ⟨h0, o, hoi, hdep⟩ := mem_ready.1 hi
    have his : i < ops.size := (Array.getElem?_eq_some_iff.1 hoi).1
    obtain ⟨hsel, hlt, hlook⟩ := ordB_deps hb hoi
    have hdl : ∀ j ∈ depsOf md o, listed.getD j false = true := by
      intro j hj
      obtain ⟨e, he, rfl⟩ := List.mem_map.1 hj
      obtain ⟨he1, he2⟩ := List.mem_filter.1 he
      exact hdep e (by simpa using he1) he2
    have hun : ¬ listed.getD i false = true := by
      intro h
      rw [Array.getD_eq_getD_getElem?, Array.getElem?_eq_getElem (by omega)] at h0 h
      simp only [Option.getD_some] at h0 h
      rw [h0] at h
      cases h
    have hA := Agrees.of ho f a (depsOf md o)
    have hdst : o.dst = dstAt ops i := by simp [dstAt, hoi]
    have hset : ∀ j, (listed.setIfInBounds i true).getD j false = upd (fun j => listed.getD j false) i true j := by
      intro j
      unfold upd
      by_cases e : j = i
      · subst e
        simp [Array.getD_eq_getD_getElem?, hsz, his]
      · rw [getD_set_ne false (fun h => e h.symm), if_neg e]
    refine Does.wpOp hoi hsel (a := putDeps ops f (depsOf md o) a) (by rw [hag.size, hA.size]) (fun t ht => ?_)
      (hstep i o hoi (fun j => listed.getD j false) f w (by simpa using hun) (fun j hj => by
        rw [← Bool.not_eq_true]
        exact fun h => hun (hcl j h i hj)) hdl hg fun j hj => hf j (hdl j hj)) fun v w' hR => ?_
    · by_cases hts : t < a.tmps.size
      · by_cases e : ∃ j, dstAt ops j = some t
        · obtain ⟨j, hd⟩ := e
          have hj' : j < ops.size := by
            rcases Nat.lt_or_ge j ops.size with h | h
            · exact h
            · simp [dstAt, Array.getElem?_eq_none h] at hd
          have hl := hlook j t hj' hd
          by_cases hjd : j ∈ depsOf md o
          · rw [hag.put j t (hdl j hjd) hd hts, hA.put j t hjd hd hts]
          · have hjl : ¬ listed.getD j false = true := by
              intro hjl
              rcases hl.1 ht with h | h | h
              · exact hun (h ▸ hjl)
              · exact hjd h
              · exact hun (hcl j hjl i h)
            rw [hag.same t (fun k hk hkd => hjl (ho k j t hkd hd ▸ hk)), hA.same t (fun k hk hkd => hjd (ho k j t hkd hd ▸ hk))]
        · have hn : ∀ j, dstAt ops j ≠ some t := fun j hj => e ⟨j, hj⟩
          rw [hag.same t (fun j _ => hn j), hA.same t (fun j _ => hn j)]
      · rw [Array.getElem?_eq_none (by rw [hag.size]; exact Nat.le_of_not_lt hts), Array.getElem?_eq_none (by rw [hA.size]; exact Nat.le_of_not_lt hts)]
    · obtain ⟨hR1, hR3, hR2⟩ := hR
      have hset' : ∀ j, (listed.setIfInBounds i true).getD j false = true ↔ (j = i ∨ listed.getD j false = true) := by
        intro j
        rw [hset j]
        unfold upd
        by_cases e : j = i <;> simp [e]
      rw [hdst]
      refine ih (listed.setIfInBounds i true) (upd f i v) _ w' (by simp [hsz]) ?_ ?_ ?_ (by rw [show (fun j => (listed.setIfInBounds i true).getD j false) = upd (fun j => listed.getD j false) i true from funext hset]; exact hR3) ?_
      · have hc2 : (listed.setIfInBounds i true).toList.countP (fun b => !b) + 1 ≤ listed.toList.countP (fun b => !b) := by
          rw [Array.toList_setIfInBounds]
          have hlen : i < listed.toList.length := by simpa [hsz] using his
          have hli : listed.toList[i] = false := by
            rw [Array.getD_eq_getD_getElem?, Array.getElem?_eq_getElem (by omega)] at h0
            simpa using h0
          rw [List.countP_set hlen, hli]
          have : 0 < listed.toList.countP (fun b => !b) := List.countP_pos_iff.2 ⟨false, by rw [← hli]; exact List.getElem_mem _, rfl⟩
          simp only [Bool.not_false, Bool.not_true, if_true, Bool.false_eq_true, if_false]
          omega
        omega
      · intro j hj k hk
        rw [hset'] at hj ⊢
        rcases hj with rfl | hj
        · rw [depsAt_eq hoi] at hk
          exact .inr (hdl k hk)
        · exact .inr (hcl j hj k hk)
      · exact hag.step ho i v hset' (fun j hji _ => by simp [upd, hji]) (by simp [upd])
      · intro j hj
        rw [hset'] at hj
        by_cases e : j = i
        · subst e
          rw [depsAt_eq hoi]
          exact hR2
        · have hjl := hj.resolve_left e
          have hnc : (j :: depsAt md ops j).contains i = false := by
            rw [← Bool.not_eq_true, List.contains_iff_mem, List.mem_cons]
            rintro (h | h)
            · exact e h.symm
            · exact hun (hcl j hjl i h)
          rw [restr_upd hnc]
          exact hF i _ w w' j _ hR1 e (fun h => hun (hcl j hjl i h)) (hf j hjl)
end
abbrev SV := List (Option Tmp × Option Value)
def sdV (g : Nat → Value) : Nat → SV → List (Option Tmp × VS)
 | _, [] => []
 | k, (d, some v) :: l => (d, .is v) :: sdV g (k + 1) l
 | k, (d, none) :: l => (d, .is (g k)) :: sdV g (k + 1) l
def okV (sv : SV) (k : Nat) (u : Value) : Prop := match sv[k]? with
 | some (_, some v) => u = v
 | _ => True
theorem sdV_fst (g : Nat → Value) : ∀ (k : Nat) (sv : SV), (sdV g k sv).map (·.1) = sv.map (·.1)
 | _, [] => rfl
 | k, (d, some v) :: l => by rw [sdV, List.map_cons, List.map_cons, sdV_fst g (k + 1) l]
 | k, (d, none) :: l => by rw [sdV, List.map_cons, List.map_cons, sdV_fst g (k + 1) l]
theorem sdV_at (g : Nat → Value) (W : World) : ∀ (sv : SV) (k j : Nat), okV sv j (g (k + j)) → okAt (sdV g k sv) j (g (k + j)) W
 | [], k, j, _ => by unfold okAt sdV; simp
 | (d, some v) :: l, k, 0, h => h
 | (d, none) :: l, k, 0, h => rfl
 | (d, some v) :: l, k, j + 1, h => by
  have := sdV_at g W l (k + 1) j (by rw [show k + 1 + j = k + (j + 1) by omega]; simpa [okV] using h)
  rw [show k + 1 + j = k + (j + 1) by omega] at this
  simpa [okAt, sdV] using this
 | (d, none) :: l, k, j + 1, h => by
  have := sdV_at g W l (k + 1) j (by rw [show k + 1 + j = k + (j + 1) by omega]; simpa [okV] using h)
  rw [show k + 1 + j = k + (j + 1) by omega] at this
  simpa [okAt, sdV] using this
def inV (N : Nat) (sv : SV) : Bool := sv.all fun p => match p.1 with
 | some d => decide (d < N)
 | none => true
theorem inV_in (g : Nat → Value) {N : Nat} : ∀ (k : Nat) (sv : SV), inV N sv = true → inN N (sdV g k sv) = true
 | _, [], _ => rfl
 | k, (d, some v) :: l, h => by
  unfold inV at h
  rw [List.all_cons, Bool.and_eq_true] at h
  unfold inN sdV
  rw [List.all_cons, Bool.and_eq_true]
  exact ⟨h.1, inV_in g (k + 1) l h.2⟩
 | k, (d, none) :: l, h => by
  unfold inV at h
  rw [List.all_cons, Bool.and_eq_true] at h
  unfold inN sdV
  rw [List.all_cons, Bool.and_eq_true]
  exact ⟨h.1, inV_in g (k + 1) l h.2⟩
def DStepsV (P : Program) (ops : Array Oper) (N : Nat) (G : (Nat → Bool) → (Nat → Value) → World → Prop) (sv : SV) (dl : List (List Nat)) (f : Fl) : Nat → List Oper → Prop
 | _, [] => True
 | k, o :: l => (∀ L g W, L k = false → (∀ j, k ∈ (dl[j]?).getD [] → L j = false) → (∀ j ∈ (dl[k]?).getD [], L j = true) → G L g W → DStep P ops o N W (sdV g 0 sv) (fun v W' => G (upd L k true) (upd g k v) W' ∧ okV sv k v) ((dl[k]?).getD []) f) ∧ DStepsV P ops N G sv dl f (k + 1) l
section
variable {P : Program} {N : Nat} {sv : SV} {dl : List (List Nat)}
theorem WC.drawV {id : Nat} {f : Fl} {w : World} {Q : Exit → Act → World → Prop} (G : (Nat → Bool) → (Nat → Value) → World → Prop) (m : Nat) {ops : List Oper} (sv : SV) (dl : List (List Nat)) (hm : P.follows .mixedOrders = true) (hb : ordB .any ops.toArray = true) (hbp : ordB .any (ops.take m).toArray = true) (ht : tailB .any ops.toArray (ops.take m).length = true) (hdl : (ops.take m).map (depsOf .any) = dl)
    (hds : (ops.take m).map (·.dst) = sv.map (·.1)) (hN : inV N sv = true) (hG0 : ∀ g, G (fun _ => false) g w.drew) (hst : DStepsV P (ops.take m).toArray N G sv dl f 0 (ops.take m))
    (hend : ∀ g W, G (fun j => decide (j < (ops.take m).length)) g W → DEnd (fun f W => WL P ops.toArray Q N (ops.drop m) f W) W (sdV g 0 sv) f) : WC P N (.region id ops.toArray true) Q f w := fun a ha => by
  obtain ⟨pre, hpre⟩ : ∃ pre, pre = ops.take m := ⟨_, rfl⟩
  obtain ⟨suf, hsuf⟩ : ∃ suf, suf = ops.drop m := ⟨_, rfl⟩
  have hops : pre ++ suf = ops := by rw [hpre, hsuf]; exact List.take_append_drop m ops
  rw [← hpre] at hbp ht hdl hds hst hend
  rw [← hsuf] at hend
  clear hpre hsuf
  subst hops
  have hlen : dl.length = sv.length := by rw [← hdl, List.length_map, ← List.length_map (f := (·.dst)), hds, List.length_map]
  have hpl : pre.length = dl.length := by rw [← hdl, List.length_map]
  refine wp_region_any hm ?_
  have hrep : Array.replicate (pre ++ suf).toArray.size false = Array.replicate pre.toArray.size false ++ Array.replicate suf.length false := by
    simp [Array.replicate_append_replicate]
  rw [hrep]
  have hsz : (pre ++ suf).toArray.size = pre.toArray.size + suf.length := by simp
  rw [hsz]
  refine pre_tail (pre := pre.toArray) (suf := suf) hb hbp (by simp) (by simpa using ht) pre.toArray.size _ (by simp) (fun j hj => by simp [Array.getD_eq_getD_getElem?, Array.getElem?_replicate] at hj; split at hj <;> simp_all) a w.drew ?_
  have hda : ∀ j, depsAt .any pre.toArray j = (dl[j]?).getD [] := by
    intro j
    subst hdl
    simp only [depsAt, List.getElem?_map, List.getElem?_toArray]
  have hF0 : ∀ j, (Array.replicate pre.toArray.size false).getD j false = true → False := fun j hj => by simp [Array.getD_eq_getD_getElem?, Array.getElem?_replicate] at hj; split at hj <;> simp_all
  have hds' : ∀ g, pre.map (·.dst) = (sdV g 0 sv).map (·.1) := fun g => by rw [hds, sdV_fst]
  refine wpAny_factsV hbp a G (fun j g W => okV sv j (g j)) (fun i _ W W' => True) ?_ ?_ ?_ pre.toArray.size _ (fun _ => undef) a w.drew (by simp) (by
      have := List.countP_le_length (p := fun b => !b) (l := (Array.replicate pre.toArray.size false).toList)
      simpa using this) (fun j hj => (hF0 j hj).elim) (Agrees.start fun j hj => hF0 j hj) (by
      have e : (fun j => (Array.replicate pre.toArray.size false).getD j false) = fun _ => false := by
        funext j
        cases hj : (Array.replicate pre.toArray.size false).getD j false with
        | false => rfl
        | true => exact (hF0 j hj).elim
      rw [e]
      exact hG0 _) (fun j hj => (hF0 j hj).elim)
  · intro i g W W' j g' hB hne hnd h
    exact h
  · intro i o hoi L g W hLi hdn hdd hG hd
    have key : ∀ (l : List Oper) (k : Nat), DStepsV P pre.toArray N G sv dl f k l → ∀ j o, l[j]? = some o → ∀ L g W, L (k + j) = false → (∀ q, (k + j) ∈ (dl[q]?).getD [] → L q = false) → (∀ q ∈ (dl[k + j]?).getD [], L q = true) → G L g W → DStep P pre.toArray o N W (sdV g 0 sv) (fun v W' => G (upd L (k + j) true) (upd g (k + j) v) W' ∧ okV sv (k + j) v) ((dl[k + j]?).getD []) f := by
      intro l
      induction l with
      | nil => intro k _ j o h; simp at h
      | cons x l ih =>
        intro k hs j o h
        cases j with
        | zero =>
          simp only [List.getElem?_cons_zero, Option.some.injEq] at h
          subst h
          exact hs.1
        | succ j =>
          have := ih (k + 1) hs.2 j o (by simpa using h)
          rw [show k + (j + 1) = k + 1 + j by omega]
          exact this
    have hdo : depsOf .any o = (dl[i]?).getD [] := by rw [← hda i, depsAt_eq hoi]
    have hk := key pre 0 hst i o (by simpa using hoi) L g W (by rw [Nat.zero_add]; exact hLi) (by rw [Nat.zero_add]; intro q hq; exact hdn q (by rw [hda q]; exact hq)) (by rw [Nat.zero_add, ← hdo]; exact hdd) hG
    rw [Nat.zero_add] at hk
    rw [hdo] at hd ⊢
    rw [putL_eq (ds := (sdV g 0 sv).map (·.1)) (by simpa using hds' g)]
    have hH : HypL (fun j g' w => okAt (sdV g 0 sv) j (g' j) w) dl g W ((dl[i]?).getD []) := HypL.of _ fun j hj => by
      have h := hd j hj
      rw [hda j] at h
      rw [restr_self] at h ⊢
      have := sdV_at g W sv 0 j (by rw [Nat.zero_add]; exact h)
      rwa [Nat.zero_add] at this
    refine (DStep.to (inV_in g 0 sv hN) _ f a hk ha hH).mono fun v W' h => ⟨trivial, h.1, ?_⟩
    simp only [restr_self]
    rw [show upd g i v i = v by simp [upd]]
    exact h.2
  · intro L g W hL hG hd
    rw [putL_eq (ds := (sdV g 0 sv).map (·.1)) (by simpa using hds' g)]
    have hsl : (sdV g 0 sv).length = sv.length := by rw [← List.length_map (f := (·.1)), sdV_fst, List.length_map]
    have hH : HypL (fun j g' w => okAt (sdV g 0 sv) j (g' j) w) dl g W (List.range' 0 (sdV g 0 sv).length) := HypL.of _ fun j hj => by
      have hj' : j < pre.toArray.size := by
        simp [List.mem_range'] at hj
        simp
        omega
      have h := hd j hj'
      rw [hda j] at h
      rw [restr_self] at h ⊢
      have := sdV_at g W sv 0 j (by rw [Nat.zero_add]; exact h)
      rwa [Nat.zero_add] at this
    have hLe : L = fun j => decide (j < pre.length) := by
      funext j
      rw [hL j]
      simp
    rw [hLe] at hG
    have hfin := DEnd.to (Q := fun a W => wpList P (pre ++ suf).toArray Q suf a W) (inV_in g 0 sv hN) (fun f h a ha => h a ha) (sdV g 0 sv) 0 f a (by simp) (hend g W hG) ha hH
    show wpOps P (pre ++ suf).toArray Q (List.range' pre.toArray.size suf.length) _ _
    rw [wpOps_eq_wpList suf pre.toArray.size (fun j => by simp [List.getElem?_append_right])]
    rw [List.range_eq_range', show pre.toArray.size = (sdV g 0 sv).length by rw [hsl]; simp; omega]
    exact hfin
end
set_option maxHeartbeats 1000000 in
theorem rightObj_v (n : Nat) (t : Tr) (w : World) (L : List Nat) (hL : LL L w) (ht : RdT (n + 1) L w t)  (hz : SzT 1000000 (n + 1) t) : CV Try.prog 46 [.agg #[.int .i64 t.kind, .int .i64 t.num, .string t.text, t.nv, t.iv]] w fun v W => v = .bool (decide (t.kind = 6) && rightJ upB 12 t.er) := by
 refine cv_enter (N := 10) (f := [(0, .agg #[.int .i64 t.kind, .int .i64 t.num, .string t.text, t.nv, t.iv])]) Try.func46 rfl rfl rfl rfl fun Q hQ hE => ?_
 have hB := Below.refl w.heap.size w
 refine Sq fun K1 hK1 => ?_
 obtain ⟨hnt, hit, hct⟩ := ht
 replace hct : RdTs n (L) w t.items := hct
 refine Rg ?_
 refine Ge (dx_box rfl rfl rfl) rfl rfl ?_
 rintro _ W2 ⟨rfl, k3, b4, z5⟩
 have l6 := hB.size
 replace hnt := hnt.more b4 (Nat.le_refl _)
 replace hit := hit.more b4 (Nat.le_refl _)
 replace hct := hct.more b4 (Nat.le_refl _)
 replace hB := below_then hB b4
 replace hL := LL.more hL z5
 refine Pu rfl (Ni (hK1 (Sq fun K7 hK7 => (Rg (Va (dx_fld (o1 := 0) rfl ty_fld_26_0_0 rfl rfl) rfl rfl (Va (dx_load rfl ty_one_3 rfl (k3.cell (k := 0) rfl)) rfl rfl (Va (dx_eql rfl rfl rfl) rfl rfl ?_)))))))
 refine Pu rfl ?_
 refine WL.split 6 rfl (fun g8 => ?_) (fun g8 => ?_)
 ·
  replace g8 := dT g8
  refine Va (dx_loadN rfl ty_agg_26_5 rfl k3.range rfl) rfl rfl ?_
  refine Ge (dx_cv rfl Try.func15 rfl rfl rfl (jRight_v n t W2 _ hL (show RdT (n + 1) (w.heap.size :: L) W2 t from ⟨hnt, hit, hct⟩) hz)) rfl rfl ?_
  rintro _ W10 ⟨rfl, b9⟩
  replace hB := below_then hB b9
  refine Pu rfl (Pu rfl (Ni (hK7 ?_)))
  exact WC.ret fun a_ ha_ => hQ (cv_ret1 rfl (.tmp rfl) (by first | rfl | (simp [*]; done)) hB ha_)
 ·
  replace g8 := dF g8
  refine Of rfl (Of rfl (Pu rfl (Pu rfl (Ni (hK7 ?_)))))
  exact WC.ret fun a_ ha_ => hQ (cv_ret1 rfl (.tmp rfl) (by first | rfl | (simp [*]; done)) hB ha_)

set_option maxHeartbeats 1000000 in
theorem cloneNT_v  (w : World) (L : List Nat) (hL : LL L w)  : CV Try.prog 47 [.slice none 0 0] w fun v W => v = .slice none 0 0 := by
 refine cv_enter (N := 8) (f := [(0, .slice none 0 0)]) Try.func47 rfl rfl rfl rfl fun Q hQ hE => ?_
 have hB := Below.refl w.heap.size w
 refine WC.seq fun K1 hK1 => (WC.region (Pu rfl (WL.nil (hK1 (WC.seq fun K2 hK2 => (WC.seq fun K3 hK3 => (WC.region ?_)))))))
 refine Pu rfl (WL.val (dx_nilT rfl Try.underlying23 rfl) rfl rfl (WL.nil (hK3 (WC.condT rfl (WC.seq fun K4 hK4 => (WC.region (Pu rfl ?_)))))))
 refine WL.nil (hK4 ?_)
 exact WC.ret fun a_ ha_ => hQ (cv_ret1 rfl (.tmp rfl) rfl hB ha_)

set_option maxHeartbeats 1000000 in
theorem cloneET_v (rs : List (List Value)) (sv : Value) (a : Addr) (n c : Nat) (w : World) (L : List Nat) (hL : LL L w) (h1 : RdF 1 L w sv rs)  (hs : sv = .slice (some a) n c) (hone : ∀ r ∈ rs, ∀ u ∈ r, u.oneCell' = true) (hsm : rs.length * 16 ≤ 140737488355328) : CV Try.prog 47 [sv] w fun v W => NewS 1 w.heap.size rs v W := by
 refine cv_enter (N := 8) (f := [(0, sv)]) Try.func47 rfl rfl rfl rfl fun Q hQ hE => ?_
 have hB := Below.refl w.heap.size w
 refine WC.seq fun K1 hK1 => (WC.region (Pu rfl (WL.nil (hK1 (WC.seq fun K2 hK2 => (WC.seq fun K3 hK3 => (WC.region ?_)))))))
 refine Pu rfl (WL.val (dx_nilS rfl Try.underlying23 rfl hs) rfl rfl (WL.nil (hK3 (WC.condF rfl (WC.skip (hK2 (WC.seq fun K4 hK4 => ?_)))))))
 refine WC.region ?_
 refine WL.get (dx_lit0E rfl ty_ap_23 (by decide)) rfl rfl ?_
 rintro u5 W6 ⟨b7, e8⟩
 replace h1 := h1.below b7
 replace hB := below_then hB b7
 refine Pu rfl ?_
 refine WL.get (dx_apN rfl ty_ap_23 rfl rfl e8 h1 hone (by unfold maxLen; omega) (by omega) hB.size) rfl rfl ?_
 rintro u9 W10 ⟨b11, e12⟩
 replace hB := below_then hB b11
 refine Pu rfl (WL.nil (hK4 ?_))
 exact WC.ret fun a_ ha_ => hQ (cv_ret1 rfl (.tmp rfl) e12 hB ha_)

theorem cloneST_v (rs : List (List Value)) (sv : Value) (w : World) (L : List Nat) (hL : LL L w) (h1 : RdF 1 L w sv rs) (hone : ∀ r ∈ rs, ∀ u ∈ r, u.oneCell' = true) (hsm : rs.length * 16 ≤ 140737488355328) : CV Try.prog 47 [sv] w fun v W => NewW 1 w.heap.size rs v W := by
 rcases h1.nil_or with ⟨rfl, rfl⟩ | ⟨a, n, c, hs⟩
 · exact (cloneNT_v w L hL).mono fun v W _ h => .inl ⟨h, rfl, by decide⟩
 · exact (cloneET_v rs sv a n c w L hL h1 hs hone hsm).mono fun v W _ h => NewS.toW' h
set_option maxHeartbeats 1000000 in
theorem cloneNV_v  (w : World) (L : List Nat) (hL : LL L w)  : CV Try.prog 48 [.slice none 0 0] w fun v W => v = .slice none 0 0 := by
 refine cv_enter (N := 8) (f := [(0, .slice none 0 0)]) Try.func48 rfl rfl rfl rfl fun Q hQ hE => ?_
 have hB := Below.refl w.heap.size w
 refine WC.seq fun K1 hK1 => (WC.region (Pu rfl (WL.nil (hK1 (WC.seq fun K2 hK2 => (WC.seq fun K3 hK3 => (WC.region ?_)))))))
 refine Pu rfl (WL.val (dx_nilT rfl Try.underlying24 rfl) rfl rfl (WL.nil (hK3 (WC.condT rfl (WC.seq fun K4 hK4 => (WC.region (Pu rfl ?_)))))))
 refine WL.nil (hK4 ?_)
 exact WC.ret fun a_ ha_ => hQ (cv_ret1 rfl (.tmp rfl) rfl hB ha_)

set_option maxHeartbeats 1000000 in
theorem cloneEV_v (rs : List (List Value)) (sv : Value) (a : Addr) (n c : Nat) (w : World) (L : List Nat) (hL : LL L w) (h1 : RdF 5 L w sv rs)  (hs : sv = .slice (some a) n c) (hone : ∀ r ∈ rs, ∀ u ∈ r, u.oneCell' = true) (hsm : rs.length * 80 ≤ 140737488355328) : CV Try.prog 48 [sv] w fun v W => NewS 5 w.heap.size rs v W := by
 refine cv_enter (N := 8) (f := [(0, sv)]) Try.func48 rfl rfl rfl rfl fun Q hQ hE => ?_
 have hB := Below.refl w.heap.size w
 refine WC.seq fun K1 hK1 => (WC.region (Pu rfl (WL.nil (hK1 (WC.seq fun K2 hK2 => (WC.seq fun K3 hK3 => (WC.region ?_)))))))
 refine Pu rfl (WL.val (dx_nilS rfl Try.underlying24 rfl hs) rfl rfl (WL.nil (hK3 (WC.condF rfl (WC.skip (hK2 (WC.seq fun K4 hK4 => ?_)))))))
 refine WC.region ?_
 refine WL.get (dx_lit0E rfl ty_ap_24 (by decide)) rfl rfl ?_
 rintro u5 W6 ⟨b7, e8⟩
 replace h1 := h1.below b7
 replace hB := below_then hB b7
 refine Pu rfl ?_
 refine WL.get (dx_apN rfl ty_ap_24 rfl rfl e8 h1 hone (by unfold maxLen; omega) (by omega) hB.size) rfl rfl ?_
 rintro u9 W10 ⟨b11, e12⟩
 replace hB := below_then hB b11
 refine Pu rfl (WL.nil (hK4 ?_))
 exact WC.ret fun a_ ha_ => hQ (cv_ret1 rfl (.tmp rfl) e12 hB ha_)

theorem cloneSV_v (rs : List (List Value)) (sv : Value) (w : World) (L : List Nat) (hL : LL L w) (h1 : RdF 5 L w sv rs) (hone : ∀ r ∈ rs, ∀ u ∈ r, u.oneCell' = true) (hsm : rs.length * 80 ≤ 140737488355328) : CV Try.prog 48 [sv] w fun v W => NewW 5 w.heap.size rs v W := by
 rcases h1.nil_or with ⟨rfl, rfl⟩ | ⟨a, n, c, hs⟩
 · exact (cloneNV_v w L hL).mono fun v W _ h => .inl ⟨h, rfl, by decide⟩
 · exact (cloneEV_v rs sv a n c w L hL h1 hs hone hsm).mono fun v W _ h => NewS.toW' h
def vB : Value → Option Nat
 | .slice (some a) _ _ => some a.block
 | .pointer (some a) => some a.block
 | _ => none
def apV (u v : Value) : Prop := ∀ B, vB u = some B → vB v ≠ some B
theorem OwS.vB {s : Nat} {w : World} {u : Value} {rs : List (List Value)} {B : Nat} (h : OwS s w u rs B) : vB u = some B := by
 obtain ⟨h0, hr, cap, sp, rfl, _⟩ := h
 rfl
theorem NewW.lt {s b : Nat} {w : World} {u : Value} {rs : List (List Value)} (h : NewW s b rs u w) {B : Nat} (hB : Go.Proofs.Ytpinidlfcifeeaa.vB u = some B) : b ≤ B ∧ B < w.heap.size := by
 rcases h with ⟨rfl, _⟩ | ⟨C, h1, h2⟩
 · cases hB
 · rw [h2.vB] at hB; cases hB; exact ⟨h1, h2.lt⟩
theorem NewW.one {s b : Nat} {w : World} {u : Value} {rs : List (List Value)} (h : NewW s b rs u w) : u.oneCell' = true := by
 rcases h with ⟨rfl, _⟩ | ⟨C, h1, h2⟩
 · rfl
 · exact h2.one
theorem ap_ne {u v : Value} (h : apV u v) {B C : Nat} (hu : vB u = some B) (hv : vB v = some C) : B ≠ C := fun e => h B hu (by rw [e]; exact hv)
def H5 (W0 : World) (ns ts : List (List Value)) (l2 l5 l6 l7 : Bool) (u2 u5 u6 u7 : Value) (W : World) : Prop :=
 Below W0.heap.size W0 W ∧ (l2 = true → NewW 1 W0.heap.size ns u2 W) ∧ (l5 = true → NewW 5 W0.heap.size ts u5 W) ∧ (l6 = true → u6 = .agg #[.int .i64 6, .int .i64 0, .string ⟨#[]⟩, u2, u5]) ∧
 (l7 = true → ∃ B, u7 = .pointer (some ⟨B, 0, none⟩) ∧ W0.heap.size ≤ B ∧ Blk W B zR) ∧ (l2 = true → l5 = true → apV u2 u5) ∧ (l2 = true → l7 = true → apV u2 u7) ∧ (l5 = true → l7 = true → apV u5 u7)
theorem begin5 {W0 : World} {ns ts : List (List Value)} {u2 u5 u6 u7 : Value} : H5 W0 ns ts false false false false u2 u5 u6 u7 W0.drew :=
 ⟨below_draws (Below.refl _ _) 1, fun h => (by cases h), fun h => (by cases h), fun h => (by cases h), fun h => (by cases h), fun h => (by cases h), fun h => (by cases h), fun h => (by cases h)⟩
theorem newW_le {s b b' : Nat} {w : World} {u : Value} {rs : List (List Value)} (h : NewW s b rs u w) (hb : b' ≤ b) : NewW s b' rs u w := by
 rcases h with h | ⟨C, h1, h2⟩
 · exact .inl h
 · exact .inr ⟨C, Nat.le_trans hb h1, h2⟩
theorem h5_2 {W0 W W' : World} {ns ts : List (List Value)} {l5 l6 l7 : Bool} {u2 u5 u6 u7 v : Value} (h : H5 W0 ns ts false l5 l6 l7 u2 u5 u6 u7 W) (h5 : l5 = false) (h6 : l6 = false) (hv : NewW 1 W.heap.size ns v W') (hb : Below W.heap.size W W') : H5 W0 ns ts true l5 l6 l7 v u5 u6 u7 W' := by
  subst h5 h6
  obtain ⟨a1, a2, a3, a4, a5, a6, a7, a8⟩ := h
  refine ⟨below_then a1 hb, fun _ => newW_le hv a1.size, fun h => (by cases h), fun h => (by cases h), fun h => ?_, fun _ h => (by cases h), fun _ h => ?_, fun h => (by cases h)⟩
  · obtain ⟨B, e, k1, k2⟩ := a5 h; exact ⟨B, e, k1, k2.below hb⟩
  · obtain ⟨B, e, k1, k2⟩ := a5 h
    subst e
    intro C hC e
    have := (hv.lt hC).1
    have e := Option.some.inj (show some B = some C from e)
    have := k2.lt
    omega
theorem h5_5 {W0 W W' : World} {ns ts : List (List Value)} {l2 l6 l7 : Bool} {u2 u5 u6 u7 v : Value} (h : H5 W0 ns ts l2 false l6 l7 u2 u5 u6 u7 W) (h6 : l6 = false) (hv : NewW 5 W.heap.size ts v W') (hb : Below W.heap.size W W') : H5 W0 ns ts l2 true l6 l7 u2 v u6 u7 W' := by
  subst h6
  obtain ⟨a1, a2, a3, a4, a5, a6, a7, a8⟩ := h
  refine ⟨below_then a1 hb, fun h => (a2 h).below hb, fun _ => newW_le hv a1.size, fun h => (by cases h), fun h => ?_, fun h _ => ?_, a7, fun _ h => ?_⟩
  · obtain ⟨B, e, k1, k2⟩ := a5 h; exact ⟨B, e, k1, k2.below hb⟩
  · intro C hC e
    have := ((a2 h).lt hC).2
    have := (hv.lt e).1
    omega
  · obtain ⟨B, e, k1, k2⟩ := a5 h
    subst e
    intro C hC e
    have := (hv.lt hC).1
    have e := Option.some.inj (show some B = some C from e)
    have := k2.lt
    omega
theorem h5_6 {W0 W : World} {ns ts : List (List Value)} {l2 l5 l6 l7 : Bool} {u2 u5 u6 u7 v : Value} (h : H5 W0 ns ts l2 l5 l6 l7 u2 u5 u6 u7 W) (hv : v = .agg #[.int .i64 6, .int .i64 0, .string ⟨#[]⟩, u2, u5]) : H5 W0 ns ts l2 l5 true l7 u2 u5 v u7 W := by
 obtain ⟨a1, a2, a3, a4, a5, a6, a7, a8⟩ := h
 exact ⟨a1, a2, a3, fun _ => hv, a5, a6, a7, a8⟩
theorem h5_7 {W0 W W' : World} {ns ts : List (List Value)} {l2 l5 l6 l7 : Bool} {u2 u5 u6 u7 : Value} (h : H5 W0 ns ts l2 l5 l6 l7 u2 u5 u6 u7 W) (hk : Blk W' W.heap.size zR) (hb : Below W.heap.size W W') : H5 W0 ns ts l2 l5 l6 true u2 u5 u6 (.pointer (some ⟨W.heap.size, 0, none⟩)) W' := by
  obtain ⟨a1, a2, a3, a4, a5, a6, a7, a8⟩ := h
  refine ⟨below_then a1 hb, fun h => (a2 h).below hb, fun h => (a3 h).below hb, a4, fun _ => ⟨_, rfl, a1.size, hk⟩, a6, fun h _ => ?_, fun h _ => ?_⟩
  · intro C hC e
    have := ((a2 h).lt hC).2
    have e := Option.some.inj (show some W.heap.size = some C from e)
    omega
  · intro C hC e
    have := ((a3 h).lt hC).2
    have e := Option.some.inj (show some W.heap.size = some C from e)
    omega
theorem rises_of_J : ∀ {l : List ByteArray}, risesJ l = true → Rises l
 | [], _ => List.Pairwise.nil
 | [a], _ => List.pairwise_singleton _ _
 | a :: b :: l, h => by
  unfold risesJ at h
  rw [Bool.and_eq_true] at h
  have ih := rises_of_J (l := b :: l) h.2
  refine List.Pairwise.cons (fun c hc => ?_) ih
  rcases List.mem_cons.1 hc with rfl | hc
  · exact h.1
  · exact sless_trans _ _ _ h.1 ((List.pairwise_cons.1 ih).1 c hc)
theorem obj_right {up : ByteArray → Bool} {n : Nat} {j : Js} (hk : j.kind = 6) (h : rightJ up (n + 1) j = true) : Rises j.names ∧ j.names.length = j.items.length := by
  rw [rightJ, Bool.or_eq_true] at h
  rcases h with h | h
  · exact absurd (.inr hk) (leaf_kind h)
  · rw [Bool.and_eq_true] at h
    have h1 := h.1
    unfold nodeJ at h1
    rw [hk] at h1
    simp at h1
    exact ⟨rises_of_J h1.2.2.1, h1.2.1⟩
def putJ (j : Js) (nm : ByteArray) (x : Js) : Js := if j.names[lbT nm j.names]? = some nm then .mk 6 0 ⟨#[]⟩ j.names (j.items.set (lbT nm j.names) x) else .mk 6 0 ⟨#[]⟩ (insA (lbT nm j.names) nm j.names) (insA (lbT nm j.names) x j.items)
def withJ (j : Js) (nm : ByteArray) (x : Js) : Except Int Js := if (decide (j.kind = 6) && rightJ upB 12 j) = true ∧ rightJ upB 12 x = true ∧ upB nm = true then (if 12 ≤ deepJ 13 x then .error 4 else .ok (putJ j nm x)) else .error 1
theorem putJ_t {j : Js} {nm : ByteArray} {x : Js} {a : Nat} (ha : a = lbT nm j.names) (h : j.names[a]? = some nm) : putJ j nm x = .mk 6 0 ⟨#[]⟩ j.names (j.items.set a x) := by subst ha; unfold putJ; rw [if_pos h]
theorem putJ_f {j : Js} {nm : ByteArray} {x : Js} {a : Nat} (ha : a = lbT nm j.names) (h : ¬ j.names[a]? = some nm) : putJ j nm x = .mk 6 0 ⟨#[]⟩ (insA a nm j.names) (insA a x j.items) := by subst ha; unfold putJ; rw [if_neg h]
theorem withJ_ok {j : Js} {nm : ByteArray} {x : Js} (h1 : (decide (j.kind = 6) && rightJ upB 12 j) = true) (h2 : rightJ upB 12 x = true) (h3 : upB nm = true) (h4 : ¬ 12 ≤ deepJ 13 x) : withJ j nm x = .ok (putJ j nm x) := by unfold withJ; rw [if_pos ⟨h1, h2, h3⟩, if_neg h4]
theorem withJ_4 {j : Js} {nm : ByteArray} {x : Js} (h1 : (decide (j.kind = 6) && rightJ upB 12 j) = true) (h2 : rightJ upB 12 x = true) (h3 : upB nm = true) (h4 : 12 ≤ deepJ 13 x) : withJ j nm x = .error 4 := by unfold withJ; rw [if_pos ⟨h1, h2, h3⟩, if_pos h4]
theorem withJ_1 {j : Js} {nm : ByteArray} {x : Js} (h : ¬ ((decide (j.kind = 6) && rightJ upB 12 j) = true ∧ rightJ upB 12 x = true ∧ upB nm = true)) : withJ j nm x = .error 1 := by unfold withJ; rw [if_neg h]
theorem bsearchB_v (ts : List ByteArray) (x : ByteArray) (tv : Value) (w : World) (L : List Nat) (hL : LL L w) (h3 : RdF 1 L w tv (ts.map eS)) (hr : Rises ts) (hsm : ts.length ≤ 1000000000000) : CV Try.prog 49 [tv, .string x] w fun v W => ∃ k : Nat, k = lbT x ts ∧ k ≤ ts.length ∧ v = .tuple #[.int .i64 (k : Int), .bool (decide (ts[k]? = some x))] := bsearchA_v ts x tv w L hL h3 hr hsm
set_option maxHeartbeats 2000000 in
theorem jWith_v (n : Nat) (p q : Tr) (name : ByteArray) (w : World) (L : List Nat) (hL : LL L w) (htp : RdT (n + 1) L w p) (htq : RdT (n + 1) L w q)  (hzp : SzT 1000000 (n + 1) p) (hzq : SzT 1000000 (n + 1) q) (hns_ : name.size ≤ 1000000) : CV Try.prog 24 [.agg #[.int .i64 p.kind, .int .i64 p.num, .string p.text, p.nv, p.iv], .string name, .agg #[.int .i64 q.kind, .int .i64 q.num, .string q.text, q.nv, q.iv]] w fun v W => (∃ t, v = .tuple #[.agg #[.int .i64 t.kind, .int .i64 t.num, .string t.text, t.nv, t.iv], .int .i64 0] ∧ withJ p.er name q.er = .ok t.er ∧ RdT (n + 2) L W t) ∨ (∃ e, v = .tuple #[.agg #[.int .i64 0, .int .i64 0, .string ⟨#[]⟩, .slice none 0 0, .slice none 0 0], .int .i64 e] ∧ e ≠ 0 ∧ withJ p.er name q.er = .error e) := by
 refine cv_enter (N := 66) (f := [(0, .agg #[.int .i64 p.kind, .int .i64 p.num, .string p.text, p.nv, p.iv]), (1, .string name), (2, .agg #[.int .i64 q.kind, .int .i64 q.num, .string q.text, q.nv, q.iv])]) Try.func24 rfl rfl rfl rfl fun Q hQ hE => ?_
 have hB := Below.refl w.heap.size w
 have hL0 := hL
 refine Sq fun K1 hK1 => ?_
 obtain ⟨hnp, hip, hcp⟩ := htp
 replace hcp : RdTs n (L) w p.items := hcp
 obtain ⟨hnq, hiq, hcq⟩ := htq
 replace hcq : RdTs n (L) w q.items := hcq
 have hpl : p.names.length ≤ 1000000 ∧ p.items.length ≤ 1000000 := ⟨hzp.2.1, hzp.2.2.1⟩
 refine Rg ?_
 refine Ge (dx_box rfl rfl rfl) rfl rfl ?_
 rintro _ W2 ⟨rfl, k3, b4, z5⟩
 have l6 := hB.size
 replace hnp := hnp.more b4 (Nat.le_refl _)
 replace hip := hip.more b4 (Nat.le_refl _)
 replace hcp := hcp.more b4 (Nat.le_refl _)
 replace hnq := hnq.more b4 (Nat.le_refl _)
 replace hiq := hiq.more b4 (Nat.le_refl _)
 replace hcq := hcq.more b4 (Nat.le_refl _)
 replace hB := below_then hB b4
 replace hL := LL.more hL z5
 refine Ge (dx_box rfl rfl rfl) rfl rfl ?_
 rintro _ W7 ⟨rfl, k8, b9, z10⟩
 have l12 := hB.size
 replace hnp := hnp.more b9 (Nat.le_refl _)
 replace hip := hip.more b9 (Nat.le_refl _)
 replace hcp := hcp.more b9 (Nat.le_refl _)
 replace hnq := hnq.more b9 (Nat.le_refl _)
 replace hiq := hiq.more b9 (Nat.le_refl _)
 replace hcq := hcq.more b9 (Nat.le_refl _)
 replace k3 := k3.below b9
 replace hB := below_then hB b9
 replace hL := LL.more hL z10
 refine Ge (dx_alloc rfl ty_zero_26 rfl) rfl rfl ?_
 rintro _ W13 ⟨rfl, k14, b15, z16⟩
 have l19 := hB.size
 replace hnp := hnp.more b15 (Nat.le_refl _)
 replace hip := hip.more b15 (Nat.le_refl _)
 replace hcp := hcp.more b15 (Nat.le_refl _)
 replace hnq := hnq.more b15 (Nat.le_refl _)
 replace hiq := hiq.more b15 (Nat.le_refl _)
 replace hcq := hcq.more b15 (Nat.le_refl _)
 replace k3 := k3.below b15
 replace k8 := k8.below b15
 replace hB := below_then hB b15
 replace hL := LL.more hL z16
 refine Pu rfl (Ni (hK1 (Sq fun K20 hK20 => (Sq fun K21 hK21 => (Rg (Va (dx_loadN rfl ty_agg_26_5 rfl k3.range rfl) rfl rfl ?_))))))
 refine Ge (dx_cv rfl Try.func46 rfl rfl rfl (rightObj_v n p W13 _ hL (show RdT (n + 1) (W7.heap.size :: W2.heap.size :: w.heap.size :: L) W13 p from ⟨hnp, hip, hcp⟩) hzp)) rfl rfl ?_
 rintro _ W23 ⟨rfl, b22⟩
 replace hnp := hnp.below b22
 replace hip := hip.below b22
 replace hcp := hcp.below b22
 replace hnq := hnq.below b22
 replace hiq := hiq.below b22
 replace hcq := hcq.below b22
 replace k3 := k3.below b22
 replace k8 := k8.below b22
 replace k14 := k14.below b22
 replace hB := below_then hB b22
 replace hL := LL.below hL b22
 refine Va (dx_not rfl rfl) rfl rfl (Pu rfl ?_)
 refine WL.split 14 rfl (fun g24 => ?_) (fun g24 => ?_)
 ·
  replace g24 := bnot_t g24
  refine Of rfl (Of rfl (Of rfl (Pu rfl (Pu rfl (Of rfl (Of rfl (Of rfl ?_)))))))
  refine Of rfl (Pu rfl (Ni (hK21 (WC.condT rfl (Sq fun K25 hK25 => (Rg (Va (dx_build rfl rfl (built_of_O (cs := zV) (by kernel_rfl) oc_nil)) rfl rfl ?_)))))))
  refine WL.do (dx_store (cs' := zV) (vs := zV) rfl ty_size_26_5 rfl rfl rfl (oc_cons rfl (oc_cons rfl (oc_cons rfl (oc_cons rfl (oc_cons rfl oc_nil))))) k14 rfl (Nat.le_of_ble_eq_true rfl) rfl) rfl ?_
  rintro _ W26 ⟨k28, o27⟩
  clear k14
  replace hB := o27.below hB l19
  refine Pu rfl (Ni (hK25 ?_))
  exact WC.ret fun a_ ha_ => hQ (cv_ret2 rfl (.agg rfl ty_agg_26_5 k28.range rfl) (.tmp rfl) (.inr ⟨1, rfl, by decide, withJ_1 (by rw [er_kind]; rintro ⟨e1, e2, e3⟩; simp_all)⟩) hB ha_)
 ·
  replace g24 := bnot_f g24
  refine Va (dx_loadN rfl ty_agg_26_5 rfl k8.range rfl) rfl rfl ?_
  refine Ge (dx_cv rfl Try.func15 rfl rfl rfl (jRight_v n q W23 _ hL (show RdT (n + 1) (W7.heap.size :: W2.heap.size :: w.heap.size :: L) W23 q from ⟨hnq, hiq, hcq⟩) hzq)) rfl rfl ?_
  rintro _ W30 ⟨rfl, b29⟩
  replace hnp := hnp.below b29
  replace hip := hip.below b29
  replace hcp := hcp.below b29
  replace hnq := hnq.below b29
  replace hiq := hiq.below b29
  replace hcq := hcq.below b29
  replace k3 := k3.below b29
  replace k8 := k8.below b29
  replace k14 := k14.below b29
  replace hB := below_then hB b29
  replace hL := LL.below hL b29
  refine Va (dx_not rfl rfl) rfl rfl (Pu rfl (Pu rfl ?_))
  refine WL.split 19 rfl (fun g31 => ?_) (fun g31 => ?_)
  ·
   replace g31 := bnot_t g31
   refine Of rfl (Of rfl (Of rfl (Of rfl (Pu rfl (Ni (hK21 (WC.condT rfl ?_)))))))
   refine Sq fun K32 hK32 => (Rg (Va (dx_build rfl rfl (built_of_O (cs := zV) (by kernel_rfl) oc_nil)) rfl rfl ?_))
   refine WL.do (dx_store (cs' := zV) (vs := zV) rfl ty_size_26_5 rfl rfl rfl (oc_cons rfl (oc_cons rfl (oc_cons rfl (oc_cons rfl (oc_cons rfl oc_nil))))) k14 rfl (Nat.le_of_ble_eq_true rfl) rfl) rfl ?_
   rintro _ W33 ⟨k35, o34⟩
   clear k14
   replace hB := o34.below hB l19
   refine Pu rfl (Ni (hK32 ?_))
   exact WC.ret fun a_ ha_ => hQ (cv_ret2 rfl (.agg rfl ty_agg_26_5 k35.range rfl) (.tmp rfl) (.inr ⟨1, rfl, by decide, withJ_1 (by rw [er_kind]; rintro ⟨e1, e2, e3⟩; simp_all)⟩) hB ha_)
  ·
   replace g31 := bnot_f g31
   refine Pu rfl ?_
   refine Ge (dx_sb (L := W7.heap.size :: W2.heap.size :: w.heap.size :: L) rfl Try.underlying9 Try.underlying50 Try.underlying5 rfl hL (by unfold maxLen; omega)) rfl rfl ?_
   rintro u36 W37 ⟨k38, b39⟩
   replace hnp := hnp.below b39
   replace hip := hip.below b39
   replace hcp := hcp.below b39
   replace hnq := hnq.below b39
   replace hiq := hiq.below b39
   replace hcq := hcq.below b39
   replace k3 := k3.below b39
   replace k8 := k8.below b39
   replace k14 := k14.below b39
   replace hB := below_then hB b39
   replace hL := LL.below hL b39
   refine Ge (dx_cv rfl Try.func32 rfl rfl rfl ((show CV _ _ [_] _ (fun v _ => v = .bool (upB name)) from cv_oldB (right_any u36 (sb name) W37 (rdI_of k38) (sb_bytes _) (by rw [sb_length]; omega))))) rfl rfl ?_
   rintro _ W41 ⟨rfl, b40⟩
   replace hnp := hnp.below b40
   replace hip := hip.below b40
   replace hcp := hcp.below b40
   replace hnq := hnq.below b40
   replace hiq := hiq.below b40
   replace hcq := hcq.below b40
   replace k3 := k3.below b40
   replace k8 := k8.below b40
   replace k14 := k14.below b40
   replace hB := below_then hB b40
   replace hL := LL.below hL b40
   refine Va (dx_not rfl rfl) rfl rfl (Pu rfl (Ni (hK21 ?_)))
   refine WC.cond rfl (fun c42 => ?_) (fun c42 => ?_)
   ·
    replace c42 := bnot_t c42
    refine Sq fun K43 hK43 => (Rg (Va (dx_build rfl rfl (built_of_O (cs := zV) (by kernel_rfl) oc_nil)) rfl rfl ?_))
    refine WL.do (dx_store (cs' := zV) (vs := zV) rfl ty_size_26_5 rfl rfl rfl (oc_cons rfl (oc_cons rfl (oc_cons rfl (oc_cons rfl (oc_cons rfl oc_nil))))) k14 rfl (Nat.le_of_ble_eq_true rfl) rfl) rfl ?_
    rintro _ W44 ⟨k46, o45⟩
    clear k14
    replace hB := o45.below hB l19
    refine Pu rfl (Ni (hK43 ?_))
    exact WC.ret fun a_ ha_ => hQ (cv_ret2 rfl (.agg rfl ty_agg_26_5 k46.range rfl) (.tmp rfl) (.inr ⟨1, rfl, by decide, withJ_1 (by rw [er_kind]; rintro ⟨e1, e2, e3⟩; simp_all)⟩) hB ha_)
   ·
    replace c42 := bnot_f c42
    refine WC.skip (hK20 (Sq fun K47 hK47 => (Sq fun K48 hK48 => (Rg (Va (dx_loadN rfl ty_agg_26_5 rfl k8.range rfl) rfl rfl ?_)))))
    refine Ge (dx_cv rfl Try.func20 rfl rfl rfl (jDeep_v n q W41 _ hL (show RdT (n + 1) (W7.heap.size :: W2.heap.size :: w.heap.size :: L) W41 q from ⟨hnq, hiq, hcq⟩))) rfl rfl ?_
    rintro _ W50 ⟨rfl, b49⟩
    replace hnp := hnp.below b49
    replace hip := hip.below b49
    replace hcp := hcp.below b49
    replace hnq := hnq.below b49
    replace hiq := hiq.below b49
    replace hcq := hcq.below b49
    replace k3 := k3.below b49
    replace k8 := k8.below b49
    replace k14 := k14.below b49
    replace hB := below_then hB b49
    replace hL := LL.below hL b49
    refine Va (dx_geq rfl rfl rfl) rfl rfl (Ni (hK48 ?_))
    refine WC.cond rfl (fun c51 => ?_) (fun c51 => ?_)
    ·
     replace c51 := dT c51
     refine Sq fun K52 hK52 => (Rg (Va (dx_build rfl rfl (built_of_O (cs := zV) (by kernel_rfl) oc_nil)) rfl rfl ?_))
     refine WL.do (dx_store (cs' := zV) (vs := zV) rfl ty_size_26_5 rfl rfl rfl (oc_cons rfl (oc_cons rfl (oc_cons rfl (oc_cons rfl (oc_cons rfl oc_nil))))) k14 rfl (Nat.le_of_ble_eq_true rfl) rfl) rfl ?_
     rintro _ W53 ⟨k55, o54⟩
     clear k14
     replace hB := o54.below hB l19
     refine Pu rfl (Ni (hK52 ?_))
     exact WC.ret fun a_ ha_ => hQ (cv_ret2 rfl (.agg rfl ty_agg_26_5 k55.range rfl) (.tmp rfl) (.inr ⟨4, rfl, by decide, withJ_4 (by rw [er_kind]; first | assumption | simp_all) (by first | assumption | simp_all) (by first | assumption | simp_all) (by omega)⟩) hB ha_)
    ·
     replace c51 := dF c51
     refine WC.skip (hK47 (Sq fun K56 hK56 => ?_))
     have hro : (decide (p.er.kind = 6) && rightJ upB 12 p.er) = true := by rw [er_kind]; first | assumption | simp_all
     have hxo : rightJ upB 12 q.er = true := by first | assumption | simp_all
     have huo : upB name = true := by first | assumption | simp_all
     have hko := of_decide_eq_true (Bool.and_eq_true_iff.1 hro).1
     obtain ⟨hris, hlen⟩ := obj_right hko (Bool.and_eq_true_iff.1 hro).2
     rw [er_names] at hris
     rw [er_names, er_items, List.length_map] at hlen
     refine WC.drawV (fun L_ g_ W_ => H5 W50 (p.names.map eS) (p.items.map encT) (L_ 2) (L_ 5) (L_ 6) (L_ 7) (g_ 2) (g_ 5) (g_ 6) (g_ 7) W_) 8 [(some 30, some (.pointer (some ⟨w.heap.size, 3, none⟩))), (some 31, some p.nv), (some 32, none), (some 33, some (.pointer (some ⟨w.heap.size, 4, none⟩))), (some 34, some p.iv), (some 35, none), (some 36, none), (some 8, none)] [[], [0], [1], [], [3], [4, 2], [2, 5], []] (by kernel_rfl) (by kernel_rfl) (by kernel_rfl) (by kernel_rfl) (by kernel_rfl) (by kernel_rfl) (by kernel_rfl) (fun _ => begin5) ?_ ?_
     ·
      refine ⟨fun L_ g_ Wd hl hn hd hG => ?_, ?_⟩
      ·
       replace hG : H5 W50 (p.names.map eS) (p.items.map encT) (L_ 2) (L_ 5) (L_ 6) (L_ 7) (g_ 2) (g_ 5) (g_ 6) (g_ 7) Wd := hG
       exact DV.dr (dx_fld (o1 := 3) rfl ty_fld_26_3_3 rfl rfl) ⟨hG, rfl⟩
      refine ⟨fun L_ g_ Wd hl hn hd hG => ?_, ?_⟩
      ·
       replace hG : H5 W50 (p.names.map eS) (p.items.map encT) (L_ 2) (L_ 5) (L_ 6) (L_ 7) (g_ 2) (g_ 5) (g_ 6) (g_ 7) Wd := hG
       exact DV.dr (dx_load rfl ty_one_23 rfl ((k3.below hG.1).cell (k := 3) rfl)) ⟨hG, rfl⟩
      refine ⟨fun L_ g_ Wd hl hn hd hG => ?_, ?_⟩
      ·
       replace hG : H5 W50 (p.names.map eS) (p.items.map encT) (L_ 2) (L_ 5) (L_ 6) (L_ 7) (g_ 2) (g_ 5) (g_ 6) (g_ 7) Wd := hG
       refine (dx_cv rfl Try.func47 rfl rfl rfl (cloneST_v _ _ Wd [] (LL.nil _) ((hnp.less (fun x hx => by cases hx)).below hG.1) (oc_eS p.names) (by rw [List.length_map]; omega))).mono ?_
       rintro u W_ ⟨k1_, k2_⟩
       rw [hl] at hG
       exact ⟨h5_2 hG (hn 5 (by decide)) (hn 6 (by decide)) k1_ k2_, trivial⟩
      refine ⟨fun L_ g_ Wd hl hn hd hG => ?_, ?_⟩
      ·
       replace hG : H5 W50 (p.names.map eS) (p.items.map encT) (L_ 2) (L_ 5) (L_ 6) (L_ 7) (g_ 2) (g_ 5) (g_ 6) (g_ 7) Wd := hG
       exact DV.dr (dx_fld (o1 := 4) rfl ty_fld_26_4_4 rfl rfl) ⟨hG, rfl⟩
      refine ⟨fun L_ g_ Wd hl hn hd hG => ?_, ?_⟩
      ·
       replace hG : H5 W50 (p.names.map eS) (p.items.map encT) (L_ 2) (L_ 5) (L_ 6) (L_ 7) (g_ 2) (g_ 5) (g_ 6) (g_ 7) Wd := hG
       exact DV.dr (dx_load rfl ty_one_24 rfl ((k3.below hG.1).cell (k := 4) rfl)) ⟨hG, rfl⟩
      refine ⟨fun L_ g_ Wd hl hn hd hG => ?_, ?_⟩
      ·
       replace hG : H5 W50 (p.names.map eS) (p.items.map encT) (L_ 2) (L_ 5) (L_ 6) (L_ 7) (g_ 2) (g_ 5) (g_ 6) (g_ 7) Wd := hG
       refine (dx_cv rfl Try.func48 rfl rfl rfl (cloneSV_v _ _ Wd [] (LL.nil _) ((hip.less (fun x hx => by cases hx)).below hG.1) (oc_items hcp) (by rw [List.length_map]; omega))).mono ?_
       rintro u W_ ⟨k1_, k2_⟩
       rw [hl] at hG
       exact ⟨h5_5 hG (hn 6 (by decide)) k1_ k2_, trivial⟩
      refine ⟨fun L_ g_ Wd hl hn hd hG => ?_, ?_⟩
      ·
       replace hG : H5 W50 (p.names.map eS) (p.items.map encT) (L_ 2) (L_ 5) (L_ 6) (L_ 7) (g_ 2) (g_ 5) (g_ 6) (g_ 7) Wd := hG
       exact DV.dr (dx_build rfl rfl (built_of_O (cs := [.int .i64 6, .int .i64 0, .string ⟨#[]⟩, g_ 2, g_ 5]) (by kernel_rfl) (oc_cons rfl (oc_cons (hG.2.1 (hd 2 (by decide))).one (oc_cons (hG.2.2.1 (hd 5 (by decide))).one oc_nil))))) ⟨h5_6 hG rfl, trivial⟩
      refine ⟨fun L_ g_ Wd hl hn hd hG => ?_, ?_⟩
      ·
       replace hG : H5 W50 (p.names.map eS) (p.items.map encT) (L_ 2) (L_ 5) (L_ 6) (L_ 7) (g_ 2) (g_ 5) (g_ 6) (g_ 7) Wd := hG
       refine (dx_alloc rfl ty_zero_26 rfl).mono ?_
       rintro _ W_ ⟨rfl, k_, b_, z_⟩
       exact ⟨h5_7 hG k_ b_, trivial⟩
      exact trivial
     ·
      intro g_ We hGe
      obtain ⟨hb5, n2_, n5_, e6_, e7_, a25, a27, a57⟩ := (show H5 W50 (p.names.map eS) (p.items.map encT) true true true true (g_ 2) (g_ 5) (g_ 6) (g_ 7) We from hGe)
      replace n2_ := n2_ rfl
      replace n5_ := n5_ rfl
      replace e6_ := e6_ rfl
      obtain ⟨B7, e7_, hB7, hk7⟩ := e7_ rfl
      replace a25 := a25 rfl rfl
      replace a27 := a27 rfl rfl
      replace a57 := a57 rfl rfl
      simp only [DEnd, sdV, Nat.reduceAdd, e6_, e7_]
      rw [e7_] at a27 a57
      generalize g_ 2 = u2 at n2_ a25 a27 ⊢
      generalize g_ 5 = u5 at n5_ a25 a57 ⊢
      rcases n2_ with ⟨rfl, hns, -⟩ | ⟨Bn, hBn, hOn⟩
      ·
       rcases n5_ with ⟨rfl, hts, -⟩ | ⟨Bi, hBi, hOi⟩
       ·
        have n58 : W2.heap.size ≠ B7 := Nat.ne_of_lt (Nat.lt_of_lt_of_le k8.lt hB7)
        have n59 : W7.heap.size ≠ B7 := Nat.ne_of_lt (Nat.lt_of_lt_of_le k14.lt hB7)
        replace hcp := hcp.more hb5 hB7
        replace hnq := hnq.more hb5 hB7
        replace hiq := hiq.more hb5 hB7
        replace hcq := hcq.more hb5 hB7
        replace k8 := k8.below hb5
        replace k14 := k14.below hb5
        have l60 := Nat.le_trans hB.size hB7
        replace hB := below_then hB hb5
        replace hL := LL.below hL hb5
        replace hL := LL.cons hL hk7.lt
        have hns0 : p.names = [] := List.map_eq_nil_iff.1 hns
        have hnl0 : p.names.length = 0 := by rw [hns0]; rfl
        have hts0 : p.items = [] := List.map_eq_nil_iff.1 hts
        have htl0 : p.items.length = 0 := by rw [hts0]; rfl
        refine WL.do (dx_store (cs' := [.int .i64 6, .int .i64 0, .string ⟨#[]⟩, .slice none 0 0, .slice none 0 0]) (vs := [.int .i64 6, .int .i64 0, .string ⟨#[]⟩, .slice none 0 0, .slice none 0 0]) rfl ty_size_26_5 rfl rfl rfl (oc_cons rfl (oc_cons rfl (oc_cons rfl (oc_cons rfl (oc_cons rfl oc_nil))))) hk7 rfl (Nat.le_of_ble_eq_true rfl) rfl) rfl ?_
        rintro _ W61 ⟨k63, o62⟩
        replace k8 := k8.other o62 n58
        replace k14 := k14.other o62 n59
        clear hk7
        replace hcp := hcp.only o62 (.head _)
        replace hnq := hnq.only o62 (.head _)
        replace hiq := hiq.only o62 (.head _)
        replace hcq := hcq.only o62 (.head _)
        replace hB := o62.below hB l60
        replace hL := LL.only hL o62
        refine Ni (hK56 (Sq fun K64 hK64 => (Rg (Va (dx_fld (o1 := 3) rfl ty_fld_26_3_3 rfl rfl) rfl rfl (Va (dx_load rfl ty_one_23 rfl (k63.cell (k := 3) rfl)) rfl rfl (Pu rfl ?_))))))
        refine Ge (dx_cv rfl Try.func49 rfl rfl rfl (bsearchB_v p.names name _ W61 [] (LL.nil _) (by rw [hns0]; exact RdF.nil (L := []) (by decide)) hris (by omega))) rfl rfl ?_
        rintro _ W66 ⟨⟨at_, hat, hatl, rfl⟩, b65⟩
        replace hcp := hcp.below b65
        replace hnq := hnq.below b65
        replace hiq := hiq.below b65
        replace hcq := hcq.below b65
        replace k8 := k8.below b65
        replace k14 := k14.below b65
        replace k63 := k63.below b65
        replace hB := below_then hB b65
        replace hL := LL.below hL b65
        refine Pu rfl (Pu rfl (Pu rfl (Pu rfl (Pu rfl (Ni (hK64 (Sq fun K67 hK67 => ?_)))))))
        refine Sq fun K68 hK68 => (Rg (Pu rfl (Ni (hK68 ?_))))
        refine WC.cond rfl (fun c69 => ?_) (fun c69 => ?_)
        ·
         replace c69 := dT c69
         refine Sq fun K70 hK70 => ?_
         have hal : at_ < p.names.length := (List.getElem?_eq_some_iff.1 (by assumption : p.names[at_]? = some name)).1
         exfalso; omega
        ·
         replace c69 := dF c69
         refine WC.skip (hK67 (Sq fun K71 hK71 => (Rg (Va (dx_fld (o1 := 3) rfl ty_fld_26_3_3 rfl rfl) rfl rfl (Va (dx_load rfl ty_one_23 rfl (k63.cell (k := 3) rfl)) rfl rfl (Pu rfl (Pu rfl ?_)))))))
         refine Ge (dx_lit1 (r := [.string name]) rfl ty_ap_23 (by decide) (by decide) rfl rfl rfl) rfl rfl ?_
         rintro u76 W72 ⟨k73, b74, z75⟩
         have l81 := hB.size
         replace hcp := hcp.more b74 (Nat.le_refl _)
         replace hnq := hnq.more b74 (Nat.le_refl _)
         replace hiq := hiq.more b74 (Nat.le_refl _)
         replace hcq := hcq.more b74 (Nat.le_refl _)
         replace k8 := k8.below b74
         replace k14 := k14.below b74
         replace k63 := k63.below b74
         replace hB := below_then hB b74
         replace hL := LL.more hL z75
         refine Ge (dx_cv rfl Try.func50 rfl rfl rfl (insNT_v [eS name] W66.heap.size _ W72 _ (by omega) k73 (by simp) (by simp))) rfl rfl ?_
         rintro x82 W83 ⟨⟨B84, l89, k85⟩, g88⟩
         have n93 : W7.heap.size ≠ B84 := Nat.ne_of_lt (Nat.lt_of_lt_of_le k14.lt l89)
         have n94 : B7 ≠ B84 := Nat.ne_of_lt (Nat.lt_of_lt_of_le k63.lt l89)
         have l96 := Nat.le_trans hB.size l89
         replace hcp := hcp.more g88 l89
         replace hnq := hnq.more g88 l89
         replace hiq := hiq.more g88 l89
         replace hcq := hcq.more g88 l89
         replace k8 := k8.below g88
         replace k14 := k14.below g88
         replace k63 := k63.below g88
         replace hB := below_then hB g88
         replace hL := LL.cons (LL.below hL g88) k85.lt
         rw [show [eS name] = ((insA at_ name p.names).map eS) from (by rw [hns0]; exact (insN_map _ _ _).symm)] at k85
         refine Va (dx_fld (o1 := 3) rfl ty_fld_26_3_3 rfl rfl) rfl rfl ?_
         refine WL.do (dx_store (cs' := [.int .i64 6, .int .i64 0, .string ⟨#[]⟩, x82, .slice none 0 0]) (vs := [x82]) rfl ty_size_23_1 rfl rfl (oc_one k85.one) (oc_cons k85.one oc_nil) k63 rfl (Nat.le_of_ble_eq_true rfl) rfl) rfl ?_
         rintro _ W97 ⟨k99, o98⟩
         replace k8 := k8.other o98 n58
         replace k14 := k14.other o98 n59
         replace k85 := k85.other o98 n94.symm
         clear k63
         replace hcp := hcp.only o98 (.tail _ (.tail _ (.head _)))
         replace hnq := hnq.only o98 (.tail _ (.tail _ (.head _)))
         replace hiq := hiq.only o98 (.tail _ (.tail _ (.head _)))
         replace hcq := hcq.only o98 (.tail _ (.tail _ (.head _)))
         replace hB := o98.below hB l60
         replace hL := LL.only hL o98
         refine Ni (hK71 (Sq fun K100 hK100 => (Rg (Va (dx_fld (o1 := 4) rfl ty_fld_26_4_4 rfl rfl) rfl rfl (Va (dx_load rfl ty_one_24 rfl (k99.cell (k := 4) rfl)) rfl rfl (Pu rfl (Va (dx_loadN rfl ty_agg_26_5 rfl k8.range rfl) rfl rfl ?_)))))))
         refine Ge (dx_lit1 (r := [.int .i64 q.kind, .int .i64 q.num, .string q.text, q.nv, q.iv]) rfl ty_ap_24 (by decide) (by decide) rfl rfl rfl) rfl rfl ?_
         rintro u105 W101 ⟨k102, b103, z104⟩
         have l112 := hB.size
         replace hcp := hcp.more b103 (Nat.le_refl _)
         replace hnq := hnq.more b103 (Nat.le_refl _)
         replace hiq := hiq.more b103 (Nat.le_refl _)
         replace hcq := hcq.more b103 (Nat.le_refl _)
         replace k14 := k14.below b103
         replace k99 := k99.below b103
         replace k85 := k85.below b103
         replace hB := below_then hB b103
         replace hL := LL.more hL z104
         refine Ge (dx_cv rfl Try.func51 rfl rfl rfl (insNV_v [encT q] W97.heap.size _ W101 _ (by omega) k102 (by simp) (by simp))) rfl rfl ?_
         rintro x113 W114 ⟨⟨B115, l120, k116⟩, g119⟩
         have n124 : W7.heap.size ≠ B115 := Nat.ne_of_lt (Nat.lt_of_lt_of_le k14.lt l120)
         have n125 : B7 ≠ B115 := Nat.ne_of_lt (Nat.lt_of_lt_of_le k99.lt l120)
         have l129 := Nat.le_trans hB.size l120
         replace hcp := hcp.more g119 l120
         replace hnq := hnq.more g119 l120
         replace hiq := hiq.more g119 l120
         replace hcq := hcq.more g119 l120
         replace k14 := k14.below g119
         replace k99 := k99.below g119
         replace k85 := k85.below g119
         replace hB := below_then hB g119
         replace hL := LL.cons (LL.below hL g119) k116.lt
         rw [show [encT q] = ((insA at_ q p.items).map encT) from (by rw [hts0]; exact (insN_map _ _ _).symm)] at k116
         refine Va (dx_fld (o1 := 4) rfl ty_fld_26_4_4 rfl rfl) rfl rfl ?_
         refine WL.do (dx_store (cs' := [.int .i64 6, .int .i64 0, .string ⟨#[]⟩, x82, x113]) (vs := [x113]) rfl ty_size_24_1 rfl rfl (oc_one k116.one) (oc_cons k116.one oc_nil) k99 rfl (Nat.le_of_ble_eq_true rfl) rfl) rfl ?_
         rintro _ W130 ⟨k132, o131⟩
         replace k14 := k14.other o131 n59
         replace k85 := k85.other o131 n94.symm
         replace k116 := k116.other o131 n125.symm
         clear k99
         replace hcp := hcp.only o131 (.tail _ (.tail _ (.tail _ (.tail _ (.head _)))))
         replace hnq := hnq.only o131 (.tail _ (.tail _ (.tail _ (.tail _ (.head _)))))
         replace hiq := hiq.only o131 (.tail _ (.tail _ (.tail _ (.tail _ (.head _)))))
         replace hcq := hcq.only o131 (.tail _ (.tail _ (.tail _ (.tail _ (.head _)))))
         replace hB := o131.below hB l60
         refine Ni (hK100 (Sq fun K133 hK133 => (Rg (Va (dx_loadN rfl ty_agg_26_5 rfl k132.range rfl) rfl rfl ?_))))
         refine WL.do (dx_store (cs' := [.int .i64 6, .int .i64 0, .string ⟨#[]⟩, x82, x113]) (vs := [.int .i64 6, .int .i64 0, .string ⟨#[]⟩, x82, x113]) rfl ty_size_26_5 rfl rfl rfl (oc_cons rfl (oc_cons rfl (oc_cons rfl (oc_cons k85.one (oc_cons k116.one oc_nil))))) k14 rfl (Nat.le_of_ble_eq_true rfl) rfl) rfl ?_
         rintro _ W134 ⟨k136, o135⟩
         replace k85 := k85.other o135 n93.symm
         replace k116 := k116.other o135 n124.symm
         clear k14
         replace hcp := hcp.only o135 (.tail _ (.tail _ (.tail _ (.tail _ (.tail _ (.head _))))))
         replace hnq := hnq.only o135 (.tail _ (.tail _ (.tail _ (.tail _ (.tail _ (.head _))))))
         replace hiq := hiq.only o135 (.tail _ (.tail _ (.tail _ (.tail _ (.tail _ (.head _))))))
         replace hcq := hcq.only o135 (.tail _ (.tail _ (.tail _ (.tail _ (.tail _ (.head _))))))
         replace hB := o135.below hB l19
         refine Pu rfl (Ni (hK133 ?_))
         exact WC.ret fun a_ ha_ => hQ (cv_ret2 rfl (.agg rfl ty_agg_26_5 k136.range rfl) (.tmp rfl) (.inl ⟨.mk 6 0 ⟨#[]⟩ x82 (insA at_ name p.names) x113 (insA at_ q p.items), rfl, (by rw [withJ_ok hro hxo huo (by omega), putJ_f (a := at_) (by rw [er_names]; exact hat) (by rw [er_names]; assumption), Tr.er_mk, er_names, er_items, insA_map]), (k85.notin hL0 l96), (k116.notin hL0 l129), fun c hc_ => by rcases mem_insA.1 hc_ with h_ | h_; (rw [h_]; exact ((show RdT (n + 1) (B115 :: W97.heap.size :: B84 :: W66.heap.size :: B7 :: W7.heap.size :: W2.heap.size :: w.heap.size :: L) W134 q from ⟨hnq, hiq, hcq⟩).less (fun x hx => (.tail _ (.tail _ (.tail _ (.tail _ (.tail _ (.tail _ (.tail _ (.tail _ hx))))))))))); exact ((hcp c h_).less (fun x hx => (.tail _ (.tail _ (.tail _ (.tail _ (.tail _ (.tail _ (.tail _ (.tail _ hx)))))))))).up⟩) hB ha_)
       ·
        have n139 : W2.heap.size ≠ B7 := Nat.ne_of_lt (Nat.lt_of_lt_of_le k8.lt hB7)
        have n141 : W7.heap.size ≠ B7 := Nat.ne_of_lt (Nat.lt_of_lt_of_le k14.lt hB7)
        have n142 : W7.heap.size ≠ Bi := Nat.ne_of_lt (Nat.lt_of_lt_of_le k14.lt hBi)
        have h57 : Bi ≠ B7 := ap_ne a57 hOi.vB rfl
        replace hcp := hcp.more (Below.refl _ _) hB7
        replace hcp := hcp.more hb5 hBi
        replace hnq := hnq.more (Below.refl _ _) hB7
        replace hnq := hnq.more hb5 hBi
        replace hiq := hiq.more (Below.refl _ _) hB7
        replace hiq := hiq.more hb5 hBi
        replace hcq := hcq.more (Below.refl _ _) hB7
        replace hcq := hcq.more hb5 hBi
        replace k8 := k8.below hb5
        replace k14 := k14.below hb5
        have l143 := Nat.le_trans hB.size hB7
        have l144 := Nat.le_trans hB.size hBi
        replace hB := below_then hB hb5
        replace hL := LL.below hL hb5
        replace hL := LL.cons hL hk7.lt
        replace hL := LL.cons hL hOi.lt
        have hns0 : p.names = [] := List.map_eq_nil_iff.1 hns
        have hnl0 : p.names.length = 0 := by rw [hns0]; rfl
        refine WL.do (dx_store (cs' := [.int .i64 6, .int .i64 0, .string ⟨#[]⟩, .slice none 0 0, u5]) (vs := [.int .i64 6, .int .i64 0, .string ⟨#[]⟩, .slice none 0 0, u5]) rfl ty_size_26_5 rfl rfl rfl (oc_cons rfl (oc_cons rfl (oc_cons rfl (oc_cons rfl (oc_cons hOi.one oc_nil))))) hk7 rfl (Nat.le_of_ble_eq_true rfl) rfl) rfl ?_
        rintro _ W145 ⟨k147, o146⟩
        replace k8 := k8.other o146 n139
        replace k14 := k14.other o146 n141
        replace hOi := hOi.other o146 h57
        clear hk7
        replace hcp := hcp.only o146 (.tail _ (.head _))
        replace hnq := hnq.only o146 (.tail _ (.head _))
        replace hiq := hiq.only o146 (.tail _ (.head _))
        replace hcq := hcq.only o146 (.tail _ (.head _))
        replace hB := o146.below hB l143
        replace hL := LL.only hL o146
        refine Ni (hK56 (Sq fun K148 hK148 => (Rg (Va (dx_fld (o1 := 3) rfl ty_fld_26_3_3 rfl rfl) rfl rfl (Va (dx_load rfl ty_one_23 rfl (k147.cell (k := 3) rfl)) rfl rfl (Pu rfl ?_))))))
        refine Ge (dx_cv rfl Try.func49 rfl rfl rfl (bsearchB_v p.names name _ W145 [] (LL.nil _) (by rw [hns0]; exact RdF.nil (L := []) (by decide)) hris (by omega))) rfl rfl ?_
        rintro _ W150 ⟨⟨at_, hat, hatl, rfl⟩, b149⟩
        replace hcp := hcp.below b149
        replace hnq := hnq.below b149
        replace hiq := hiq.below b149
        replace hcq := hcq.below b149
        replace k8 := k8.below b149
        replace k14 := k14.below b149
        replace k147 := k147.below b149
        replace hOi := hOi.below b149
        replace hB := below_then hB b149
        replace hL := LL.below hL b149
        refine Pu rfl (Pu rfl (Pu rfl (Pu rfl (Pu rfl (Ni (hK148 (Sq fun K151 hK151 => ?_)))))))
        refine Sq fun K152 hK152 => (Rg (Pu rfl (Ni (hK152 ?_))))
        refine WC.cond rfl (fun c153 => ?_) (fun c153 => ?_)
        ·
         replace c153 := dT c153
         refine Sq fun K154 hK154 => ?_
         have hal : at_ < p.names.length := (List.getElem?_eq_some_iff.1 (by assumption : p.names[at_]? = some name)).1
         exfalso; omega
        ·
         replace c153 := dF c153
         refine WC.skip (hK151 (Sq fun K155 hK155 => (Rg (Va (dx_fld (o1 := 3) rfl ty_fld_26_3_3 rfl rfl) rfl rfl (Va (dx_load rfl ty_one_23 rfl (k147.cell (k := 3) rfl)) rfl rfl (Pu rfl (Pu rfl ?_)))))))
         refine Ge (dx_lit1 (r := [.string name]) rfl ty_ap_23 (by decide) (by decide) rfl rfl rfl) rfl rfl ?_
         rintro u160 W156 ⟨k157, b158, z159⟩
         have l166 := hB.size
         replace hcp := hcp.more b158 (Nat.le_refl _)
         replace hnq := hnq.more b158 (Nat.le_refl _)
         replace hiq := hiq.more b158 (Nat.le_refl _)
         replace hcq := hcq.more b158 (Nat.le_refl _)
         replace k8 := k8.below b158
         replace k14 := k14.below b158
         replace k147 := k147.below b158
         replace hOi := hOi.below b158
         replace hB := below_then hB b158
         replace hL := LL.more hL z159
         refine Ge (dx_cv rfl Try.func50 rfl rfl rfl (insNT_v [eS name] W150.heap.size _ W156 _ (by omega) k157 (by simp) (by simp))) rfl rfl ?_
         rintro x167 W168 ⟨⟨B169, l174, k170⟩, g173⟩
         have n178 : W7.heap.size ≠ B169 := Nat.ne_of_lt (Nat.lt_of_lt_of_le k14.lt l174)
         have n179 : B7 ≠ B169 := Nat.ne_of_lt (Nat.lt_of_lt_of_le k147.lt l174)
         have n180 : Bi ≠ B169 := Nat.ne_of_lt (Nat.lt_of_lt_of_le hOi.lt l174)
         have l182 := Nat.le_trans hB.size l174
         replace hcp := hcp.more g173 l174
         replace hnq := hnq.more g173 l174
         replace hiq := hiq.more g173 l174
         replace hcq := hcq.more g173 l174
         replace k8 := k8.below g173
         replace k14 := k14.below g173
         replace k147 := k147.below g173
         replace hOi := hOi.below g173
         replace hB := below_then hB g173
         replace hL := LL.cons (LL.below hL g173) k170.lt
         rw [show [eS name] = ((insA at_ name p.names).map eS) from (by rw [hns0]; exact (insN_map _ _ _).symm)] at k170
         refine Va (dx_fld (o1 := 3) rfl ty_fld_26_3_3 rfl rfl) rfl rfl ?_
         refine WL.do (dx_store (cs' := [.int .i64 6, .int .i64 0, .string ⟨#[]⟩, x167, u5]) (vs := [x167]) rfl ty_size_23_1 rfl rfl (oc_one k170.one) (oc_cons k170.one oc_nil) k147 rfl (Nat.le_of_ble_eq_true rfl) rfl) rfl ?_
         rintro _ W183 ⟨k185, o184⟩
         replace k8 := k8.other o184 n139
         replace k14 := k14.other o184 n141
         replace hOi := hOi.other o184 h57
         replace k170 := k170.other o184 n179.symm
         clear k147
         replace hcp := hcp.only o184 (.tail _ (.tail _ (.tail _ (.head _))))
         replace hnq := hnq.only o184 (.tail _ (.tail _ (.tail _ (.head _))))
         replace hiq := hiq.only o184 (.tail _ (.tail _ (.tail _ (.head _))))
         replace hcq := hcq.only o184 (.tail _ (.tail _ (.tail _ (.head _))))
         replace hB := o184.below hB l143
         refine Ni (hK155 (Sq fun K186 hK186 => (Rg (Va (dx_fld (o1 := 4) rfl ty_fld_26_4_4 rfl rfl) rfl rfl (Va (dx_load rfl ty_one_24 rfl (k185.cell (k := 4) rfl)) rfl rfl (Pu rfl (Va (dx_loadN rfl ty_agg_26_5 rfl k8.range rfl) rfl rfl ?_)))))))
         refine Ge (dx_lit1 (r := [.int .i64 q.kind, .int .i64 q.num, .string q.text, q.nv, q.iv]) rfl ty_ap_24 (by decide) (by decide) rfl rfl rfl) rfl rfl ?_
         rintro u191 W187 ⟨k188, b189, z190⟩
         have n196 : Bi ≠ W183.heap.size := Nat.ne_of_lt hOi.lt
         have l199 := hB.size
         replace hcp := hcp.more b189 (Nat.le_refl _)
         replace hnq := hnq.more b189 (Nat.le_refl _)
         replace hiq := hiq.more b189 (Nat.le_refl _)
         replace hcq := hcq.more b189 (Nat.le_refl _)
         replace k14 := k14.below b189
         replace k185 := k185.below b189
         replace hOi := hOi.below b189
         replace k170 := k170.below b189
         replace hB := below_then hB b189
         refine Ge (dx_cw rfl Try.func51 rfl rfl rfl (insOV_v _ [encT q] at_ Bi W183.heap.size _ _ W187 hOi k188 n196.symm (by rw [List.length_map]; omega) (by simp) (by rw [List.length_map, List.length_singleton]; omega) (oc_items hcp) (fun r hr => by rw [List.mem_singleton.1 hr]; exact (show RdT (n + 1) (W183.heap.size :: B169 :: W150.heap.size :: Bi :: B7 :: W7.heap.size :: W2.heap.size :: w.heap.size :: L) W187 q from ⟨hnq, hiq, hcq⟩).oc))) rfl rfl ?_
         rintro x200 W201 ⟨⟨B202, k203, g204⟩, g205⟩
         have g206 := GrowB.of_chg g205 g204
         have n211 : W7.heap.size ≠ B202 := k14.grow_ne g206 n142
         have n212 : B7 ≠ B202 := k185.grow_ne g206 h57.symm
         have l208 := g206.le l144 hB.size
         replace hcp := hcp.grow' g206 (.tail _ (.tail _ (.tail _ (.head _))))
         replace hnq := hnq.grow' g206 (.tail _ (.tail _ (.tail _ (.head _))))
         replace hiq := hiq.grow' g206 (.tail _ (.tail _ (.tail _ (.head _))))
         replace hcq := hcq.grow' g206 (.tail _ (.tail _ (.tail _ (.head _))))
         replace k14 := k14.grow g206 n142
         replace k185 := k185.grow g206 h57.symm
         replace k170 := k170.grow g206 n180.symm
         replace hB := g206.below hB l144 hB.size
         rw [show (p.items.map encT).take at_ ++ ([encT q] ++ (p.items.map encT).drop at_) = ((insA at_ q p.items).map encT) from (insA_map _ at_ _ _).symm] at k203
         refine Va (dx_fld (o1 := 4) rfl ty_fld_26_4_4 rfl rfl) rfl rfl ?_
         refine WL.do (dx_store (cs' := [.int .i64 6, .int .i64 0, .string ⟨#[]⟩, x167, x200]) (vs := [x200]) rfl ty_size_24_1 rfl rfl (oc_one k203.one) (oc_cons k203.one oc_nil) k185 rfl (Nat.le_of_ble_eq_true rfl) rfl) rfl ?_
         rintro _ W216 ⟨k218, o217⟩
         replace k14 := k14.other o217 n141
         replace k170 := k170.other o217 n179.symm
         replace k203 := k203.other o217 n212.symm
         clear k185
         replace hcp := hcp.only o217 (.tail _ (.tail _ (.tail _ (.tail _ (.tail _ (.head _))))))
         replace hnq := hnq.only o217 (.tail _ (.tail _ (.tail _ (.tail _ (.tail _ (.head _))))))
         replace hiq := hiq.only o217 (.tail _ (.tail _ (.tail _ (.tail _ (.tail _ (.head _))))))
         replace hcq := hcq.only o217 (.tail _ (.tail _ (.tail _ (.tail _ (.tail _ (.head _))))))
         replace hB := o217.below hB l143
         refine Ni (hK186 (Sq fun K219 hK219 => (Rg (Va (dx_loadN rfl ty_agg_26_5 rfl k218.range rfl) rfl rfl ?_))))
         refine WL.do (dx_store (cs' := [.int .i64 6, .int .i64 0, .string ⟨#[]⟩, x167, x200]) (vs := [.int .i64 6, .int .i64 0, .string ⟨#[]⟩, x167, x200]) rfl ty_size_26_5 rfl rfl rfl (oc_cons rfl (oc_cons rfl (oc_cons rfl (oc_cons k170.one (oc_cons k203.one oc_nil))))) k14 rfl (Nat.le_of_ble_eq_true rfl) rfl) rfl ?_
         rintro _ W220 ⟨k222, o221⟩
         replace k170 := k170.other o221 n178.symm
         replace k203 := k203.other o221 n211.symm
         clear k14
         replace hcp := hcp.only o221 (.tail _ (.tail _ (.tail _ (.tail _ (.tail _ (.tail _ (.head _)))))))
         replace hnq := hnq.only o221 (.tail _ (.tail _ (.tail _ (.tail _ (.tail _ (.tail _ (.head _)))))))
         replace hiq := hiq.only o221 (.tail _ (.tail _ (.tail _ (.tail _ (.tail _ (.tail _ (.head _)))))))
         replace hcq := hcq.only o221 (.tail _ (.tail _ (.tail _ (.tail _ (.tail _ (.tail _ (.head _)))))))
         replace hB := o221.below hB l19
         refine Pu rfl (Ni (hK219 ?_))
         exact WC.ret fun a_ ha_ => hQ (cv_ret2 rfl (.agg rfl ty_agg_26_5 k222.range rfl) (.tmp rfl) (.inl ⟨.mk 6 0 ⟨#[]⟩ x167 (insA at_ name p.names) x200 (insA at_ q p.items), rfl, (by rw [withJ_ok hro hxo huo (by omega), putJ_f (a := at_) (by rw [er_names]; exact hat) (by rw [er_names]; assumption), Tr.er_mk, er_names, er_items, insA_map]), (k170.notin hL0 l182), (k203.notin hL0 l208), fun c hc_ => by rcases mem_insA.1 hc_ with h_ | h_; (rw [h_]; exact ((show RdT (n + 1) (B202 :: W183.heap.size :: B169 :: W150.heap.size :: Bi :: B7 :: W7.heap.size :: W2.heap.size :: w.heap.size :: L) W220 q from ⟨hnq, hiq, hcq⟩).less (fun x hx => (.tail _ (.tail _ (.tail _ (.tail _ (.tail _ (.tail _ (.tail _ (.tail _ (.tail _ hx)))))))))))); exact ((hcp c h_).less (fun x hx => (.tail _ (.tail _ (.tail _ (.tail _ (.tail _ (.tail _ (.tail _ (.tail _ (.tail _ hx))))))))))).up⟩) hB ha_)
      ·
       rcases n5_ with ⟨rfl, hts, -⟩ | ⟨Bi, hBi, hOi⟩
       ·
        have n225 : W2.heap.size ≠ B7 := Nat.ne_of_lt (Nat.lt_of_lt_of_le k8.lt hB7)
        have n226 : W2.heap.size ≠ Bn := Nat.ne_of_lt (Nat.lt_of_lt_of_le k8.lt hBn)
        have n227 : W7.heap.size ≠ B7 := Nat.ne_of_lt (Nat.lt_of_lt_of_le k14.lt hB7)
        have n228 : W7.heap.size ≠ Bn := Nat.ne_of_lt (Nat.lt_of_lt_of_le k14.lt hBn)
        have h27 : Bn ≠ B7 := ap_ne a27 hOn.vB rfl
        replace hcp := hcp.more (Below.refl _ _) hB7
        replace hcp := hcp.more hb5 hBn
        replace hnq := hnq.more (Below.refl _ _) hB7
        replace hnq := hnq.more hb5 hBn
        replace hiq := hiq.more (Below.refl _ _) hB7
        replace hiq := hiq.more hb5 hBn
        replace hcq := hcq.more (Below.refl _ _) hB7
        replace hcq := hcq.more hb5 hBn
        replace k8 := k8.below hb5
        replace k14 := k14.below hb5
        have l229 := Nat.le_trans hB.size hB7
        have l230 := Nat.le_trans hB.size hBn
        replace hB := below_then hB hb5
        replace hL := LL.below hL hb5
        replace hL := LL.cons hL hk7.lt
        replace hL := LL.cons hL hOn.lt
        have hts0 : p.items = [] := List.map_eq_nil_iff.1 hts
        have htl0 : p.items.length = 0 := by rw [hts0]; rfl
        refine WL.do (dx_store (cs' := [.int .i64 6, .int .i64 0, .string ⟨#[]⟩, u2, .slice none 0 0]) (vs := [.int .i64 6, .int .i64 0, .string ⟨#[]⟩, u2, .slice none 0 0]) rfl ty_size_26_5 rfl rfl rfl (oc_cons rfl (oc_cons rfl (oc_cons rfl (oc_cons hOn.one (oc_cons rfl oc_nil))))) hk7 rfl (Nat.le_of_ble_eq_true rfl) rfl) rfl ?_
        rintro _ W231 ⟨k233, o232⟩
        replace k8 := k8.other o232 n225
        replace k14 := k14.other o232 n227
        replace hOn := hOn.other o232 h27
        clear hk7
        replace hcp := hcp.only o232 (.tail _ (.head _))
        replace hnq := hnq.only o232 (.tail _ (.head _))
        replace hiq := hiq.only o232 (.tail _ (.head _))
        replace hcq := hcq.only o232 (.tail _ (.head _))
        replace hB := o232.below hB l229
        replace hL := LL.only hL o232
        refine Ni (hK56 (Sq fun K234 hK234 => (Rg (Va (dx_fld (o1 := 3) rfl ty_fld_26_3_3 rfl rfl) rfl rfl (Va (dx_load rfl ty_one_23 rfl (k233.cell (k := 3) rfl)) rfl rfl (Pu rfl ?_))))))
        refine Ge (dx_cv rfl Try.func49 rfl rfl rfl (bsearchB_v p.names name _ W231 [] (LL.nil _) (hOn.rd (L := []) (by simp)) hris (by omega))) rfl rfl ?_
        rintro _ W236 ⟨⟨at_, hat, hatl, rfl⟩, b235⟩
        replace hcp := hcp.below b235
        replace hnq := hnq.below b235
        replace hiq := hiq.below b235
        replace hcq := hcq.below b235
        replace k8 := k8.below b235
        replace k14 := k14.below b235
        replace k233 := k233.below b235
        replace hOn := hOn.below b235
        replace hB := below_then hB b235
        replace hL := LL.below hL b235
        refine Pu rfl (Pu rfl (Pu rfl (Pu rfl (Pu rfl (Ni (hK234 (Sq fun K237 hK237 => ?_)))))))
        refine Sq fun K238 hK238 => (Rg (Pu rfl (Ni (hK238 ?_))))
        refine WC.cond rfl (fun c239 => ?_) (fun c239 => ?_)
        ·
         replace c239 := dT c239
         refine Sq fun K240 hK240 => ?_
         have hal : at_ < p.names.length := (List.getElem?_eq_some_iff.1 (by assumption : p.names[at_]? = some name)).1
         exfalso; omega
        ·
         replace c239 := dF c239
         refine WC.skip (hK237 (Sq fun K241 hK241 => (Rg (Va (dx_fld (o1 := 3) rfl ty_fld_26_3_3 rfl rfl) rfl rfl (Va (dx_load rfl ty_one_23 rfl (k233.cell (k := 3) rfl)) rfl rfl (Pu rfl (Pu rfl ?_)))))))
         refine Ge (dx_lit1 (r := [.string name]) rfl ty_ap_23 (by decide) (by decide) rfl rfl rfl) rfl rfl ?_
         rintro u246 W242 ⟨k243, b244, z245⟩
         have n251 : Bn ≠ W236.heap.size := Nat.ne_of_lt hOn.lt
         have l252 := hB.size
         replace hcp := hcp.more b244 (Nat.le_refl _)
         replace hnq := hnq.more b244 (Nat.le_refl _)
         replace hiq := hiq.more b244 (Nat.le_refl _)
         replace hcq := hcq.more b244 (Nat.le_refl _)
         replace k8 := k8.below b244
         replace k14 := k14.below b244
         replace k233 := k233.below b244
         replace hOn := hOn.below b244
         replace hB := below_then hB b244
         replace hL := LL.more hL z245
         refine Ge (dx_cw rfl Try.func50 rfl rfl rfl (insOT_v _ [eS name] at_ Bn W236.heap.size _ _ W242 hOn k243 n251.symm (by rw [List.length_map]; omega) (by simp) (by rw [List.length_map, List.length_singleton]; omega) (oc_eS p.names) (fun r hr => by rw [List.mem_singleton.1 hr]; exact (oc_cons rfl oc_nil)))) rfl rfl ?_
         rintro x253 W254 ⟨⟨B255, k256, g257⟩, g258⟩
         have g259 := GrowB.of_chg g258 g257
         have n264 : W7.heap.size ≠ B255 := k14.grow_ne g259 n228
         have n265 : B7 ≠ B255 := k233.grow_ne g259 h27.symm
         have l261 := g259.le l230 hB.size
         replace hcp := hcp.grow' g259 (.tail _ (.head _))
         replace hnq := hnq.grow' g259 (.tail _ (.head _))
         replace hiq := hiq.grow' g259 (.tail _ (.head _))
         replace hcq := hcq.grow' g259 (.tail _ (.head _))
         replace k8 := k8.grow g259 n226
         replace k14 := k14.grow g259 n228
         replace k233 := k233.grow g259 h27.symm
         replace hB := g259.below hB l230 hB.size
         replace hL := LL.grow hL g259 k256.lt
         rw [show (p.names.map eS).take at_ ++ ([eS name] ++ (p.names.map eS).drop at_) = ((insA at_ name p.names).map eS) from (insA_map _ at_ _ _).symm] at k256
         refine Va (dx_fld (o1 := 3) rfl ty_fld_26_3_3 rfl rfl) rfl rfl ?_
         refine WL.do (dx_store (cs' := [.int .i64 6, .int .i64 0, .string ⟨#[]⟩, x253, .slice none 0 0]) (vs := [x253]) rfl ty_size_23_1 rfl rfl (oc_one k256.one) (oc_cons k256.one oc_nil) k233 rfl (Nat.le_of_ble_eq_true rfl) rfl) rfl ?_
         rintro _ W267 ⟨k269, o268⟩
         replace k8 := k8.other o268 n225
         replace k14 := k14.other o268 n227
         replace k256 := k256.other o268 n265.symm
         clear k233
         replace hcp := hcp.only o268 (.tail _ (.tail _ (.tail _ (.head _))))
         replace hnq := hnq.only o268 (.tail _ (.tail _ (.tail _ (.head _))))
         replace hiq := hiq.only o268 (.tail _ (.tail _ (.tail _ (.head _))))
         replace hcq := hcq.only o268 (.tail _ (.tail _ (.tail _ (.head _))))
         replace hB := o268.below hB l229
         replace hL := LL.only hL o268
         refine Ni (hK241 (Sq fun K270 hK270 => (Rg (Va (dx_fld (o1 := 4) rfl ty_fld_26_4_4 rfl rfl) rfl rfl (Va (dx_load rfl ty_one_24 rfl (k269.cell (k := 4) rfl)) rfl rfl (Pu rfl (Va (dx_loadN rfl ty_agg_26_5 rfl k8.range rfl) rfl rfl ?_)))))))
         refine Ge (dx_lit1 (r := [.int .i64 q.kind, .int .i64 q.num, .string q.text, q.nv, q.iv]) rfl ty_ap_24 (by decide) (by decide) rfl rfl rfl) rfl rfl ?_
         rintro u275 W271 ⟨k272, b273, z274⟩
         have l282 := hB.size
         replace hcp := hcp.more b273 (Nat.le_refl _)
         replace hnq := hnq.more b273 (Nat.le_refl _)
         replace hiq := hiq.more b273 (Nat.le_refl _)
         replace hcq := hcq.more b273 (Nat.le_refl _)
         replace k14 := k14.below b273
         replace k269 := k269.below b273
         replace k256 := k256.below b273
         replace hB := below_then hB b273
         replace hL := LL.more hL z274
         refine Ge (dx_cv rfl Try.func51 rfl rfl rfl (insNV_v [encT q] W267.heap.size _ W271 _ (by omega) k272 (by simp) (by simp))) rfl rfl ?_
         rintro x283 W284 ⟨⟨B285, l290, k286⟩, g289⟩
         have n294 : W7.heap.size ≠ B285 := Nat.ne_of_lt (Nat.lt_of_lt_of_le k14.lt l290)
         have n295 : B7 ≠ B285 := Nat.ne_of_lt (Nat.lt_of_lt_of_le k269.lt l290)
         have l299 := Nat.le_trans hB.size l290
         replace hcp := hcp.more g289 l290
         replace hnq := hnq.more g289 l290
         replace hiq := hiq.more g289 l290
         replace hcq := hcq.more g289 l290
         replace k14 := k14.below g289
         replace k269 := k269.below g289
         replace k256 := k256.below g289
         replace hB := below_then hB g289
         replace hL := LL.cons (LL.below hL g289) k286.lt
         rw [show [encT q] = ((insA at_ q p.items).map encT) from (by rw [hts0]; exact (insN_map _ _ _).symm)] at k286
         refine Va (dx_fld (o1 := 4) rfl ty_fld_26_4_4 rfl rfl) rfl rfl ?_
         refine WL.do (dx_store (cs' := [.int .i64 6, .int .i64 0, .string ⟨#[]⟩, x253, x283]) (vs := [x283]) rfl ty_size_24_1 rfl rfl (oc_one k286.one) (oc_cons k286.one oc_nil) k269 rfl (Nat.le_of_ble_eq_true rfl) rfl) rfl ?_
         rintro _ W300 ⟨k302, o301⟩
         replace k14 := k14.other o301 n227
         replace k256 := k256.other o301 n265.symm
         replace k286 := k286.other o301 n295.symm
         clear k269
         replace hcp := hcp.only o301 (.tail _ (.tail _ (.tail _ (.tail _ (.tail _ (.head _))))))
         replace hnq := hnq.only o301 (.tail _ (.tail _ (.tail _ (.tail _ (.tail _ (.head _))))))
         replace hiq := hiq.only o301 (.tail _ (.tail _ (.tail _ (.tail _ (.tail _ (.head _))))))
         replace hcq := hcq.only o301 (.tail _ (.tail _ (.tail _ (.tail _ (.tail _ (.head _))))))
         replace hB := o301.below hB l229
         refine Ni (hK270 (Sq fun K303 hK303 => (Rg (Va (dx_loadN rfl ty_agg_26_5 rfl k302.range rfl) rfl rfl ?_))))
         refine WL.do (dx_store (cs' := [.int .i64 6, .int .i64 0, .string ⟨#[]⟩, x253, x283]) (vs := [.int .i64 6, .int .i64 0, .string ⟨#[]⟩, x253, x283]) rfl ty_size_26_5 rfl rfl rfl (oc_cons rfl (oc_cons rfl (oc_cons rfl (oc_cons k256.one (oc_cons k286.one oc_nil))))) k14 rfl (Nat.le_of_ble_eq_true rfl) rfl) rfl ?_
         rintro _ W304 ⟨k306, o305⟩
         replace k256 := k256.other o305 n264.symm
         replace k286 := k286.other o305 n294.symm
         clear k14
         replace hcp := hcp.only o305 (.tail _ (.tail _ (.tail _ (.tail _ (.tail _ (.tail _ (.head _)))))))
         replace hnq := hnq.only o305 (.tail _ (.tail _ (.tail _ (.tail _ (.tail _ (.tail _ (.head _)))))))
         replace hiq := hiq.only o305 (.tail _ (.tail _ (.tail _ (.tail _ (.tail _ (.tail _ (.head _)))))))
         replace hcq := hcq.only o305 (.tail _ (.tail _ (.tail _ (.tail _ (.tail _ (.tail _ (.head _)))))))
         replace hB := o305.below hB l19
         refine Pu rfl (Ni (hK303 ?_))
         exact WC.ret fun a_ ha_ => hQ (cv_ret2 rfl (.agg rfl ty_agg_26_5 k306.range rfl) (.tmp rfl) (.inl ⟨.mk 6 0 ⟨#[]⟩ x253 (insA at_ name p.names) x283 (insA at_ q p.items), rfl, (by rw [withJ_ok hro hxo huo (by omega), putJ_f (a := at_) (by rw [er_names]; exact hat) (by rw [er_names]; assumption), Tr.er_mk, er_names, er_items, insA_map]), (k256.notin hL0 l261), (k286.notin hL0 l299), fun c hc_ => by rcases mem_insA.1 hc_ with h_ | h_; (rw [h_]; exact ((show RdT (n + 1) (B285 :: W267.heap.size :: B255 :: W236.heap.size :: Bn :: B7 :: W7.heap.size :: W2.heap.size :: w.heap.size :: L) W304 q from ⟨hnq, hiq, hcq⟩).less (fun x hx => (.tail _ (.tail _ (.tail _ (.tail _ (.tail _ (.tail _ (.tail _ (.tail _ (.tail _ hx)))))))))))); exact ((hcp c h_).less (fun x hx => (.tail _ (.tail _ (.tail _ (.tail _ (.tail _ (.tail _ (.tail _ (.tail _ (.tail _ hx))))))))))).up⟩) hB ha_)
       ·
        have n310 : W2.heap.size ≠ B7 := Nat.ne_of_lt (Nat.lt_of_lt_of_le k8.lt hB7)
        have n311 : W2.heap.size ≠ Bn := Nat.ne_of_lt (Nat.lt_of_lt_of_le k8.lt hBn)
        have n313 : W7.heap.size ≠ B7 := Nat.ne_of_lt (Nat.lt_of_lt_of_le k14.lt hB7)
        have n314 : W7.heap.size ≠ Bn := Nat.ne_of_lt (Nat.lt_of_lt_of_le k14.lt hBn)
        have n315 : W7.heap.size ≠ Bi := Nat.ne_of_lt (Nat.lt_of_lt_of_le k14.lt hBi)
        have h27 : Bn ≠ B7 := ap_ne a27 hOn.vB rfl
        have h57 : Bi ≠ B7 := ap_ne a57 hOi.vB rfl
        have h25 : Bn ≠ Bi := ap_ne a25 hOn.vB hOi.vB
        replace hcp := hcp.more (Below.refl _ _) hB7
        replace hcp := hcp.more (Below.refl _ _) hBn
        replace hcp := hcp.more hb5 hBi
        replace hnq := hnq.more (Below.refl _ _) hB7
        replace hnq := hnq.more (Below.refl _ _) hBn
        replace hnq := hnq.more hb5 hBi
        replace hiq := hiq.more (Below.refl _ _) hB7
        replace hiq := hiq.more (Below.refl _ _) hBn
        replace hiq := hiq.more hb5 hBi
        replace hcq := hcq.more (Below.refl _ _) hB7
        replace hcq := hcq.more (Below.refl _ _) hBn
        replace hcq := hcq.more hb5 hBi
        replace k8 := k8.below hb5
        replace k14 := k14.below hb5
        have l316 := Nat.le_trans hB.size hB7
        have l317 := Nat.le_trans hB.size hBn
        have l318 := Nat.le_trans hB.size hBi
        replace hB := below_then hB hb5
        refine WL.do (dx_store (cs' := [.int .i64 6, .int .i64 0, .string ⟨#[]⟩, u2, u5]) (vs := [.int .i64 6, .int .i64 0, .string ⟨#[]⟩, u2, u5]) rfl ty_size_26_5 rfl rfl rfl (oc_cons rfl (oc_cons rfl (oc_cons rfl (oc_cons hOn.one (oc_cons hOi.one oc_nil))))) hk7 rfl (Nat.le_of_ble_eq_true rfl) rfl) rfl ?_
        rintro _ W319 ⟨k321, o320⟩
        replace k8 := k8.other o320 n310
        replace k14 := k14.other o320 n313
        replace hOn := hOn.other o320 h27
        replace hOi := hOi.other o320 h57
        clear hk7
        replace hcp := hcp.only o320 (.tail _ (.tail _ (.head _)))
        replace hnq := hnq.only o320 (.tail _ (.tail _ (.head _)))
        replace hiq := hiq.only o320 (.tail _ (.tail _ (.head _)))
        replace hcq := hcq.only o320 (.tail _ (.tail _ (.head _)))
        replace hB := o320.below hB l316
        refine Ni (hK56 (Sq fun K322 hK322 => (Rg (Va (dx_fld (o1 := 3) rfl ty_fld_26_3_3 rfl rfl) rfl rfl (Va (dx_load rfl ty_one_23 rfl (k321.cell (k := 3) rfl)) rfl rfl (Pu rfl ?_))))))
        refine Ge (dx_cv rfl Try.func49 rfl rfl rfl (bsearchB_v p.names name _ W319 [] (LL.nil _) (hOn.rd (L := []) (by simp)) hris (by omega))) rfl rfl ?_
        rintro _ W324 ⟨⟨at_, hat, hatl, rfl⟩, b323⟩
        replace hcp := hcp.below b323
        replace hnq := hnq.below b323
        replace hiq := hiq.below b323
        replace hcq := hcq.below b323
        replace k8 := k8.below b323
        replace k14 := k14.below b323
        replace k321 := k321.below b323
        replace hOn := hOn.below b323
        replace hOi := hOi.below b323
        replace hB := below_then hB b323
        refine Pu rfl (Pu rfl (Pu rfl (Pu rfl (Pu rfl (Ni (hK322 (Sq fun K325 hK325 => ?_)))))))
        refine Sq fun K326 hK326 => (Rg (Pu rfl (Ni (hK326 ?_))))
        refine WC.cond rfl (fun c327 => ?_) (fun c327 => ?_)
        ·
         replace c327 := dT c327
         refine Sq fun K328 hK328 => ?_
         have hal : at_ < p.names.length := (List.getElem?_eq_some_iff.1 (by assumption : p.names[at_]? = some name)).1
         refine Rg (Va (dx_fld (o1 := 4) rfl ty_fld_26_4_4 rfl rfl) rfl rfl (Va (dx_load rfl ty_one_24 rfl (k321.cell (k := 4) rfl)) rfl rfl (Pu rfl (Va (dx_loadN rfl ty_agg_26_5 rfl k8.range rfl) rfl rfl (Va (dx_idxO at_ rfl ty_slice_24 rfl rfl hOi (by omega) (by rw [List.length_map]; omega) rfl) rfl rfl ?_)))))
         refine WL.do (dx_storeO (k := at_) (r := encT q) rfl ty_size_26_5 rfl rfl rfl (show RdT (n + 1) (Bi :: Bn :: B7 :: W7.heap.size :: W2.heap.size :: w.heap.size :: L) W324 q from ⟨hnq, hiq, hcq⟩).oc hOi rfl (by rw [List.length_map]; omega) rfl) rfl ?_
         rintro _ W329 ⟨k331, o330⟩
         replace k14 := k14.other o330 n315
         replace k321 := k321.other o330 h57.symm
         replace hOn := hOn.other o330 h25
         clear hOi
         replace hcp := hcp.only o330 (.head _)
         replace hnq := hnq.only o330 (.head _)
         replace hiq := hiq.only o330 (.head _)
         replace hcq := hcq.only o330 (.head _)
         replace hB := o330.below hB l318
         rw [← List.map_set] at k331
         refine Ni (hK328 (Sq fun K332 hK332 => (Rg (Va (dx_loadN rfl ty_agg_26_5 rfl k321.range rfl) rfl rfl ?_))))
         refine WL.do (dx_store (cs' := [.int .i64 6, .int .i64 0, .string ⟨#[]⟩, u2, u5]) (vs := [.int .i64 6, .int .i64 0, .string ⟨#[]⟩, u2, u5]) rfl ty_size_26_5 rfl rfl rfl (oc_cons rfl (oc_cons rfl (oc_cons rfl (oc_cons hOn.one (oc_cons k331.one oc_nil))))) k14 rfl (Nat.le_of_ble_eq_true rfl) rfl) rfl ?_
         rintro _ W333 ⟨k335, o334⟩
         replace hOn := hOn.other o334 n314.symm
         replace k331 := k331.other o334 n315.symm
         clear k14
         replace hcp := hcp.only o334 (.tail _ (.tail _ (.tail _ (.head _))))
         replace hnq := hnq.only o334 (.tail _ (.tail _ (.tail _ (.head _))))
         replace hiq := hiq.only o334 (.tail _ (.tail _ (.tail _ (.head _))))
         replace hcq := hcq.only o334 (.tail _ (.tail _ (.tail _ (.head _))))
         replace hB := o334.below hB l19
         refine Pu rfl (Ni (hK332 ?_))
         exact WC.ret fun a_ ha_ => hQ (cv_ret2 rfl (.agg rfl ty_agg_26_5 k335.range rfl) (.tmp rfl) (.inl ⟨.mk 6 0 ⟨#[]⟩ u2 p.names u5 (p.items.set at_ q), rfl, (by rw [withJ_ok hro hxo huo (by omega), putJ_t (a := at_) (by rw [er_names]; exact hat) (by rw [er_names]; assumption), Tr.er_mk, er_names, er_items, List.map_set]), (hOn.notin hL0 l317), (k331.notin hL0 l318), fun c hc_ => by rcases List.mem_or_eq_of_mem_set hc_ with h_ | h_; exact ((hcp c h_).less (fun x hx => (.tail _ (.tail _ (.tail _ (.tail _ (.tail _ (.tail _ hx)))))))).up; (rw [h_]; exact ((show RdT (n + 1) (Bi :: Bn :: B7 :: W7.heap.size :: W2.heap.size :: w.heap.size :: L) W333 q from ⟨hnq, hiq, hcq⟩).less (fun x hx => (.tail _ (.tail _ (.tail _ (.tail _ (.tail _ (.tail _ hx)))))))))⟩) hB ha_)
        ·
         replace c327 := dF c327
         refine WC.skip (hK325 (Sq fun K336 hK336 => (Rg (Va (dx_fld (o1 := 3) rfl ty_fld_26_3_3 rfl rfl) rfl rfl (Va (dx_load rfl ty_one_23 rfl (k321.cell (k := 3) rfl)) rfl rfl (Pu rfl (Pu rfl ?_)))))))
         refine Ge (dx_lit1 (r := [.string name]) rfl ty_ap_23 (by decide) (by decide) rfl rfl rfl) rfl rfl ?_
         rintro u341 W337 ⟨k338, b339, z340⟩
         have n346 : Bn ≠ W324.heap.size := Nat.ne_of_lt hOn.lt
         have l348 := hB.size
         replace hcp := hcp.more b339 (Nat.le_refl _)
         replace hnq := hnq.more b339 (Nat.le_refl _)
         replace hiq := hiq.more b339 (Nat.le_refl _)
         replace hcq := hcq.more b339 (Nat.le_refl _)
         replace k8 := k8.below b339
         replace k14 := k14.below b339
         replace k321 := k321.below b339
         replace hOn := hOn.below b339
         replace hOi := hOi.below b339
         replace hB := below_then hB b339
         refine Ge (dx_cw rfl Try.func50 rfl rfl rfl (insOT_v _ [eS name] at_ Bn W324.heap.size _ _ W337 hOn k338 n346.symm (by rw [List.length_map]; omega) (by simp) (by rw [List.length_map, List.length_singleton]; omega) (oc_eS p.names) (fun r hr => by rw [List.mem_singleton.1 hr]; exact (oc_cons rfl oc_nil)))) rfl rfl ?_
         rintro x349 W350 ⟨⟨B351, k352, g353⟩, g354⟩
         have g355 := GrowB.of_chg g354 g353
         have n360 : W7.heap.size ≠ B351 := k14.grow_ne g355 n314
         have n361 : B7 ≠ B351 := k321.grow_ne g355 h27.symm
         have n362 : Bi ≠ B351 := hOi.grow_ne g355 h25.symm
         have l357 := g355.le l317 hB.size
         replace hcp := hcp.grow' g355 (.tail _ (.tail _ (.head _)))
         replace hnq := hnq.grow' g355 (.tail _ (.tail _ (.head _)))
         replace hiq := hiq.grow' g355 (.tail _ (.tail _ (.head _)))
         replace hcq := hcq.grow' g355 (.tail _ (.tail _ (.head _)))
         replace k8 := k8.grow g355 n311
         replace k14 := k14.grow g355 n314
         replace k321 := k321.grow g355 h27.symm
         replace hOi := hOi.grow g355 h25.symm
         replace hB := g355.below hB l317 hB.size
         rw [show (p.names.map eS).take at_ ++ ([eS name] ++ (p.names.map eS).drop at_) = ((insA at_ name p.names).map eS) from (insA_map _ at_ _ _).symm] at k352
         refine Va (dx_fld (o1 := 3) rfl ty_fld_26_3_3 rfl rfl) rfl rfl ?_
         refine WL.do (dx_store (cs' := [.int .i64 6, .int .i64 0, .string ⟨#[]⟩, x349, u5]) (vs := [x349]) rfl ty_size_23_1 rfl rfl (oc_one k352.one) (oc_cons k352.one oc_nil) k321 rfl (Nat.le_of_ble_eq_true rfl) rfl) rfl ?_
         rintro _ W364 ⟨k366, o365⟩
         replace k8 := k8.other o365 n310
         replace k14 := k14.other o365 n313
         replace hOi := hOi.other o365 h57
         replace k352 := k352.other o365 n361.symm
         clear k321
         replace hcp := hcp.only o365 (.tail _ (.tail _ (.tail _ (.tail _ (.head _)))))
         replace hnq := hnq.only o365 (.tail _ (.tail _ (.tail _ (.tail _ (.head _)))))
         replace hiq := hiq.only o365 (.tail _ (.tail _ (.tail _ (.tail _ (.head _)))))
         replace hcq := hcq.only o365 (.tail _ (.tail _ (.tail _ (.tail _ (.head _)))))
         replace hB := o365.below hB l316
         refine Ni (hK336 (Sq fun K367 hK367 => (Rg (Va (dx_fld (o1 := 4) rfl ty_fld_26_4_4 rfl rfl) rfl rfl (Va (dx_load rfl ty_one_24 rfl (k366.cell (k := 4) rfl)) rfl rfl (Pu rfl (Va (dx_loadN rfl ty_agg_26_5 rfl k8.range rfl) rfl rfl ?_)))))))
         refine Ge (dx_lit1 (r := [.int .i64 q.kind, .int .i64 q.num, .string q.text, q.nv, q.iv]) rfl ty_ap_24 (by decide) (by decide) rfl rfl rfl) rfl rfl ?_
         rintro u372 W368 ⟨k369, b370, z371⟩
         have n377 : Bi ≠ W364.heap.size := Nat.ne_of_lt hOi.lt
         have l380 := hB.size
         replace hcp := hcp.more b370 (Nat.le_refl _)
         replace hnq := hnq.more b370 (Nat.le_refl _)
         replace hiq := hiq.more b370 (Nat.le_refl _)
         replace hcq := hcq.more b370 (Nat.le_refl _)
         replace k14 := k14.below b370
         replace k366 := k366.below b370
         replace hOi := hOi.below b370
         replace k352 := k352.below b370
         replace hB := below_then hB b370
         refine Ge (dx_cw rfl Try.func51 rfl rfl rfl (insOV_v _ [encT q] at_ Bi W364.heap.size _ _ W368 hOi k369 n377.symm (by rw [List.length_map]; omega) (by simp) (by rw [List.length_map, List.length_singleton]; omega) (oc_items hcp) (fun r hr => by rw [List.mem_singleton.1 hr]; exact (show RdT (n + 1) (W364.heap.size :: B351 :: W324.heap.size :: Bi :: Bn :: B7 :: W7.heap.size :: W2.heap.size :: w.heap.size :: L) W368 q from ⟨hnq, hiq, hcq⟩).oc))) rfl rfl ?_
         rintro x381 W382 ⟨⟨B383, k384, g385⟩, g386⟩
         have g387 := GrowB.of_chg g386 g385
         have n392 : W7.heap.size ≠ B383 := k14.grow_ne g387 n315
         have n393 : B7 ≠ B383 := k366.grow_ne g387 h57.symm
         have l389 := g387.le l318 hB.size
         replace hcp := hcp.grow' g387 (.tail _ (.tail _ (.tail _ (.head _))))
         replace hnq := hnq.grow' g387 (.tail _ (.tail _ (.tail _ (.head _))))
         replace hiq := hiq.grow' g387 (.tail _ (.tail _ (.tail _ (.head _))))
         replace hcq := hcq.grow' g387 (.tail _ (.tail _ (.tail _ (.head _))))
         replace k14 := k14.grow g387 n315
         replace k366 := k366.grow g387 h57.symm
         replace k352 := k352.grow g387 n362.symm
         replace hB := g387.below hB l318 hB.size
         rw [show (p.items.map encT).take at_ ++ ([encT q] ++ (p.items.map encT).drop at_) = ((insA at_ q p.items).map encT) from (insA_map _ at_ _ _).symm] at k384
         refine Va (dx_fld (o1 := 4) rfl ty_fld_26_4_4 rfl rfl) rfl rfl ?_
         refine WL.do (dx_store (cs' := [.int .i64 6, .int .i64 0, .string ⟨#[]⟩, x349, x381]) (vs := [x381]) rfl ty_size_24_1 rfl rfl (oc_one k384.one) (oc_cons k384.one oc_nil) k366 rfl (Nat.le_of_ble_eq_true rfl) rfl) rfl ?_
         rintro _ W397 ⟨k399, o398⟩
         replace k14 := k14.other o398 n313
         replace k352 := k352.other o398 n361.symm
         replace k384 := k384.other o398 n393.symm
         clear k366
         replace hcp := hcp.only o398 (.tail _ (.tail _ (.tail _ (.tail _ (.tail _ (.tail _ (.head _)))))))
         replace hnq := hnq.only o398 (.tail _ (.tail _ (.tail _ (.tail _ (.tail _ (.tail _ (.head _)))))))
         replace hiq := hiq.only o398 (.tail _ (.tail _ (.tail _ (.tail _ (.tail _ (.tail _ (.head _)))))))
         replace hcq := hcq.only o398 (.tail _ (.tail _ (.tail _ (.tail _ (.tail _ (.tail _ (.head _)))))))
         replace hB := o398.below hB l316
         refine Ni (hK367 (Sq fun K400 hK400 => (Rg (Va (dx_loadN rfl ty_agg_26_5 rfl k399.range rfl) rfl rfl ?_))))
         refine WL.do (dx_store (cs' := [.int .i64 6, .int .i64 0, .string ⟨#[]⟩, x349, x381]) (vs := [.int .i64 6, .int .i64 0, .string ⟨#[]⟩, x349, x381]) rfl ty_size_26_5 rfl rfl rfl (oc_cons rfl (oc_cons rfl (oc_cons rfl (oc_cons k352.one (oc_cons k384.one oc_nil))))) k14 rfl (Nat.le_of_ble_eq_true rfl) rfl) rfl ?_
         rintro _ W401 ⟨k403, o402⟩
         replace k352 := k352.other o402 n360.symm
         replace k384 := k384.other o402 n392.symm
         clear k14
         replace hcp := hcp.only o402 (.tail _ (.tail _ (.tail _ (.tail _ (.tail _ (.tail _ (.tail _ (.head _))))))))
         replace hnq := hnq.only o402 (.tail _ (.tail _ (.tail _ (.tail _ (.tail _ (.tail _ (.tail _ (.head _))))))))
         replace hiq := hiq.only o402 (.tail _ (.tail _ (.tail _ (.tail _ (.tail _ (.tail _ (.tail _ (.head _))))))))
         replace hcq := hcq.only o402 (.tail _ (.tail _ (.tail _ (.tail _ (.tail _ (.tail _ (.tail _ (.head _))))))))
         replace hB := o402.below hB l19
         refine Pu rfl (Ni (hK400 ?_))
         exact WC.ret fun a_ ha_ => hQ (cv_ret2 rfl (.agg rfl ty_agg_26_5 k403.range rfl) (.tmp rfl) (.inl ⟨.mk 6 0 ⟨#[]⟩ x349 (insA at_ name p.names) x381 (insA at_ q p.items), rfl, (by rw [withJ_ok hro hxo huo (by omega), putJ_f (a := at_) (by rw [er_names]; exact hat) (by rw [er_names]; assumption), Tr.er_mk, er_names, er_items, insA_map]), (k352.notin hL0 l357), (k384.notin hL0 l389), fun c hc_ => by rcases mem_insA.1 hc_ with h_ | h_; (rw [h_]; exact ((show RdT (n + 1) (B383 :: W364.heap.size :: B351 :: W324.heap.size :: Bi :: Bn :: B7 :: W7.heap.size :: W2.heap.size :: w.heap.size :: L) W401 q from ⟨hnq, hiq, hcq⟩).less (fun x hx => (.tail _ (.tail _ (.tail _ (.tail _ (.tail _ (.tail _ (.tail _ (.tail _ (.tail _ (.tail _ hx))))))))))))); exact ((hcp c h_).less (fun x hx => (.tail _ (.tail _ (.tail _ (.tail _ (.tail _ (.tail _ (.tail _ (.tail _ (.tail _ (.tail _ hx)))))))))))).up⟩) hB ha_)

abbrev Ups (l : List ByteArray) : Prop := l.Pairwise (fun a b => sless b a = false)
theorem ups_not {l : List ByteArray} (h : Ups l) {i j : Nat} {a b : ByteArray} (hij : i < j) (ha : l[i]? = some a) (hb : l[j]? = some b) : sless b a = false := by
 obtain ⟨hi, rfl⟩ := List.getElem?_eq_some_iff.1 ha
 obtain ⟨hj, rfl⟩ := List.getElem?_eq_some_iff.1 hb
 exact List.pairwise_iff_getElem.1 h i j hi hj hij
theorem ups_ahead {l : List ByteArray} (h : Ups l) {x a b : ByteArray} {i q : Nat} (hq : q ≤ i) (ha : l[i]? = some a) (hx : sless a x = true) (hb : l[q]? = some b) : sless b x = true := by
  rcases Nat.lt_or_eq_of_le hq with h1 | rfl
  · have := ups_not h h1 hb ha
    rcases sless_tri a b with ⟨p, _, _⟩ | ⟨_, p, _⟩ | rfl
    · rw [p] at this; cases this
    · exact sless_trans _ _ _ p hx
    · exact hx
  · rw [ha] at hb; cases hb; exact hx
theorem ups_behind {l : List ByteArray} (h : Ups l) {x a b : ByteArray} {i q : Nat} (hq : i ≤ q) (ha : l[i]? = some a) (hx : sless a x = false) (hb : l[q]? = some b) : sless b x = false := by
  rcases Nat.lt_or_eq_of_le hq with h1 | rfl
  · cases hbx : sless b x with
    | false => rfl
    | true => rw [ups_ahead h hq hb hbx ha] at hx; cases hx
  · rw [ha] at hb; cases hb; exact hx
theorem mem_ups {x : ByteArray} {l : List ByteArray} (h : Ups l) : x ∈ l ↔ l[lbT x l]? = some x := by
  constructor
  · intro hm
    obtain ⟨i, hi, he⟩ := List.mem_iff_getElem.1 hm
    have hx : l[i]? = some x := by rw [List.getElem?_eq_getElem hi, he]
    have hle : lbT x l ≤ i := by
      rcases Nat.lt_or_ge i (lbT x l) with h1 | h1
      · have := lb_ahead h1 hx
        rw [sless_irrefl] at this; cases this
      · exact h1
    have hlt : lbT x l < l.length := by omega
    have ha := List.getElem?_eq_getElem hlt
    have h1 := lb_at ha
    rw [ha]
    rcases Nat.lt_or_eq_of_le hle with h2 | h2
    · have h3 := ups_not h h2 ha hx
      rcases sless_tri l[lbT x l] x with ⟨p, _, _⟩ | ⟨_, p, _⟩ | p
      · rw [p] at h1; cases h1
      · rw [p] at h3; cases h3
      · rw [p]
    · rw [← ha, h2]; exact hx
  · exact fun hm => List.mem_of_getElem? hm
theorem ups_sort (l : List ByteArray) : Ups (sortT l) := sortT_le l
def hasB (g : List ByteArray) (a : ByteArray) : Bool := g.any fun x => decide (x = a)
theorem hasB_iff {g : List ByteArray} {a : ByteArray} : hasB g a = true ↔ a ∈ g := by
  unfold hasB
  rw [List.any_eq_true]
  constructor
  · rintro ⟨x, hx, he⟩
    rw [← of_decide_eq_true he]; exact hx
  · exact fun h => ⟨a, h, decide_eq_true rfl⟩
def wnN (g : List ByteArray) (ns : List ByteArray) : List ByteArray := ns.filter fun a => !hasB g a
def wnT {α : Type} (g : List ByteArray) (ns : List ByteArray) (ts : List α) : List α := ((ns.zip ts).filter fun p => !hasB g p.1).map (·.2)
theorem wnN_le (g ns : List ByteArray) : (wnN g ns).length ≤ ns.length := List.length_filter_le _ _
theorem wnT_len {α : Type} (g : List ByteArray) : ∀ (ns : List ByteArray) (ts : List α), ns.length = ts.length → (wnT g ns ts).length = (wnN g ns).length
 | [], [], _ => rfl
 | [], _ :: _, h => by simp at h
 | _ :: _, [], h => by simp at h
 | a :: ns, t :: ts, h => by
  have := wnT_len g ns ts (by simpa using h)
  unfold wnT wnN at *
  rw [List.zip_cons_cons, List.filter_cons, List.filter_cons]
  cases ha : hasB g a with
  | false => simpa using this
  | true => simpa using this
theorem wnT_map {α β : Type} (f : α → β) (g : List ByteArray) : ∀ (ns : List ByteArray) (ts : List α), (wnT g ns ts).map f = wnT g ns (ts.map f)
 | [], ts => by simp [wnT]
 | _ :: _, [] => by simp [wnT]
 | a :: ns, t :: ts => by
  have ih := wnT_map f g ns ts
  unfold wnT at ih ⊢
  rw [List.map_cons, List.zip_cons_cons, List.zip_cons_cons, List.filter_cons, List.filter_cons]
  cases ha : hasB g a with
  | false => simpa using ih
  | true => simpa using ih
theorem wnN_add {g l : List ByteArray} {i : Nat} {a : ByteArray} (hr : l[i]? = some a) (h : hasB g a = false) : wnN g (l.take (i + 1)) = wnN g (l.take i) ++ [a] := by
 unfold wnN
 rw [List.take_add_one, hr, List.filter_append]
 simp [h]
theorem wnN_no {g l : List ByteArray} {i : Nat} {a : ByteArray} (hr : l[i]? = some a) (h : hasB g a = true) : wnN g (l.take (i + 1)) = wnN g (l.take i) := by
 unfold wnN
 rw [List.take_add_one, hr, List.filter_append]
 simp [h]
theorem zip_take {α : Type} {l : List ByteArray} {ts : List α} {i : Nat} {a : ByteArray} {t : α} (hr : l[i]? = some a) (ht : ts[i]? = some t) : (l.take (i + 1)).zip (ts.take (i + 1)) = (l.take i).zip (ts.take i) ++ [(a, t)] := by
 have h1 := (List.getElem?_eq_some_iff.1 hr).1
 have h2 := (List.getElem?_eq_some_iff.1 ht).1
 rw [List.take_add_one, List.take_add_one, hr, ht, List.zip_append (by rw [List.length_take, List.length_take]; omega)]
 rfl
theorem wnT_add {α : Type} {g l : List ByteArray} {ts : List α} {i : Nat} {a : ByteArray} {t : α} (hr : l[i]? = some a) (ht : ts[i]? = some t) (h : hasB g a = false) : wnT g (l.take (i + 1)) (ts.take (i + 1)) = wnT g (l.take i) (ts.take i) ++ [t] := by
 unfold wnT
 rw [zip_take hr ht, List.filter_append]
 simp [h]
theorem wnT_no {α : Type} {g l : List ByteArray} {ts : List α} {i : Nat} {a : ByteArray} {t : α} (hr : l[i]? = some a) (ht : ts[i]? = some t) (h : hasB g a = true) : wnT g (l.take (i + 1)) (ts.take (i + 1)) = wnT g (l.take i) (ts.take i) := by
 unfold wnT
 rw [zip_take hr ht, List.filter_append]
 simp [h]
theorem NewW.rdL {s b : Nat} {w w0 : World} {u : Value} {rs : List (List Value)} {L : List Nat} (h : NewW s b rs u w) (hL : LL L w0) (hb : w0.heap.size ≤ b) : RdF s L w u rs := by
 rcases h with ⟨rfl, rfl, h0⟩ | ⟨B, h1, h2⟩
 · exact RdF.nil h0
 · exact h2.rd (hL.notin (Nat.le_trans hb h1))
end Go.Proofs.Ytpinidlfcifeeaa
namespace Go.Proofs
open Go.Shelf
def Try.lays190_ren : Go.Shelf.Ren := ⟨fun | 190 => 53 | 125 => 81 | 258 => 80 | 128 => 105 | 129 => 106 | 302 => 97 | 303 => 98 | 304 => 99 | 305 => 100 | 306 => 101 | 307 => 102 | 308 => 74 | 309 => 103 | 310 => 104 | 333 => 126 | 329 => 127 | 330 => 128 | 334 => 129 | 335 => 130 | 336 => 94 | 344 => 137 | n => n, fun | 31 => 23 | 9 => 9 | 3 => 3 | 46 => 97 | 0 => 0 | 51 => 122 | 53 => 124 | 4 => 4 | 183 => 116 | 182 => 115 | 131 => 68 | 5 => 5 | 218 => 139 | 222 => 143 | 228 => 151 | 229 => 152 | n => n, fun | n => n⟩
theorem Try.lays190 : Go.Proofs.Lays.n190 Try.prog Try.lays190_ren := {
 mixed := by kernel_rfl
 f125 := Try.func81.trans (congrArg some (by kernel_rfl))
 f128 := Try.func105.trans (congrArg some (by kernel_rfl))
 f129 := Try.func106.trans (congrArg some (by kernel_rfl))
 f190 := Try.func53.trans (congrArg some (by kernel_rfl))
 f258 := Try.func80.trans (congrArg some (by kernel_rfl))
 f302 := Try.func97.trans (congrArg some (by kernel_rfl))
 f303 := Try.func98.trans (congrArg some (by kernel_rfl))
 f304 := Try.func99.trans (congrArg some (by kernel_rfl))
 f305 := Try.func100.trans (congrArg some (by kernel_rfl))
 f306 := Try.func101.trans (congrArg some (by kernel_rfl))
 f307 := Try.func102.trans (congrArg some (by kernel_rfl))
 f308 := Try.func74.trans (congrArg some (by kernel_rfl))
 f309 := Try.func103.trans (congrArg some (by kernel_rfl))
 f310 := Try.func104.trans (congrArg some (by kernel_rfl))
 f329 := Try.func127.trans (congrArg some (by kernel_rfl))
 f330 := Try.func128.trans (congrArg some (by kernel_rfl))
 f333 := Try.func126.trans (congrArg some (by kernel_rfl))
 f334 := Try.func129.trans (congrArg some (by kernel_rfl))
 f335 := Try.func130.trans (congrArg some (by kernel_rfl))
 f336 := Try.func94.trans (congrArg some (by kernel_rfl))
 f344 := Try.func137.trans (congrArg some (by kernel_rfl))
 t0 := Try.underlying0
 a0 := Try.isAgg0
 z0 := Try.sizeOf0
 v0 := Try.zeroValue0
 t3 := Try.underlying3
 a3 := Try.isAgg3
 z3 := Try.sizeOf3
 v3 := Try.zeroValue3
 t4 := Try.underlying4
 a4 := Try.isAgg4
 z4 := Try.sizeOf4
 v4 := Try.zeroValue4
 t5 := Try.underlying5
 a5 := Try.isAgg5
 z5 := Try.sizeOf5
 v5 := Try.zeroValue5
 t9 := Try.underlying9
 a9 := Try.isAgg9
 z9 := Try.sizeOf9
 v9 := Try.zeroValue9
 t31 := Try.underlying23
 a31 := Try.isAgg23
 z31 := Try.sizeOf23
 v31 := Try.zeroValue23
 t46 := Try.underlying97
 a46 := Try.isAgg97
 z46 := Try.sizeOf97
 v46 := Try.zeroValue97
 t51 := Try.underlying122
 a51 := Try.isAgg122
 z51 := Try.sizeOf122
 v51 := Try.zeroValue122
 t53 := Try.underlying124
 a53 := Try.isAgg124
 z53 := Try.sizeOf124
 v53 := Try.zeroValue124
 t131 := Try.underlying68
 a131 := Try.isAgg68
 z131 := Try.sizeOf68
 v131 := Try.zeroValue68
 t182 := Try.underlying115
 a182 := Try.isAgg115
 z182 := Try.sizeOf115
 v182 := Try.zeroValue115
 t183 := Try.underlying116
 a183 := Try.isAgg116
 z183 := Try.sizeOf116
 v183 := Try.zeroValue116
 t218 := Try.underlying139
 a218 := Try.isAgg139
 z218 := Try.sizeOf139
 v218 := Try.zeroValue139
 t222 := Try.underlying143
 a222 := Try.isAgg143
 z222 := Try.sizeOf143
 v222 := Try.zeroValue143
 t228 := Try.underlying151
 a228 := Try.isAgg151
 z228 := Try.sizeOf151
 v228 := Try.zeroValue151
 t229 := Try.underlying152
 a229 := Try.isAgg152
 z229 := Try.sizeOf152
 v229 := Try.zeroValue152 }
open Go.Sort Go.RowKit in
theorem Try.slices_Sort_string (blk off cap : Nat) (ss : List (List UInt8)) (w : World) (hH : Holds encStr w blk off ss.toArray) (hblk : blk < w.heap.size) (hsz : ss.length < 4611686018427387904) :
  Calls Try.prog 53 #[.slice (some ⟨blk, off, none⟩) ss.length cap] w fun e w' =>
   e = .returned (.tuple #[]) ∧ ∃ n os, w' = grow (putRow encStr (Sort.ahead w n) blk off (ss.mergeSort fun x y => decide (x ≤ y)).toArray) os := Any.slices_Sort_string Try.lays190 blk off cap ss w hH hblk hsz
open Go.RowKit Go.Sort in
theorem Try.slices_Sort_string_none (p : Option Addr) (cap : Nat) (w : World) :
  Calls Try.prog 53 #[.slice p 0 cap] w fun e w' => e = .returned (.tuple #[]) ∧ w' = w := Any.slices_Sort_string_none Try.lays190 p cap w
end Go.Proofs
