/- Trees in the reference. Trees in the reference: deep, Get, same, Weigh. A slice of two structures of five cells that is written out. No program stands -/
import Derived.Shelf.Strconv.Itoa0
import Derived.Shelf.Strconv.Itoa1
import Derived.Shelf.LaysM
import Derived.Shelf.Strconv.Itoa2
import Derived.Shelf.Strconv.Itoa3
import Derived.Test.YtghpdnfdbhjmpaaGreatDoorProg
import Derived.Lib.ItoaNum
import Derived.Lib.AppendIntMem
import Derived.Test.YtghpdnfdbhjmpaaGreatDoorRows
import Derived.Lib.LaidTab
import Derived.ChangeSame
import Derived.Stop.LaidErr
import Derived.MakeChecks
import Derived.Test.YtghpdnfdbhjmpaaGreatDoorZD
namespace Go.Proofs.YtghpdnfdbhjmpaaGreatDoor
open Go.RowKit
set_option linter.unusedVariables false
set_option linter.unusedSimpArgs false
set_option maxRecDepth 8000
set_option maxHeartbeats 2000000

def plainT (a b c d : Bool) (t : Tr) : Bool := (a || decide (t.num = 0)) && ((b || decide (t.text = ⟨#[]⟩)) && ((c || decide (t.names = [])) && (d || decide (t.items = []))))
theorem nil_of_z {α : Type} {l : List α} (h : (l.length : Int) = 0) : l = [] := List.length_eq_zero_iff.1 (by omega)
theorem ne_of_z {α : Type} {l : List α} (h : ¬ (l.length : Int) = 0) : l ≠ [] := fun e => by rw [e] at h; simp at h
set_option maxHeartbeats 1000000 in
theorem plainFFFF_v (n : Nat) (t : Tr) (w : World) (L : List Nat) (hL : LL L w) (ht : RdT (n + 1) L w t) : CV Tryz.prog 65 [.agg #[.int .i64 t.kind, .int .i64 t.num, .string t.text, t.nv, t.iv], .bool false, .bool false, .bool false, .bool false] w fun v W => v = .bool (plainT false false false false t) := by
 refine cv_enter (N := 43) (f := [(0, .agg #[.int .i64 t.kind, .int .i64 t.num, .string t.text, t.nv, t.iv]), (1, .bool false), (2, .bool false), (3, .bool false), (4, .bool false)]) Tryz.func65 rfl rfl rfl rfl fun Q hQ hE => ?_
 have hB := Below.refl w.heap.size w
 refine Sq fun K1 hK1 => ?_
 obtain ⟨hnt, hit, hct⟩ := ht
 replace hct : RdTs n (L) w t.items := hct
 refine Rg ?_
 refine Ge (dx_box rfl rfl rfl) rfl rfl ?_
 rintro _ W2 ⟨rfl, k3, b4, z5⟩
 have l6 := hB.size
 replace hnt := hnt.more b4 (Nat.le_refl _)
 replace hit := hit.more b4 (Nat.le_refl _)
 replace hB := below_then hB b4
 refine Pu rfl (Ni (hK1 (Sq fun K7 hK7 => (Rg (Pu rfl (Pu rfl (Va (dx_fld (o1 := 1) rfl ty_fld_27_1_1 rfl rfl) rfl rfl ?_)))))))
 refine Va (dx_load rfl ty_one_3 rfl (k3.cell (k := 1) rfl)) rfl rfl (Va (dx_eql rfl rfl rfl) rfl rfl (Pu rfl (Pu rfl ?_)))
 refine WL.split 17 rfl (fun g8 => ?_) (fun g8 => ?_)
 ·
  replace g8 := dT g8
  refine Pu rfl (Pu rfl (Va (dx_fld (o1 := 2) rfl ty_fld_27_2_2 rfl rfl) rfl rfl (Va (dx_load rfl ty_one_9 rfl (k3.cell (k := 2) rfl)) rfl rfl (Va (dx_eqlT rfl rfl rfl) rfl rfl (Pu rfl (Pu rfl (Pu rfl ?_)))))))
  refine WL.split 25 rfl (fun g9 => ?_) (fun g9 => ?_)
  ·
   replace g9 := dT g9
   refine Pu rfl (Pu rfl (Va (dx_fld (o1 := 3) rfl ty_fld_27_3_3 rfl rfl) rfl rfl (Va (dx_load rfl ty_one_24 rfl (k3.cell (k := 3) rfl)) rfl rfl (Va (dx_lenFM rfl ty_slice_24 rfl hnt) rfl rfl (Va (dx_eql rfl rfl rfl) rfl rfl (Pu rfl (Pu rfl ?_)))))))
   refine Pu rfl ?_
   refine WL.split 34 rfl (fun g10 => ?_) (fun g10 => ?_)
   ·
    replace g10 := dT g10
    refine Pu rfl (Pu rfl (Va (dx_fld (o1 := 4) rfl ty_fld_27_4_4 rfl rfl) rfl rfl (Va (dx_load rfl ty_one_25 rfl (k3.cell (k := 4) rfl)) rfl rfl (Va (dx_lenFM rfl ty_slice_25 rfl hit) rfl rfl (Va (dx_eql rfl rfl rfl) rfl rfl (Pu rfl (Pu rfl ?_)))))))
    refine Pu rfl (Ni (hK7 ?_))
    exact WC.ret fun a_ ha_ => hQ (cv_ret1 rfl (.tmp rfl) (by (try have q1 := nil_of_z ‹(t.names.length : Int) = 0›); (try have q2 := nil_of_z ‹(t.items.length : Int) = 0›); (try have q3 := ne_of_z ‹¬ (t.names.length : Int) = 0›); (try have q4 := ne_of_z ‹¬ (t.items.length : Int) = 0›); unfold plainT; simp [*]) hB ha_)
   ·
    replace g10 := dF g10
    refine Of rfl (Of rfl (Of rfl (Of rfl (Of rfl (Of rfl (Of rfl (Pu rfl ?_)))))))
    refine Pu rfl (Ni (hK7 ?_))
    exact WC.ret fun a_ ha_ => hQ (cv_ret1 rfl (.tmp rfl) (by (try have q1 := nil_of_z ‹(t.names.length : Int) = 0›); (try have q2 := nil_of_z ‹(t.items.length : Int) = 0›); (try have q3 := ne_of_z ‹¬ (t.names.length : Int) = 0›); (try have q4 := ne_of_z ‹¬ (t.items.length : Int) = 0›); unfold plainT; simp [*]) hB ha_)
  ·
   replace g9 := dF g9
   refine Of rfl (Of rfl (Of rfl (Of rfl (Of rfl (Of rfl (Of rfl (Pu rfl ?_)))))))
   refine Pu rfl (Of rfl (Of rfl (Of rfl (Of rfl (Of rfl (Of rfl (Of rfl ?_)))))))
   refine Pu rfl (Pu rfl (Ni (hK7 ?_)))
   exact WC.ret fun a_ ha_ => hQ (cv_ret1 rfl (.tmp rfl) (by (try have q1 := nil_of_z ‹(t.names.length : Int) = 0›); (try have q2 := nil_of_z ‹(t.items.length : Int) = 0›); (try have q3 := ne_of_z ‹¬ (t.names.length : Int) = 0›); (try have q4 := ne_of_z ‹¬ (t.items.length : Int) = 0›); unfold plainT; simp [*]) hB ha_)
 ·
  replace g8 := dF g8
  refine Of rfl (Of rfl (Of rfl (Of rfl (Of rfl (Of rfl (Pu rfl (Pu rfl ?_)))))))
  refine Of rfl (Of rfl (Of rfl (Of rfl (Of rfl (Of rfl (Of rfl (Pu rfl ?_)))))))
  refine Pu rfl (Of rfl (Of rfl (Of rfl (Of rfl (Of rfl (Of rfl (Of rfl ?_)))))))
  refine Pu rfl (Pu rfl (Ni (hK7 ?_)))
  exact WC.ret fun a_ ha_ => hQ (cv_ret1 rfl (.tmp rfl) (by (try have q1 := nil_of_z ‹(t.names.length : Int) = 0›); (try have q2 := nil_of_z ‹(t.items.length : Int) = 0›); (try have q3 := ne_of_z ‹¬ (t.names.length : Int) = 0›); (try have q4 := ne_of_z ‹¬ (t.items.length : Int) = 0›); unfold plainT; simp [*]) hB ha_)

set_option maxHeartbeats 1000000 in
theorem plainTFFF_v (n : Nat) (t : Tr) (w : World) (L : List Nat) (hL : LL L w) (ht : RdT (n + 1) L w t) : CV Tryz.prog 65 [.agg #[.int .i64 t.kind, .int .i64 t.num, .string t.text, t.nv, t.iv], .bool true, .bool false, .bool false, .bool false] w fun v W => v = .bool (plainT true false false false t) := by
 refine cv_enter (N := 43) (f := [(0, .agg #[.int .i64 t.kind, .int .i64 t.num, .string t.text, t.nv, t.iv]), (1, .bool true), (2, .bool false), (3, .bool false), (4, .bool false)]) Tryz.func65 rfl rfl rfl rfl fun Q hQ hE => ?_
 have hB := Below.refl w.heap.size w
 refine Sq fun K1 hK1 => ?_
 obtain ⟨hnt, hit, hct⟩ := ht
 replace hct : RdTs n (L) w t.items := hct
 refine Rg ?_
 refine Ge (dx_box rfl rfl rfl) rfl rfl ?_
 rintro _ W2 ⟨rfl, k3, b4, z5⟩
 have l6 := hB.size
 replace hnt := hnt.more b4 (Nat.le_refl _)
 replace hit := hit.more b4 (Nat.le_refl _)
 replace hB := below_then hB b4
 refine Pu rfl (Ni (hK1 (Sq fun K7 hK7 => (Rg (Pu rfl (Pu rfl (Of rfl ?_)))))))
 refine Of rfl (Of rfl (Pu rfl (Pu rfl (Pu rfl (Pu rfl (Va (dx_fld (o1 := 2) rfl ty_fld_27_2_2 rfl rfl) rfl rfl (Va (dx_load rfl ty_one_9 rfl (k3.cell (k := 2) rfl)) rfl rfl ?_)))))))
 refine Va (dx_eqlT rfl rfl rfl) rfl rfl (Pu rfl (Pu rfl (Pu rfl ?_)))
 refine WL.split 25 rfl (fun g8 => ?_) (fun g8 => ?_)
 ·
  replace g8 := dT g8
  refine Pu rfl (Pu rfl (Va (dx_fld (o1 := 3) rfl ty_fld_27_3_3 rfl rfl) rfl rfl (Va (dx_load rfl ty_one_24 rfl (k3.cell (k := 3) rfl)) rfl rfl (Va (dx_lenFM rfl ty_slice_24 rfl hnt) rfl rfl (Va (dx_eql rfl rfl rfl) rfl rfl (Pu rfl (Pu rfl ?_)))))))
  refine Pu rfl ?_
  refine WL.split 34 rfl (fun g9 => ?_) (fun g9 => ?_)
  ·
   replace g9 := dT g9
   refine Pu rfl (Pu rfl (Va (dx_fld (o1 := 4) rfl ty_fld_27_4_4 rfl rfl) rfl rfl (Va (dx_load rfl ty_one_25 rfl (k3.cell (k := 4) rfl)) rfl rfl (Va (dx_lenFM rfl ty_slice_25 rfl hit) rfl rfl (Va (dx_eql rfl rfl rfl) rfl rfl (Pu rfl (Pu rfl ?_)))))))
   refine Pu rfl (Ni (hK7 ?_))
   exact WC.ret fun a_ ha_ => hQ (cv_ret1 rfl (.tmp rfl) (by (try have q1 := nil_of_z ‹(t.names.length : Int) = 0›); (try have q2 := nil_of_z ‹(t.items.length : Int) = 0›); (try have q3 := ne_of_z ‹¬ (t.names.length : Int) = 0›); (try have q4 := ne_of_z ‹¬ (t.items.length : Int) = 0›); unfold plainT; simp [*]) hB ha_)
  ·
   replace g9 := dF g9
   refine Of rfl (Of rfl (Of rfl (Of rfl (Of rfl (Of rfl (Of rfl (Pu rfl ?_)))))))
   refine Pu rfl (Ni (hK7 ?_))
   exact WC.ret fun a_ ha_ => hQ (cv_ret1 rfl (.tmp rfl) (by (try have q1 := nil_of_z ‹(t.names.length : Int) = 0›); (try have q2 := nil_of_z ‹(t.items.length : Int) = 0›); (try have q3 := ne_of_z ‹¬ (t.names.length : Int) = 0›); (try have q4 := ne_of_z ‹¬ (t.items.length : Int) = 0›); unfold plainT; simp [*]) hB ha_)
 ·
  replace g8 := dF g8
  refine Of rfl (Of rfl (Of rfl (Of rfl (Of rfl (Of rfl (Of rfl (Pu rfl ?_)))))))
  refine Pu rfl (Of rfl (Of rfl (Of rfl (Of rfl (Of rfl (Of rfl (Of rfl ?_)))))))
  refine Pu rfl (Pu rfl (Ni (hK7 ?_)))
  exact WC.ret fun a_ ha_ => hQ (cv_ret1 rfl (.tmp rfl) (by (try have q1 := nil_of_z ‹(t.names.length : Int) = 0›); (try have q2 := nil_of_z ‹(t.items.length : Int) = 0›); (try have q3 := ne_of_z ‹¬ (t.names.length : Int) = 0›); (try have q4 := ne_of_z ‹¬ (t.items.length : Int) = 0›); unfold plainT; simp [*]) hB ha_)

set_option maxHeartbeats 1000000 in
theorem plainFTFF_v (n : Nat) (t : Tr) (w : World) (L : List Nat) (hL : LL L w) (ht : RdT (n + 1) L w t) : CV Tryz.prog 65 [.agg #[.int .i64 t.kind, .int .i64 t.num, .string t.text, t.nv, t.iv], .bool false, .bool true, .bool false, .bool false] w fun v W => v = .bool (plainT false true false false t) := by
 refine cv_enter (N := 43) (f := [(0, .agg #[.int .i64 t.kind, .int .i64 t.num, .string t.text, t.nv, t.iv]), (1, .bool false), (2, .bool true), (3, .bool false), (4, .bool false)]) Tryz.func65 rfl rfl rfl rfl fun Q hQ hE => ?_
 have hB := Below.refl w.heap.size w
 refine Sq fun K1 hK1 => ?_
 obtain ⟨hnt, hit, hct⟩ := ht
 replace hct : RdTs n (L) w t.items := hct
 refine Rg ?_
 refine Ge (dx_box rfl rfl rfl) rfl rfl ?_
 rintro _ W2 ⟨rfl, k3, b4, z5⟩
 have l6 := hB.size
 replace hnt := hnt.more b4 (Nat.le_refl _)
 replace hit := hit.more b4 (Nat.le_refl _)
 replace hB := below_then hB b4
 refine Pu rfl (Ni (hK1 (Sq fun K7 hK7 => (Rg (Pu rfl (Pu rfl (Va (dx_fld (o1 := 1) rfl ty_fld_27_1_1 rfl rfl) rfl rfl ?_)))))))
 refine Va (dx_load rfl ty_one_3 rfl (k3.cell (k := 1) rfl)) rfl rfl (Va (dx_eql rfl rfl rfl) rfl rfl (Pu rfl (Pu rfl ?_)))
 refine WL.split 17 rfl (fun g8 => ?_) (fun g8 => ?_)
 ·
  replace g8 := dT g8
  refine Pu rfl (Pu rfl (Of rfl (Of rfl (Of rfl (Pu rfl (Pu rfl (Pu rfl ?_)))))))
  refine Pu rfl (Pu rfl (Va (dx_fld (o1 := 3) rfl ty_fld_27_3_3 rfl rfl) rfl rfl (Va (dx_load rfl ty_one_24 rfl (k3.cell (k := 3) rfl)) rfl rfl (Va (dx_lenFM rfl ty_slice_24 rfl hnt) rfl rfl (Va (dx_eql rfl rfl rfl) rfl rfl (Pu rfl (Pu rfl ?_)))))))
  refine Pu rfl ?_
  refine WL.split 34 rfl (fun g9 => ?_) (fun g9 => ?_)
  ·
   replace g9 := dT g9
   refine Pu rfl (Pu rfl (Va (dx_fld (o1 := 4) rfl ty_fld_27_4_4 rfl rfl) rfl rfl (Va (dx_load rfl ty_one_25 rfl (k3.cell (k := 4) rfl)) rfl rfl (Va (dx_lenFM rfl ty_slice_25 rfl hit) rfl rfl (Va (dx_eql rfl rfl rfl) rfl rfl (Pu rfl (Pu rfl ?_)))))))
   refine Pu rfl (Ni (hK7 ?_))
   exact WC.ret fun a_ ha_ => hQ (cv_ret1 rfl (.tmp rfl) (by (try have q1 := nil_of_z ‹(t.names.length : Int) = 0›); (try have q2 := nil_of_z ‹(t.items.length : Int) = 0›); (try have q3 := ne_of_z ‹¬ (t.names.length : Int) = 0›); (try have q4 := ne_of_z ‹¬ (t.items.length : Int) = 0›); unfold plainT; simp [*]) hB ha_)
  ·
   replace g9 := dF g9
   refine Of rfl (Of rfl (Of rfl (Of rfl (Of rfl (Of rfl (Of rfl (Pu rfl ?_)))))))
   refine Pu rfl (Ni (hK7 ?_))
   exact WC.ret fun a_ ha_ => hQ (cv_ret1 rfl (.tmp rfl) (by (try have q1 := nil_of_z ‹(t.names.length : Int) = 0›); (try have q2 := nil_of_z ‹(t.items.length : Int) = 0›); (try have q3 := ne_of_z ‹¬ (t.names.length : Int) = 0›); (try have q4 := ne_of_z ‹¬ (t.items.length : Int) = 0›); unfold plainT; simp [*]) hB ha_)
 ·
  replace g8 := dF g8
  refine Of rfl (Of rfl (Of rfl (Of rfl (Of rfl (Of rfl (Pu rfl (Pu rfl ?_)))))))
  refine Of rfl (Of rfl (Of rfl (Of rfl (Of rfl (Of rfl (Of rfl (Pu rfl ?_)))))))
  refine Pu rfl (Of rfl (Of rfl (Of rfl (Of rfl (Of rfl (Of rfl (Of rfl ?_)))))))
  refine Pu rfl (Pu rfl (Ni (hK7 ?_)))
  exact WC.ret fun a_ ha_ => hQ (cv_ret1 rfl (.tmp rfl) (by (try have q1 := nil_of_z ‹(t.names.length : Int) = 0›); (try have q2 := nil_of_z ‹(t.items.length : Int) = 0›); (try have q3 := ne_of_z ‹¬ (t.names.length : Int) = 0›); (try have q4 := ne_of_z ‹¬ (t.items.length : Int) = 0›); unfold plainT; simp [*]) hB ha_)

set_option maxHeartbeats 1000000 in
theorem plainFFFT_v (n : Nat) (t : Tr) (w : World) (L : List Nat) (hL : LL L w) (ht : RdT (n + 1) L w t) : CV Tryz.prog 65 [.agg #[.int .i64 t.kind, .int .i64 t.num, .string t.text, t.nv, t.iv], .bool false, .bool false, .bool false, .bool true] w fun v W => v = .bool (plainT false false false true t) := by
 refine cv_enter (N := 43) (f := [(0, .agg #[.int .i64 t.kind, .int .i64 t.num, .string t.text, t.nv, t.iv]), (1, .bool false), (2, .bool false), (3, .bool false), (4, .bool true)]) Tryz.func65 rfl rfl rfl rfl fun Q hQ hE => ?_
 have hB := Below.refl w.heap.size w
 refine Sq fun K1 hK1 => ?_
 obtain ⟨hnt, hit, hct⟩ := ht
 replace hct : RdTs n (L) w t.items := hct
 refine Rg ?_
 refine Ge (dx_box rfl rfl rfl) rfl rfl ?_
 rintro _ W2 ⟨rfl, k3, b4, z5⟩
 have l6 := hB.size
 replace hnt := hnt.more b4 (Nat.le_refl _)
 replace hB := below_then hB b4
 refine Pu rfl (Ni (hK1 (Sq fun K7 hK7 => (Rg (Pu rfl (Pu rfl (Va (dx_fld (o1 := 1) rfl ty_fld_27_1_1 rfl rfl) rfl rfl ?_)))))))
 refine Va (dx_load rfl ty_one_3 rfl (k3.cell (k := 1) rfl)) rfl rfl (Va (dx_eql rfl rfl rfl) rfl rfl (Pu rfl (Pu rfl ?_)))
 refine WL.split 17 rfl (fun g8 => ?_) (fun g8 => ?_)
 ·
  replace g8 := dT g8
  refine Pu rfl (Pu rfl (Va (dx_fld (o1 := 2) rfl ty_fld_27_2_2 rfl rfl) rfl rfl (Va (dx_load rfl ty_one_9 rfl (k3.cell (k := 2) rfl)) rfl rfl (Va (dx_eqlT rfl rfl rfl) rfl rfl (Pu rfl (Pu rfl (Pu rfl ?_)))))))
  refine WL.split 25 rfl (fun g9 => ?_) (fun g9 => ?_)
  ·
   replace g9 := dT g9
   refine Pu rfl (Pu rfl (Va (dx_fld (o1 := 3) rfl ty_fld_27_3_3 rfl rfl) rfl rfl (Va (dx_load rfl ty_one_24 rfl (k3.cell (k := 3) rfl)) rfl rfl (Va (dx_lenFM rfl ty_slice_24 rfl hnt) rfl rfl (Va (dx_eql rfl rfl rfl) rfl rfl (Pu rfl (Pu rfl ?_)))))))
   refine Pu rfl ?_
   refine WL.split 34 rfl (fun g10 => ?_) (fun g10 => ?_)
   ·
    replace g10 := dT g10
    refine Pu rfl (Pu rfl (Of rfl (Of rfl (Of rfl (Of rfl (Pu rfl (Pu rfl ?_)))))))
    refine Pu rfl (Ni (hK7 ?_))
    exact WC.ret fun a_ ha_ => hQ (cv_ret1 rfl (.tmp rfl) (by (try have q1 := nil_of_z ‹(t.names.length : Int) = 0›); (try have q2 := nil_of_z ‹(t.items.length : Int) = 0›); (try have q3 := ne_of_z ‹¬ (t.names.length : Int) = 0›); (try have q4 := ne_of_z ‹¬ (t.items.length : Int) = 0›); unfold plainT; simp [*]) hB ha_)
   ·
    replace g10 := dF g10
    refine Of rfl (Of rfl (Of rfl (Of rfl (Of rfl (Of rfl (Of rfl (Pu rfl ?_)))))))
    refine Pu rfl (Ni (hK7 ?_))
    exact WC.ret fun a_ ha_ => hQ (cv_ret1 rfl (.tmp rfl) (by (try have q1 := nil_of_z ‹(t.names.length : Int) = 0›); (try have q2 := nil_of_z ‹(t.items.length : Int) = 0›); (try have q3 := ne_of_z ‹¬ (t.names.length : Int) = 0›); (try have q4 := ne_of_z ‹¬ (t.items.length : Int) = 0›); unfold plainT; simp [*]) hB ha_)
  ·
   replace g9 := dF g9
   refine Of rfl (Of rfl (Of rfl (Of rfl (Of rfl (Of rfl (Of rfl (Pu rfl ?_)))))))
   refine Pu rfl (Of rfl (Of rfl (Of rfl (Of rfl (Of rfl (Of rfl (Of rfl ?_)))))))
   refine Pu rfl (Pu rfl (Ni (hK7 ?_)))
   exact WC.ret fun a_ ha_ => hQ (cv_ret1 rfl (.tmp rfl) (by (try have q1 := nil_of_z ‹(t.names.length : Int) = 0›); (try have q2 := nil_of_z ‹(t.items.length : Int) = 0›); (try have q3 := ne_of_z ‹¬ (t.names.length : Int) = 0›); (try have q4 := ne_of_z ‹¬ (t.items.length : Int) = 0›); unfold plainT; simp [*]) hB ha_)
 ·
  replace g8 := dF g8
  refine Of rfl (Of rfl (Of rfl (Of rfl (Of rfl (Of rfl (Pu rfl (Pu rfl ?_)))))))
  refine Of rfl (Of rfl (Of rfl (Of rfl (Of rfl (Of rfl (Of rfl (Pu rfl ?_)))))))
  refine Pu rfl (Of rfl (Of rfl (Of rfl (Of rfl (Of rfl (Of rfl (Of rfl ?_)))))))
  refine Pu rfl (Pu rfl (Ni (hK7 ?_)))
  exact WC.ret fun a_ ha_ => hQ (cv_ret1 rfl (.tmp rfl) (by (try have q1 := nil_of_z ‹(t.names.length : Int) = 0›); (try have q2 := nil_of_z ‹(t.items.length : Int) = 0›); (try have q3 := ne_of_z ‹¬ (t.names.length : Int) = 0›); (try have q4 := ne_of_z ‹¬ (t.items.length : Int) = 0›); unfold plainT; simp [*]) hB ha_)

set_option maxHeartbeats 1000000 in
theorem plainFFTT_v (n : Nat) (t : Tr) (w : World) (L : List Nat) (hL : LL L w) (ht : RdT (n + 1) L w t) : CV Tryz.prog 65 [.agg #[.int .i64 t.kind, .int .i64 t.num, .string t.text, t.nv, t.iv], .bool false, .bool false, .bool true, .bool true] w fun v W => v = .bool (plainT false false true true t) := by
 refine cv_enter (N := 43) (f := [(0, .agg #[.int .i64 t.kind, .int .i64 t.num, .string t.text, t.nv, t.iv]), (1, .bool false), (2, .bool false), (3, .bool true), (4, .bool true)]) Tryz.func65 rfl rfl rfl rfl fun Q hQ hE => ?_
 have hB := Below.refl w.heap.size w
 refine Sq fun K1 hK1 => ?_
 obtain ⟨hnt, hit, hct⟩ := ht
 replace hct : RdTs n (L) w t.items := hct
 refine Rg ?_
 refine Ge (dx_box rfl rfl rfl) rfl rfl ?_
 rintro _ W2 ⟨rfl, k3, b4, z5⟩
 have l6 := hB.size
 replace hB := below_then hB b4
 refine Pu rfl (Ni (hK1 (Sq fun K7 hK7 => (Rg (Pu rfl (Pu rfl (Va (dx_fld (o1 := 1) rfl ty_fld_27_1_1 rfl rfl) rfl rfl ?_)))))))
 refine Va (dx_load rfl ty_one_3 rfl (k3.cell (k := 1) rfl)) rfl rfl (Va (dx_eql rfl rfl rfl) rfl rfl (Pu rfl (Pu rfl ?_)))
 refine WL.split 17 rfl (fun g8 => ?_) (fun g8 => ?_)
 ·
  replace g8 := dT g8
  refine Pu rfl (Pu rfl (Va (dx_fld (o1 := 2) rfl ty_fld_27_2_2 rfl rfl) rfl rfl (Va (dx_load rfl ty_one_9 rfl (k3.cell (k := 2) rfl)) rfl rfl (Va (dx_eqlT rfl rfl rfl) rfl rfl (Pu rfl (Pu rfl (Pu rfl ?_)))))))
  refine WL.split 25 rfl (fun g9 => ?_) (fun g9 => ?_)
  ·
   replace g9 := dT g9
   refine Pu rfl (Pu rfl (Of rfl (Of rfl (Of rfl (Of rfl (Pu rfl (Pu rfl ?_)))))))
   refine Pu rfl (Pu rfl (Pu rfl (Of rfl (Of rfl (Of rfl (Of rfl (Pu rfl ?_)))))))
   refine Pu rfl (Pu rfl (Ni (hK7 ?_)))
   exact WC.ret fun a_ ha_ => hQ (cv_ret1 rfl (.tmp rfl) (by (try have q1 := nil_of_z ‹(t.names.length : Int) = 0›); (try have q2 := nil_of_z ‹(t.items.length : Int) = 0›); (try have q3 := ne_of_z ‹¬ (t.names.length : Int) = 0›); (try have q4 := ne_of_z ‹¬ (t.items.length : Int) = 0›); unfold plainT; simp [*]) hB ha_)
  ·
   replace g9 := dF g9
   refine Of rfl (Of rfl (Of rfl (Of rfl (Of rfl (Of rfl (Of rfl (Pu rfl ?_)))))))
   refine Pu rfl (Of rfl (Of rfl (Of rfl (Of rfl (Of rfl (Of rfl (Of rfl ?_)))))))
   refine Pu rfl (Pu rfl (Ni (hK7 ?_)))
   exact WC.ret fun a_ ha_ => hQ (cv_ret1 rfl (.tmp rfl) (by (try have q1 := nil_of_z ‹(t.names.length : Int) = 0›); (try have q2 := nil_of_z ‹(t.items.length : Int) = 0›); (try have q3 := ne_of_z ‹¬ (t.names.length : Int) = 0›); (try have q4 := ne_of_z ‹¬ (t.items.length : Int) = 0›); unfold plainT; simp [*]) hB ha_)
 ·
  replace g8 := dF g8
  refine Of rfl (Of rfl (Of rfl (Of rfl (Of rfl (Of rfl (Pu rfl (Pu rfl ?_)))))))
  refine Of rfl (Of rfl (Of rfl (Of rfl (Of rfl (Of rfl (Of rfl (Pu rfl ?_)))))))
  refine Pu rfl (Of rfl (Of rfl (Of rfl (Of rfl (Of rfl (Of rfl (Of rfl ?_)))))))
  refine Pu rfl (Pu rfl (Ni (hK7 ?_)))
  exact WC.ret fun a_ ha_ => hQ (cv_ret1 rfl (.tmp rfl) (by (try have q1 := nil_of_z ‹(t.names.length : Int) = 0›); (try have q2 := nil_of_z ‹(t.items.length : Int) = 0›); (try have q3 := ne_of_z ‹¬ (t.names.length : Int) = 0›); (try have q4 := ne_of_z ‹¬ (t.items.length : Int) = 0›); unfold plainT; simp [*]) hB ha_)

theorem refDec_v (s : ByteArray) (sv : Value) (w : World) (L : List Nat) (hL : LL L w) (h1 : RdF 1 L w sv ((sb s).map e8)) (hs : s.size ≤ 1000000) : CV Tryz.prog 39 [sv] w fun v _ => ∃ u, v = .tuple #[u, .int .i64 (if upB s = true then 0 else 2)] := by
 refine Calls.mono (ref_decode_any sv (sb s) w (rdI_of h1) (sb_bytes _) (by rw [sb_length]; omega)) fun e w' h => ?_
 obtain ⟨u, c, he, hb, h⟩ := h
 refine ⟨_, he, ⟨u, ?_⟩, hb⟩
 unfold upB
 rcases h with ⟨rs, hd, hc, _⟩ | ⟨hd, hc, _⟩ <;> rw [hd, hc] <;> rfl
set_option maxHeartbeats 1000000 in
theorem refUp_v (s : ByteArray) (sv : Value) (w : World) (L : List Nat) (hL : LL L w) (h1 : RdF 1 L w sv ((sb s).map e8))  (hs : s.size ≤ 1000000) : CV Tryz.prog 19 [sv] w fun v W => v = .bool (upB s) := by
 refine cv_enter (N := 12) (f := [(0, sv)]) Tryz.func19 rfl rfl rfl rfl fun Q hQ hE => ?_
 have hB := Below.refl w.heap.size w
 refine WC.seq fun K1 hK1 => (WC.region (Pu rfl (WL.nil (hK1 (WC.seq fun K2 hK2 => (WC.region (Pu rfl ?_)))))))
 refine WL.get (dx_cv rfl Tryz.func39 rfl rfl rfl (refDec_v s _ w _ hL h1 hs)) rfl rfl ?_
 rintro _ W4 ⟨⟨du, rfl⟩, b3⟩
 replace hB := below_then hB b3
 refine Pu rfl (Pu rfl (Pu rfl (Pu rfl (Pu rfl (WL.nil (hK2 (WC.seq fun K5 hK5 => ?_)))))))
 refine WC.region (Pu rfl (WL.val (dx_eql rfl rfl rfl) rfl rfl (Pu rfl (WL.nil (hK5 ?_)))))
 exact WC.ret fun a_ ha_ => hQ (cv_ret1 rfl (.tmp rfl) (by cases upB s <;> simp) hB ha_)

abbrev RefRightAt (n : Nat) : Prop := ∀ (t : Tr) (room : Nat) (w : World) (L : List Nat), LL L w → RdT n L w t → SzT 1000000 n t → room ≤ 12 → CV Tryz.prog 45 [.agg #[.int .i64 t.kind, .int .i64 t.num, .string t.text, t.nv, t.iv], .int .i64 (12 - (room : Int))] w fun v W => v = .bool (rightJ upB room t.er)
theorem plain_leaf {t : Tr} {a b c d : Bool} (h : plainT a b c d t = true) : (a = false → t.num = 0) ∧ (b = false → t.text = ⟨#[]⟩) ∧ (c = false → t.names = []) ∧ (d = false → t.items = []) := by
 unfold plainT at h
 simp only [Bool.and_eq_true, Bool.or_eq_true, decide_eq_true_eq] at h
 obtain ⟨h1, h2, h3, h4⟩ := h
 refine ⟨fun e => ?_, fun e => ?_, fun e => ?_, fun e => ?_⟩ <;> simp_all
set_option maxHeartbeats 2000000 in
theorem refRight_step (n : Nat) (ih : RefRightAt n) (t : Tr) (room : Nat) (w : World) (L : List Nat) (hL : LL L w) (ht : RdT (n + 1) L w t)  (hz : SzT 1000000 (n + 1) t) (hrm : room ≤ 12) : CV Tryz.prog 45 [.agg #[.int .i64 t.kind, .int .i64 t.num, .string t.text, t.nv, t.iv], .int .i64 (12 - (room : Int))] w fun v W => v = .bool (rightJ upB room t.er) := by
 refine cv_enter (N := 109) (f := [(0, .agg #[.int .i64 t.kind, .int .i64 t.num, .string t.text, t.nv, t.iv]), (1, .int .i64 (12 - (room : Int)))]) Tryz.func45 rfl rfl rfl rfl fun Q hQ hE => ?_
 have hB := Below.refl w.heap.size w
 refine Sq fun K1 hK1 => ?_
 have hzt := hz
 obtain ⟨hz1, hz2, hz3, hz4, hz5⟩ := hz
 obtain ⟨hnt, hit, hct⟩ := ht
 replace hct : RdTs n (L) w t.items := hct
 refine Rg ?_
 refine Ge (dx_box rfl rfl rfl) rfl rfl ?_
 rintro _ W2 ⟨rfl, k3, b4, z5⟩
 have l6 := hB.size
 replace hnt := hnt.more b4 (Nat.le_refl _)
 replace hit := hit.more b4 (Nat.le_refl _)
 replace hct := hct.more b4 (Nat.le_refl _)
 replace hB := below_then hB b4
 replace hL := LL.more hL z5
 refine Pu rfl (Ni (hK1 (Sq fun K7 hK7 => ?_)))
 have hJ1 : ∀  (W8 : World) (f_ : Fl), (t.kind = 5 ∨ t.kind = 6) ∧ nodeJ upB t.er = true ∧ Below w.heap.size w W8 ∧ LL (w.heap.size :: L) W8 ∧ RdF 1 (w.heap.size :: L) W8 t.nv (t.names.map eS) ∧ RdF 5 (w.heap.size :: L) W8 t.iv (t.items.map encT) ∧ RdTs n (w.heap.size :: L) W8 t.items ∧ Blk W8 w.heap.size [.int .i64 t.kind, .int .i64 t.num, .string t.text, t.nv, t.iv] → Sub [(1, .int .i64 (12 - (room : Int))), (2, .pointer (some ⟨w.heap.size, 0, none⟩))] f_ → ∀ a, Fr 109 a f_ → K7 a W8 := by
  clear hnt hit hct k3 hB hL
  rintro  W8 f_ ⟨hk56, hnode, hB, hL, hnt, hit, hct, k3⟩ hs_
  refine hK7 (WC.sub hs_ ?_)
  refine Sq fun K9 hK9 => (Sq fun K10 hK10 => ?_)
  cases room with
  | zero =>
   refine Rg (Pu rfl (Va (dv_T (dx_geq rfl rfl rfl) (by omega)) rfl rfl (Ni (hK10 (WC.condT rfl (Sq fun K11 hK11 => (Rg ?_)))))))
   refine Pu rfl (Ni (hK11 ?_))
   exact WC.ret fun a_ ha_ => hQ (cv_ret1 rfl (.tmp rfl) (by rw [right_node (by exact hk56)]) hB ha_)
  | succ m =>
   refine Rg (Pu rfl (Va (dv_N (dx_geq rfl rfl rfl) (by omega)) rfl rfl (Ni (hK10 (WC.condF rfl (WC.skip (hK9 ?_)))))))
   refine Sq fun K12 hK12 => (Sq fun K13 hK13 => (Rg (Pu rfl (Ni (hK13 (WC.block ?_))))))
   refine WC.loop (fun (i : Nat) => [(1, .int .i64 (12 - ((m + 1 : Nat) : Int))), (2, .pointer (some ⟨w.heap.size, 0, none⟩)), (6, .int .i64 (i : Int))]) (fun (i : Nat) W => i ≤ t.items.length ∧ (∀ k c, k < i → t.items[k]? = some c → rightJ upB m c.er = true) ∧ Below w.heap.size w W ∧ LL (w.heap.size :: L) W ∧ RdF 1 (w.heap.size :: L) W t.nv (t.names.map eS) ∧ RdF 5 (w.heap.size :: L) W t.iv (t.items.map encT) ∧ RdTs n (w.heap.size :: L) W t.items ∧ Blk W w.heap.size [.int .i64 t.kind, .int .i64 t.num, .string t.text, t.nv, t.iv]) (fun (i : Nat) => t.items.length - i) 0 (by repeat first | exact trivial | refine aR ?_ | refine aI (by omega) ?_) ⟨Nat.zero_le _, (fun k c hk => by omega), hB, hL, hnt, hit, hct, k3⟩ ?_
   clear hnt hit hct k3 hB hL
   rintro K14 i W15 ⟨hi, hv, hB, hL, hnt, hit, hct, k3⟩ hK14
   refine Sq fun K16 hK16 => (Sq fun K17 hK17 => (Rg (Pu rfl (Va (dx_fld (o1 := 4) rfl ty_fld_27_4_4 rfl rfl) rfl rfl (Va (dx_load rfl ty_one_25 rfl (k3.cell (k := 4) rfl)) rfl rfl (Va (dx_lenFM rfl ty_slice_25 rfl hit) rfl rfl (Va (dx_lss rfl rfl rfl) rfl rfl ?_)))))))
   refine Ni (hK17 ?_)
   refine WC.cond rfl (fun c18 => ?_) (fun c18 => ?_)
   ·
    replace c18 := dT c18
    refine WC.skip (hK16 (Sq fun K19 hK19 => (WC.block (Sq fun K20 hK20 => (Rg (Va (dx_fld (o1 := 4) rfl ty_fld_27_4_4 rfl rfl) rfl rfl (Va (dx_load rfl ty_one_25 rfl (k3.cell (k := 4) rfl)) rfl rfl ?_)))))))
    refine Pu rfl ?_
    obtain ⟨r21, e22⟩ : ∃ x, t.items[i]? = some x := ⟨_, List.getElem?_eq_getElem (by omega)⟩
    refine Ge (dx_idxF i rfl ty_slice_25 rfl rfl hit (by omega) (at_mapX e22)) rfl rfl ?_
    rintro u23 _ ⟨rfl, p24⟩
    refine Va (dx_loadPN rfl ty_agg_27_5 rfl p24 rfl) rfl rfl (Pu rfl (Va (dx_add (r := 12 - (m : Int)) rfl rfl rfl (by rw [wrap64_id (by omega)]; omega)) rfl rfl ?_))
    refine Ge (dx_cv rfl Tryz.func45 rfl rfl rfl (ih r21 m W15 _ hL (hct r21 (List.mem_of_getElem? e22)) (hz5 r21 (List.mem_of_getElem? e22)) (by omega))) rfl rfl ?_
    rintro _ W26 ⟨rfl, b25⟩
    replace hnt := hnt.below b25
    replace hit := hit.below b25
    replace hct := hct.below b25
    replace k3 := k3.below b25
    replace hB := below_then hB b25
    replace hL := LL.below hL b25
    refine Va (dx_not rfl rfl) rfl rfl (Ni (hK20 ?_))
    refine WC.cond rfl (fun c27 => ?_) (fun c27 => ?_)
    ·
     replace c27 := bnot_t c27
     refine Sq fun K28 hK28 => (Rg (Pu rfl (Ni (hK28 ?_))))
     exact WC.ret fun a_ ha_ => hQ (cv_ret1 rfl (.tmp rfl) (by rw [right_node (by exact hk56)]; show _ = Value.bool (_ && _); rw [er_items, items_f e22 (by first | assumption | simp_all), Bool.and_false]) hB ha_)
    ·
     replace c27 := bnot_f c27
     refine WC.skip (hK19 (Rg (Pu rfl (Va (dx_add (r := (i : Int) + 1) rfl rfl rfl (wrap64_id (by omega))) rfl rfl (Pu rfl (Ni ?_))))))
     exact hK14 (i + 1) ⟨(by omega), (fun k c hk hc_ => by rcases Nat.lt_or_ge k i with hl | hl; exact hv k c hl hc_; obtain rfl : k = i := (by omega); rw [e22] at hc_; cases hc_; first | assumption | simp_all), hB, hL, hnt, hit, hct, k3⟩ (by omega) (by repeat first | exact trivial | refine aR ?_ | refine aI (by omega) ?_)
   ·
    replace c18 := dF c18
    refine WC.exit ?_
    refine hK12 (Sq fun K29 hK29 => (Rg (Pu rfl (Ni (hK29 ?_)))))
    exact WC.ret fun a_ ha_ => hQ (cv_ret1 rfl (.tmp rfl) (by rw [right_node (by exact hk56)]; show _ = Value.bool (_ && _); rw [hnode, er_items, items_t (fun k c hk hc_ => hv k c (by omega) hc_)]; rfl) hB ha_)
 refine Sq fun K30 hK30 => ?_
 rcases (show t.kind = 0 ∨ t.kind = 1 ∨ t.kind = 2 ∨ t.kind = 3 ∨ t.kind = 4 ∨ t.kind = 5 ∨ t.kind = 6 ∨ (t.kind ≠ 0 ∧ t.kind ≠ 1 ∧ t.kind ≠ 2 ∧ t.kind ≠ 3 ∧ t.kind ≠ 4 ∧ t.kind ≠ 5 ∧ t.kind ≠ 6) by omega) with hkt | hkt | hkt | hkt | hkt | hkt | hkt | hkt
 ·
  refine Rg (Va (dx_fld (o1 := 0) rfl ty_fld_27_0_0 rfl rfl) rfl rfl (Va ((hkt ▸ dx_load rfl ty_one_3 rfl (k3.cell (k := 0) rfl))) rfl rfl (Ni (hK30 (WC.block (Sq fun K31 hK31 => (Sq fun K32 hK32 => ?_)))))))
  refine Rg (Va (dx_eql rfl rfl rfl) rfl rfl (Pu rfl (Ni (hK32 (WC.condT rfl (WC.skip (hK31 ?_)))))))
  refine WC.condT rfl (Sq fun K33 hK33 => (Rg (Va (dx_loadN rfl ty_agg_27_5 rfl k3.range rfl) rfl rfl ?_)))
  refine Ge (dx_cv rfl Tryz.func65 rfl rfl rfl (plainFFFF_v n t W2 _ hL (show RdT (n + 1) (w.heap.size :: L) W2 t from ⟨hnt, hit, hct⟩))) rfl rfl ?_
  rintro _ W35 ⟨rfl, b34⟩
  replace hB := below_then hB b34
  refine Pu rfl (Ni (hK33 ?_))
  exact WC.ret fun a_ ha_ => hQ (cv_ret1 rfl (.tmp rfl) (by rw [right_leaf (by first | (rw [hkt]; decide) | omega) (by first | (rw [hkt]; decide) | omega), leaf_er]; (try unfold plainT at *); by_cases a1 : t.num = 0 <;> by_cases a2 : t.text = ⟨#[]⟩ <;> by_cases a3 : t.names = [] <;> by_cases a4 : t.items = [] <;> simp_all <;> omega) hB ha_)
 ·
  refine Rg (Va (dx_fld (o1 := 0) rfl ty_fld_27_0_0 rfl rfl) rfl rfl (Va ((hkt ▸ dx_load rfl ty_one_3 rfl (k3.cell (k := 0) rfl))) rfl rfl (Ni (hK30 (WC.block (Sq fun K36 hK36 => (Sq fun K37 hK37 => ?_)))))))
  refine Rg (Va (dx_eql rfl rfl rfl) rfl rfl (Pu rfl (Ni (hK37 (WC.condF rfl (Sq fun K38 hK38 => (Rg ?_)))))))
  refine Va (dx_eql rfl rfl rfl) rfl rfl (Pu rfl (Ni (hK38 (WC.condT rfl (WC.skip (hK36 (WC.condT rfl ?_)))))))
  refine Sq fun K39 hK39 => (Rg (Va (dx_loadN rfl ty_agg_27_5 rfl k3.range rfl) rfl rfl ?_))
  refine Ge (dx_cv rfl Tryz.func65 rfl rfl rfl (plainFFFF_v n t W2 _ hL (show RdT (n + 1) (w.heap.size :: L) W2 t from ⟨hnt, hit, hct⟩))) rfl rfl ?_
  rintro _ W41 ⟨rfl, b40⟩
  replace hB := below_then hB b40
  refine Pu rfl (Ni (hK39 ?_))
  exact WC.ret fun a_ ha_ => hQ (cv_ret1 rfl (.tmp rfl) (by rw [right_leaf (by first | (rw [hkt]; decide) | omega) (by first | (rw [hkt]; decide) | omega), leaf_er]; (try unfold plainT at *); by_cases a1 : t.num = 0 <;> by_cases a2 : t.text = ⟨#[]⟩ <;> by_cases a3 : t.names = [] <;> by_cases a4 : t.items = [] <;> simp_all <;> omega) hB ha_)
 ·
  refine Rg (Va (dx_fld (o1 := 0) rfl ty_fld_27_0_0 rfl rfl) rfl rfl (Va ((hkt ▸ dx_load rfl ty_one_3 rfl (k3.cell (k := 0) rfl))) rfl rfl (Ni (hK30 (WC.block (Sq fun K42 hK42 => (Sq fun K43 hK43 => ?_)))))))
  refine Rg (Va (dx_eql rfl rfl rfl) rfl rfl (Pu rfl (Ni (hK43 (WC.condF rfl (Sq fun K44 hK44 => (Rg ?_)))))))
  refine Va (dx_eql rfl rfl rfl) rfl rfl (Pu rfl (Ni (hK44 (WC.condF rfl (Rg (Va (dx_eql rfl rfl rfl) rfl rfl (Pu rfl ?_)))))))
  refine Ni (hK42 (WC.condT rfl (Sq fun K45 hK45 => (Rg (Va (dx_loadN rfl ty_agg_27_5 rfl k3.range rfl) rfl rfl ?_)))))
  refine Ge (dx_cv rfl Tryz.func65 rfl rfl rfl (plainFFFF_v n t W2 _ hL (show RdT (n + 1) (w.heap.size :: L) W2 t from ⟨hnt, hit, hct⟩))) rfl rfl ?_
  rintro _ W47 ⟨rfl, b46⟩
  replace hB := below_then hB b46
  refine Pu rfl (Ni (hK45 ?_))
  exact WC.ret fun a_ ha_ => hQ (cv_ret1 rfl (.tmp rfl) (by rw [right_leaf (by first | (rw [hkt]; decide) | omega) (by first | (rw [hkt]; decide) | omega), leaf_er]; (try unfold plainT at *); by_cases a1 : t.num = 0 <;> by_cases a2 : t.text = ⟨#[]⟩ <;> by_cases a3 : t.names = [] <;> by_cases a4 : t.items = [] <;> simp_all <;> omega) hB ha_)
 ·
  refine Rg (Va (dx_fld (o1 := 0) rfl ty_fld_27_0_0 rfl rfl) rfl rfl (Va ((hkt ▸ dx_load rfl ty_one_3 rfl (k3.cell (k := 0) rfl))) rfl rfl (Ni (hK30 (WC.block (Sq fun K48 hK48 => (Sq fun K49 hK49 => ?_)))))))
  refine Rg (Va (dx_eql rfl rfl rfl) rfl rfl (Pu rfl (Ni (hK49 (WC.condF rfl (Sq fun K50 hK50 => (Rg ?_)))))))
  refine Va (dx_eql rfl rfl rfl) rfl rfl (Pu rfl (Ni (hK50 (WC.condF rfl (Rg (Va (dx_eql rfl rfl rfl) rfl rfl (Pu rfl ?_)))))))
  refine Ni (hK48 (WC.condF rfl (Sq fun K51 hK51 => (Rg (Va (dx_eql rfl rfl rfl) rfl rfl (Pu rfl (Ni ?_)))))))
  refine hK51 (WC.condT rfl (Sq fun K52 hK52 => (Rg (Va (dx_loadN rfl ty_agg_27_5 rfl k3.range rfl) rfl rfl ?_))))
  refine Ge (dx_cv rfl Tryz.func65 rfl rfl rfl (plainTFFF_v n t W2 _ hL (show RdT (n + 1) (w.heap.size :: L) W2 t from ⟨hnt, hit, hct⟩))) rfl rfl ?_
  rintro _ W54 ⟨rfl, b53⟩
  replace k3 := k3.below b53
  replace hB := below_then hB b53
  refine Pu rfl ?_
  refine WL.split 19 rfl (fun g55 => ?_) (fun g55 => ?_)
  ·
   refine Va (dx_fld (o1 := 1) rfl ty_fld_27_1_1 rfl rfl) rfl rfl (Va (dx_load rfl ty_one_3 rfl (k3.cell (k := 1) rfl)) rfl rfl (Va (dx_geq rfl rfl rfl) rfl rfl (Pu rfl (Pu rfl ?_))))
   refine WL.split 24 rfl (fun g56 => ?_) (fun g56 => ?_)
   ·
    replace g56 := dT g56
    refine Va (dx_fld (o1 := 1) rfl ty_fld_27_1_1 rfl rfl) rfl rfl (Va (dx_load rfl ty_one_3 rfl (k3.cell (k := 1) rfl)) rfl rfl (Va (dx_leq rfl rfl rfl) rfl rfl (Pu rfl (Pu rfl (Ni (hK52 ?_))))))
    exact WC.ret fun a_ ha_ => hQ (cv_ret1 rfl (.tmp rfl) (by rw [right_leaf (by first | (rw [hkt]; decide) | omega) (by first | (rw [hkt]; decide) | omega), leaf_er]; (try unfold plainT at *); by_cases a1 : t.num = 0 <;> by_cases a2 : t.text = ⟨#[]⟩ <;> by_cases a3 : t.names = [] <;> by_cases a4 : t.items = [] <;> simp_all <;> omega) hB ha_)
   ·
    replace g56 := dF g56
    refine Of rfl (Of rfl (Of rfl (Pu rfl (Pu rfl (Ni (hK52 ?_))))))
    exact WC.ret fun a_ ha_ => hQ (cv_ret1 rfl (.tmp rfl) (by rw [right_leaf (by first | (rw [hkt]; decide) | omega) (by first | (rw [hkt]; decide) | omega), leaf_er]; (try unfold plainT at *); by_cases a1 : t.num = 0 <;> by_cases a2 : t.text = ⟨#[]⟩ <;> by_cases a3 : t.names = [] <;> by_cases a4 : t.items = [] <;> simp_all <;> omega) hB ha_)
  ·
   refine Of rfl (Of rfl (Of rfl (Pu rfl (Pu rfl (Of rfl (Of rfl (Of rfl ?_)))))))
   refine Pu rfl (Pu rfl (Ni (hK52 ?_)))
   exact WC.ret fun a_ ha_ => hQ (cv_ret1 rfl (.tmp rfl) (by rw [right_leaf (by first | (rw [hkt]; decide) | omega) (by first | (rw [hkt]; decide) | omega), leaf_er]; (try unfold plainT at *); by_cases a1 : t.num = 0 <;> by_cases a2 : t.text = ⟨#[]⟩ <;> by_cases a3 : t.names = [] <;> by_cases a4 : t.items = [] <;> simp_all <;> omega) hB ha_)
 ·
  refine Rg (Va (dx_fld (o1 := 0) rfl ty_fld_27_0_0 rfl rfl) rfl rfl (Va ((hkt ▸ dx_load rfl ty_one_3 rfl (k3.cell (k := 0) rfl))) rfl rfl (Ni (hK30 (WC.block (Sq fun K57 hK57 => (Sq fun K58 hK58 => ?_)))))))
  refine Rg (Va (dx_eql rfl rfl rfl) rfl rfl (Pu rfl (Ni (hK58 (WC.condF rfl (Sq fun K59 hK59 => (Rg ?_)))))))
  refine Va (dx_eql rfl rfl rfl) rfl rfl (Pu rfl (Ni (hK59 (WC.condF rfl (Rg (Va (dx_eql rfl rfl rfl) rfl rfl (Pu rfl ?_)))))))
  refine Ni (hK57 (WC.condF rfl (Sq fun K60 hK60 => (Rg (Va (dx_eql rfl rfl rfl) rfl rfl (Pu rfl (Ni ?_)))))))
  refine hK60 (WC.condF rfl (Sq fun K61 hK61 => (Rg (Va (dx_eql rfl rfl rfl) rfl rfl (Pu rfl (Ni (hK61 ?_)))))))
  refine WC.condT rfl (Sq fun K62 hK62 => (Rg (Va (dx_loadN rfl ty_agg_27_5 rfl k3.range rfl) rfl rfl ?_)))
  refine Ge (dx_cv rfl Tryz.func65 rfl rfl rfl (plainFTFF_v n t W2 _ hL (show RdT (n + 1) (w.heap.size :: L) W2 t from ⟨hnt, hit, hct⟩))) rfl rfl ?_
  rintro _ W64 ⟨rfl, b63⟩
  replace k3 := k3.below b63
  replace hB := below_then hB b63
  replace hL := LL.below hL b63
  refine Pu rfl ?_
  refine WL.split 33 rfl (fun g65 => ?_) (fun g65 => ?_)
  ·
   refine Va (dx_fld (o1 := 2) rfl ty_fld_27_2_2 rfl rfl) rfl rfl (Va (dx_load rfl ty_one_9 rfl (k3.cell (k := 2) rfl)) rfl rfl ?_)
   refine Ge (dx_sb (L := w.heap.size :: L) rfl Tryz.underlying9 Tryz.underlying34 Tryz.underlying5 rfl hL (by unfold maxLen; omega)) rfl rfl ?_
   rintro u66 W67 ⟨k68, b69⟩
   replace hB := below_then hB b69
   replace hL := LL.below hL b69
   refine Ge (dx_cv rfl Tryz.func19 rfl rfl rfl (refUp_v t.text _ W67 _ hL k68 (by omega))) rfl rfl ?_
   rintro _ W71 ⟨rfl, b70⟩
   replace hB := below_then hB b70
   refine Pu rfl (Pu rfl (Ni (hK62 ?_)))
   exact WC.ret fun a_ ha_ => hQ (cv_ret1 rfl (.tmp rfl) (by rw [right_leaf (by first | (rw [hkt]; decide) | omega) (by first | (rw [hkt]; decide) | omega), leaf_er]; (try unfold plainT at *); by_cases a1 : t.num = 0 <;> by_cases a2 : t.text = ⟨#[]⟩ <;> by_cases a3 : t.names = [] <;> by_cases a4 : t.items = [] <;> simp_all <;> omega) hB ha_)
  ·
   refine Of rfl (Of rfl (Of rfl (Of rfl (Pu rfl (Pu rfl (Ni (hK62 ?_)))))))
   exact WC.ret fun a_ ha_ => hQ (cv_ret1 rfl (.tmp rfl) (by rw [right_leaf (by first | (rw [hkt]; decide) | omega) (by first | (rw [hkt]; decide) | omega), leaf_er]; (try unfold plainT at *); by_cases a1 : t.num = 0 <;> by_cases a2 : t.text = ⟨#[]⟩ <;> by_cases a3 : t.names = [] <;> by_cases a4 : t.items = [] <;> simp_all <;> omega) hB ha_)
 ·
  refine Rg (Va (dx_fld (o1 := 0) rfl ty_fld_27_0_0 rfl rfl) rfl rfl (Va ((hkt ▸ dx_load rfl ty_one_3 rfl (k3.cell (k := 0) rfl))) rfl rfl (Ni (hK30 (WC.block (Sq fun K72 hK72 => (Sq fun K73 hK73 => ?_)))))))
  refine Rg (Va (dx_eql rfl rfl rfl) rfl rfl (Pu rfl (Ni (hK73 (WC.condF rfl (Sq fun K74 hK74 => (Rg ?_)))))))
  refine Va (dx_eql rfl rfl rfl) rfl rfl (Pu rfl (Ni (hK74 (WC.condF rfl (Rg (Va (dx_eql rfl rfl rfl) rfl rfl (Pu rfl ?_)))))))
  refine Ni (hK72 (WC.condF rfl (Sq fun K75 hK75 => (Rg (Va (dx_eql rfl rfl rfl) rfl rfl (Pu rfl (Ni ?_)))))))
  refine hK75 (WC.condF rfl (Sq fun K76 hK76 => (Rg (Va (dx_eql rfl rfl rfl) rfl rfl (Pu rfl (Ni (hK76 ?_)))))))
  refine WC.condF rfl (Sq fun K77 hK77 => (Rg (Va (dx_eql rfl rfl rfl) rfl rfl (Pu rfl (Ni (hK77 (WC.condT rfl ?_)))))))
  refine Sq fun K78 hK78 => (Rg (Va (dx_loadN rfl ty_agg_27_5 rfl k3.range rfl) rfl rfl ?_))
  refine Ge (dx_cv rfl Tryz.func65 rfl rfl rfl (plainFFFT_v n t W2 _ hL (show RdT (n + 1) (w.heap.size :: L) W2 t from ⟨hnt, hit, hct⟩))) rfl rfl ?_
  rintro _ W80 ⟨rfl, b79⟩
  replace hnt := hnt.below b79
  replace hit := hit.below b79
  replace hct := hct.below b79
  replace k3 := k3.below b79
  replace hB := below_then hB b79
  replace hL := LL.below hL b79
  refine Va (dx_not rfl rfl) rfl rfl (Ni (hK78 ?_))
  refine WC.cond rfl (fun c81 => ?_) (fun c81 => ?_)
  ·
   replace c81 := bnot_t c81
   refine Sq fun K82 hK82 => (Rg (Pu rfl (Ni (hK82 ?_))))
   exact WC.ret fun a_ ha_ => hQ (cv_ret1 rfl (.tmp rfl) (by rw [right_node (by first | exact .inl hkt | exact .inr hkt)]; cases room with | zero => rfl | succ m => (have hne : nodeJ upB t.er = false := (by rw [node_er]; first | (have hp : plainT _ _ _ _ t = false := (by assumption); unfold plainT at hp; simp_all; done) | (have hlq : ¬ t.names.length = t.items.length := (by omega); simp [hkt, hlq])); show _ = Value.bool (_ && _); rw [hne, Bool.false_and])) hB ha_)
  ·
   replace c81 := bnot_f c81
   refine WC.skip ?_
   obtain ⟨w1, w2, w3, w4⟩ := plain_leaf ‹plainT _ _ _ _ t = true›
   have hnode : nodeJ upB t.er = true := by rw [node_er, w1 rfl, w2 rfl, hkt]; rw [w3 rfl]; rfl
   exact hJ1  _ _ ⟨(.inl hkt), hnode, hB, hL, hnt, hit, hct, k3⟩ (by repeat first | exact trivial | refine aR ?_ | refine aI (by omega) ?_)
 ·
  refine Rg (Va (dx_fld (o1 := 0) rfl ty_fld_27_0_0 rfl rfl) rfl rfl (Va ((hkt ▸ dx_load rfl ty_one_3 rfl (k3.cell (k := 0) rfl))) rfl rfl (Ni (hK30 (WC.block (Sq fun K83 hK83 => (Sq fun K84 hK84 => ?_)))))))
  refine Rg (Va (dx_eql rfl rfl rfl) rfl rfl (Pu rfl (Ni (hK84 (WC.condF rfl (Sq fun K85 hK85 => (Rg ?_)))))))
  refine Va (dx_eql rfl rfl rfl) rfl rfl (Pu rfl (Ni (hK85 (WC.condF rfl (Rg (Va (dx_eql rfl rfl rfl) rfl rfl (Pu rfl ?_)))))))
  refine Ni (hK83 (WC.condF rfl (Sq fun K86 hK86 => (Rg (Va (dx_eql rfl rfl rfl) rfl rfl (Pu rfl (Ni ?_)))))))
  refine hK86 (WC.condF rfl (Sq fun K87 hK87 => (Rg (Va (dx_eql rfl rfl rfl) rfl rfl (Pu rfl (Ni (hK87 ?_)))))))
  refine WC.condF rfl (Sq fun K88 hK88 => (Rg (Va (dx_eql rfl rfl rfl) rfl rfl (Pu rfl (Ni (hK88 (WC.condF rfl ?_)))))))
  refine Sq fun K89 hK89 => (Rg (Va (dx_eql rfl rfl rfl) rfl rfl (Pu rfl (Ni (hK89 (WC.condT rfl (Sq fun K90 hK90 => ?_)))))))
  refine Sq fun K91 hK91 => (Rg (Va (dx_loadN rfl ty_agg_27_5 rfl k3.range rfl) rfl rfl ?_))
  refine Ge (dx_cv rfl Tryz.func65 rfl rfl rfl (plainFFTT_v n t W2 _ hL (show RdT (n + 1) (w.heap.size :: L) W2 t from ⟨hnt, hit, hct⟩))) rfl rfl ?_
  rintro _ W93 ⟨rfl, b92⟩
  replace hnt := hnt.below b92
  replace hit := hit.below b92
  replace hct := hct.below b92
  replace k3 := k3.below b92
  replace hB := below_then hB b92
  replace hL := LL.below hL b92
  refine Va (dx_not rfl rfl) rfl rfl (Pu rfl ?_)
  refine WL.split 49 rfl (fun g94 => ?_) (fun g94 => ?_)
  ·
   replace g94 := bnot_t g94
   refine Of rfl (Of rfl (Of rfl (Of rfl (Of rfl (Of rfl (Of rfl (Pu rfl ?_)))))))
   refine Ni (hK91 (WC.condT rfl (Sq fun K95 hK95 => (Rg (Pu rfl (Ni (hK95 ?_)))))))
   exact WC.ret fun a_ ha_ => hQ (cv_ret1 rfl (.tmp rfl) (by rw [right_node (by first | exact .inl hkt | exact .inr hkt)]; cases room with | zero => rfl | succ m => (have hne : nodeJ upB t.er = false := (by rw [node_er]; first | (have hp : plainT _ _ _ _ t = false := (by assumption); unfold plainT at hp; simp_all; done) | (have hlq : ¬ t.names.length = t.items.length := (by omega); simp [hkt, hlq])); show _ = Value.bool (_ && _); rw [hne, Bool.false_and])) hB ha_)
  ·
   replace g94 := bnot_f g94
   refine Va (dx_fld (o1 := 3) rfl ty_fld_27_3_3 rfl rfl) rfl rfl (Va (dx_load rfl ty_one_24 rfl (k3.cell (k := 3) rfl)) rfl rfl (Va (dx_lenFM rfl ty_slice_24 rfl hnt) rfl rfl (Va (dx_fld (o1 := 4) rfl ty_fld_27_4_4 rfl rfl) rfl rfl (Va (dx_load rfl ty_one_25 rfl (k3.cell (k := 4) rfl)) rfl rfl (Va (dx_lenFM rfl ty_slice_25 rfl hit) rfl rfl (Va (dx_neq rfl rfl rfl) rfl rfl (Pu rfl ?_)))))))
   refine Ni (hK91 ?_)
   refine WC.cond rfl (fun c96 => ?_) (fun c96 => ?_)
   ·
    replace c96 := bnot_t c96
    replace c96 := dF c96
    refine Sq fun K97 hK97 => (Rg (Pu rfl (Ni (hK97 ?_))))
    exact WC.ret fun a_ ha_ => hQ (cv_ret1 rfl (.tmp rfl) (by rw [right_node (by first | exact .inl hkt | exact .inr hkt)]; cases room with | zero => rfl | succ m => (have hne : nodeJ upB t.er = false := (by rw [node_er]; first | (have hp : plainT _ _ _ _ t = false := (by assumption); unfold plainT at hp; simp_all; done) | (have hlq : ¬ t.names.length = t.items.length := (by omega); simp [hkt, hlq])); show _ = Value.bool (_ && _); rw [hne, Bool.false_and])) hB ha_)
   ·
    replace c96 := bnot_f c96
    replace c96 := dT c96
    refine WC.skip (hK90 (Sq fun K98 hK98 => (Rg (Pu rfl (Ni (hK98 (WC.block ?_)))))))
    refine WC.loop (fun (i : Nat) => [(1, .int .i64 (12 - (room : Int))), (2, .pointer (some ⟨w.heap.size, 0, none⟩)), (5, .int .i64 (i : Int))]) (fun (i : Nat) W => i ≤ t.names.length ∧ (∀ k a, k < i → t.names[k]? = some a → upB a = true) ∧ (∀ k a b, k + 1 < i → t.names[k]? = some a → t.names[k + 1]? = some b → sless a b = true) ∧ Below w.heap.size w W ∧ LL (w.heap.size :: L) W ∧ RdF 1 (w.heap.size :: L) W t.nv (t.names.map eS) ∧ RdF 5 (w.heap.size :: L) W t.iv (t.items.map encT) ∧ RdTs n (w.heap.size :: L) W t.items ∧ Blk W w.heap.size [.int .i64 t.kind, .int .i64 t.num, .string t.text, t.nv, t.iv]) (fun (i : Nat) => t.names.length - i) 0 (by repeat first | exact trivial | refine aR ?_ | refine aI (by omega) ?_) ⟨Nat.zero_le _, (fun k a hk => by omega), (fun k a b hk => by omega), hB, hL, hnt, hit, hct, k3⟩ ?_
    clear hnt hit hct k3 hB hL
    rintro K99 i W100 ⟨hi, hv, hs, hB, hL, hnt, hit, hct, k3⟩ hK99
    refine Sq fun K101 hK101 => (Sq fun K102 hK102 => (Rg (Pu rfl (Va (dx_fld (o1 := 3) rfl ty_fld_27_3_3 rfl rfl) rfl rfl (Va (dx_load rfl ty_one_24 rfl (k3.cell (k := 3) rfl)) rfl rfl (Va (dx_lenFM rfl ty_slice_24 rfl hnt) rfl rfl (Va (dx_lss rfl rfl rfl) rfl rfl ?_)))))))
    refine Ni (hK102 ?_)
    refine WC.cond rfl (fun c103 => ?_) (fun c103 => ?_)
    ·
     replace c103 := dT c103
     refine WC.skip (hK101 (Sq fun K104 hK104 => (WC.block (Sq fun K105 hK105 => ?_))))
     obtain ⟨r106, e107⟩ : ∃ x, t.names[i]? = some x := ⟨_, List.getElem?_eq_getElem (by omega)⟩
     have hsz := hz4 r106 (List.mem_of_getElem? e107)
     obtain ⟨b108, hb108⟩ : ∃ b, b = (!(upB r106)) := ⟨_, rfl⟩
     obtain ⟨b109, hb109⟩ : ∃ b, b = ((!b108) && (decide (0 < (i : Int)))) := ⟨_, rfl⟩
     obtain ⟨r110, e111⟩ : ∃ x, t.names[(i - 1)]? = some x := ⟨_, List.getElem?_eq_getElem (by omega)⟩
     refine dM 26 [(some 65, .is (.pointer (some ⟨w.heap.size, 3, none⟩))), (some 66, .is (t.nv)), (some 67, .is (.int .i64 (i : Int))), (some 68, .by fun u W => PtR (w.heap.size :: L) W u [.string r106]), (some 69, .is (.string r106)), (some 70, .by fun u W => RdF 1 (w.heap.size :: L) W u ((sb r106).map e8)), (some 71, .is (.bool (upB r106))), (some 72, .is (.bool (!(upB r106)))), (some 73, .is (.bool b108)), (some 74, .is (bif b108 then undef else .int .i64 (i : Int))), (some 75, .is (bif b108 then undef else .bool (decide (0 < (i : Int))))), (some 76, .is (bif b108 then undef else .bool b109)), (some 77, .is (bif b109 then .pointer (some ⟨w.heap.size, 3, none⟩) else undef)), (some 78, .is (bif b109 then t.nv else undef)), (some 79, .is (bif b109 then .int .i64 (i : Int) else undef)), (some 80, .is (bif b109 then .int .i64 ((i : Int) - 1) else undef)), (some 81, .by fun u W => b109 = true → PtR (w.heap.size :: L) W u [.string r110]), (some 82, .is (bif b109 then .string r110 else undef)), (some 83, .is (bif b109 then .pointer (some ⟨w.heap.size, 3, none⟩) else undef)), (some 84, .is (bif b109 then t.nv else undef)), (some 85, .is (bif b109 then .int .i64 (i : Int) else undef)), (some 86, .by fun u W => b109 = true → PtR (w.heap.size :: L) W u [.string r106]), (some 87, .is (bif b109 then .string r106 else undef)), (some 88, .is (bif b109 then .bool (!(sless r110 r106)) else undef)), (some 89, .is (bif b108 then undef else .bool (b109 && (!(sless r110 r106))))), (some 90, .is (.bool (b108 || (b109 && (!(sless r110 r106))))))] [[], [0], [], [1, 2], [3], [4], [5], [6], [7, 6], [8], [9, 8], [10, 8, 8], [11], [12, 11], [11], [14, 11], [13, 15, 11], [16, 11], [11], [18, 11], [11], [19, 20, 11], [21, 11], [17, 22, 11], [11, 23, 8], [8, 24]] ⟨fun _ _ _ hb h => h.below hb, fun _ _ _ hb h => h.below hb, fun _ _ _ hb h g => (h g).below hb, fun _ _ _ hb h g => (h g).below hb, trivial⟩ ?_ ?_
     ·
      refine Dc (fun Wd hd => ?_) ?_
      ·
       exact Dd (dx_fld (o1 := 3) rfl ty_fld_27_3_3 rfl rfl) rfl
      refine Dc (fun Wd hd => ?_) ?_
      ·
       have k3 := k3.below hd
       exact Dd (dx_load rfl ty_one_24 rfl (k3.cell (k := 3) rfl)) rfl
      refine Dc (fun Wd hd => ?_) ?_
      ·
       exact Dd (dx_move rfl rfl) rfl
      refine Dc (fun Wd hd => ?_) ?_
      ·
       have hnt := hnt.below hd
       exact (dx_idxF i rfl ty_slice_24 rfl rfl hnt (by omega) (at_mapX e107)).mono (fun v W' h => ⟨by rw [← h.1]; exact Below.refl _ _, by rw [← h.1]; exact h.2⟩)
      refine Dc (fun Wd hd => ?_) ?_
      ·
       intro u20_3 p20_3
       exact Dd (dx_loadP rfl ty_one_9 rfl p20_3) rfl
      refine Dc (fun Wd hd => ?_) ?_
      ·
       exact (dx_sb (L := w.heap.size :: L) rfl Tryz.underlying9 Tryz.underlying34 Tryz.underlying5 rfl (LL.below hL hd) (by unfold maxLen; omega)).mono (fun v W' h => ⟨h.2, h.1⟩)
      refine Dc (fun Wd hd => ?_) ?_
      ·
       intro u20_5 p20_5
       exact DR.mono (dx_cv rfl Tryz.func19 rfl rfl rfl (refUp_v r106 _ Wd _ (LL.below hL hd) p20_5 (by omega))) (fun v W' ⟨h, hb⟩ => ⟨hb, (by rw [h]; exact rfl)⟩)
      refine Dc (fun Wd hd => ?_) ?_
      ·
       exact Dd (dx_not rfl rfl) rfl
      refine Dc (fun Wd hd => ?_) ?_
      ·
       exact DV.dr (dx_move rfl rfl) ⟨Below.refl _ _, by rw [hb108]; rfl⟩
      refine Dc (fun Wd hd => ?_) ?_
      ·
       cases b108
       ·
        exact Dd (dx_move rfl rfl) rfl
       ·
        exact Dd (dv_off rfl) rfl
      refine Dc (fun Wd hd => ?_) ?_
      ·
       cases b108
       ·
        exact Dd (dx_gtr rfl rfl rfl) rfl
       ·
        exact Dd (dv_off rfl) rfl
      refine Dc (fun Wd hd => ?_) ?_
      ·
       cases b108
       ·
        exact DV.dr (dx_move rfl rfl) ⟨Below.refl _ _, by rw [hb109]; rfl⟩
       ·
        exact DV.dr (dv_off rfl) ⟨Below.refl _ _, by rw [hb109]; rfl⟩
      refine Dc (fun Wd hd => ?_) ?_
      ·
       cases b108
       ·
        cases b109
        ·
         exact Dd (dv_off rfl) rfl
        ·
         exact Dd (dx_fld (o1 := 3) rfl ty_fld_27_3_3 rfl rfl) rfl
       ·
        cases b109
        ·
         exact Dd (dv_off rfl) rfl
        ·
         exact absurd hb109 (by simp)
      refine Dc (fun Wd hd => ?_) ?_
      ·
       cases b108
       ·
        cases b109
        ·
         exact Dd (dv_off rfl) rfl
        ·
         have k3 := k3.below hd
         exact Dd (dx_load rfl ty_one_24 rfl (k3.cell (k := 3) rfl)) rfl
       ·
        cases b109
        ·
         exact Dd (dv_off rfl) rfl
        ·
         exact absurd hb109 (by simp)
      refine Dc (fun Wd hd => ?_) ?_
      ·
       cases b108
       ·
        cases b109
        ·
         exact Dd (dv_off rfl) rfl
        ·
         exact Dd (dx_move rfl rfl) rfl
       ·
        cases b109
        ·
         exact Dd (dv_off rfl) rfl
        ·
         exact absurd hb109 (by simp)
      refine Dc (fun Wd hd => ?_) ?_
      ·
       cases b108
       ·
        cases b109
        ·
         exact Dd (dv_off rfl) rfl
        ·
         exact Dd (dx_sub (r := (i : Int) - 1) rfl rfl rfl (wrap64_id (by omega))) rfl
       ·
        cases b109
        ·
         exact Dd (dv_off rfl) rfl
        ·
         exact absurd hb109 (by simp)
      refine Dc (fun Wd hd => ?_) ?_
      ·
       cases b108
       ·
        cases b109
        ·
         exact DV.dr (dv_off rfl) ⟨Below.refl _ _, fun h => by cases h⟩
        ·
         have hnt := hnt.below hd
         exact (dx_idxF (i - 1) rfl ty_slice_24 rfl rfl hnt (by first | omega | (have hq_ := of_decide_eq_true hb109.symm; omega)) (at_mapX e111)).mono (fun v W' h => ⟨by rw [← h.1]; exact Below.refl _ _, fun _ => by rw [← h.1]; exact h.2⟩)
       ·
        cases b109
        ·
         exact DV.dr (dv_off rfl) ⟨Below.refl _ _, fun h => by cases h⟩
        ·
         exact absurd hb109 (by simp)
      refine Dc (fun Wd hd => ?_) ?_
      ·
       intro u20_16 p20_16
       cases b108
       ·
        cases b109
        ·
         exact Dd (dv_off rfl) rfl
        ·
         replace p20_16 := p20_16 rfl
         exact Dd (dx_loadP rfl ty_one_9 rfl p20_16) rfl
       ·
        cases b109
        ·
         exact Dd (dv_off rfl) rfl
        ·
         replace p20_16 := p20_16 rfl
         exact absurd hb109 (by simp)
      refine Dc (fun Wd hd => ?_) ?_
      ·
       cases b108
       ·
        cases b109
        ·
         exact Dd (dv_off rfl) rfl
        ·
         exact Dd (dx_fld (o1 := 3) rfl ty_fld_27_3_3 rfl rfl) rfl
       ·
        cases b109
        ·
         exact Dd (dv_off rfl) rfl
        ·
         exact absurd hb109 (by simp)
      refine Dc (fun Wd hd => ?_) ?_
      ·
       cases b108
       ·
        cases b109
        ·
         exact Dd (dv_off rfl) rfl
        ·
         have k3 := k3.below hd
         exact Dd (dx_load rfl ty_one_24 rfl (k3.cell (k := 3) rfl)) rfl
       ·
        cases b109
        ·
         exact Dd (dv_off rfl) rfl
        ·
         exact absurd hb109 (by simp)
      refine Dc (fun Wd hd => ?_) ?_
      ·
       cases b108
       ·
        cases b109
        ·
         exact Dd (dv_off rfl) rfl
        ·
         exact Dd (dx_move rfl rfl) rfl
       ·
        cases b109
        ·
         exact Dd (dv_off rfl) rfl
        ·
         exact absurd hb109 (by simp)
      refine Dc (fun Wd hd => ?_) ?_
      ·
       cases b108
       ·
        cases b109
        ·
         exact DV.dr (dv_off rfl) ⟨Below.refl _ _, fun h => by cases h⟩
        ·
         have hnt := hnt.below hd
         exact (dx_idxF i rfl ty_slice_24 rfl rfl hnt (by first | omega | (have hq_ := of_decide_eq_true hb109.symm; omega)) (at_mapX e107)).mono (fun v W' h => ⟨by rw [← h.1]; exact Below.refl _ _, fun _ => by rw [← h.1]; exact h.2⟩)
       ·
        cases b109
        ·
         exact DV.dr (dv_off rfl) ⟨Below.refl _ _, fun h => by cases h⟩
        ·
         exact absurd hb109 (by simp)
      refine Dc (fun Wd hd => ?_) ?_
      ·
       intro u20_21 p20_21
       cases b108
       ·
        cases b109
        ·
         exact Dd (dv_off rfl) rfl
        ·
         replace p20_21 := p20_21 rfl
         exact Dd (dx_loadP rfl ty_one_9 rfl p20_21) rfl
       ·
        cases b109
        ·
         exact Dd (dv_off rfl) rfl
        ·
         replace p20_21 := p20_21 rfl
         exact absurd hb109 (by simp)
      refine Dc (fun Wd hd => ?_) ?_
      ·
       cases b108
       ·
        cases b109
        ·
         exact Dd (dv_off rfl) rfl
        ·
         exact Dd (dx_geqT rfl rfl rfl) rfl
       ·
        cases b109
        ·
         exact Dd (dv_off rfl) rfl
        ·
         exact absurd hb109 (by simp)
      refine Dc (fun Wd hd => ?_) ?_
      ·
       cases b108
       ·
        cases b109
        ·
         exact Dd (dx_pick rfl rfl rfl) rfl
        ·
         exact Dd (dx_pick rfl rfl rfl) rfl
       ·
        cases b109
        ·
         exact Dd (dv_off rfl) rfl
        ·
         exact absurd hb109 (by simp)
      refine Dc (fun Wd hd => ?_) ?_
      ·
       cases b108
       ·
        exact Dd (dx_pick rfl rfl rfl) rfl
       ·
        exact Dd (dx_pick rfl rfl rfl) rfl
      exact trivial
     ·
      intro W112 b113
      intro u20_3 p20_3
      intro u20_5 p20_5
      intro _ _
      intro _ _
      replace hnt := hnt.below b113
      replace hit := hit.below b113
      replace hct := hct.below b113
      replace k3 := k3.below b113
      replace hB := below_then hB b113
      replace hL := LL.below hL b113
      refine Ni (hK105 ?_)
      refine WC.cond rfl (fun c114 => ?_) (fun c114 => ?_)
      ·
       refine Sq fun K115 hK115 => (Rg (Pu rfl (Ni (hK115 ?_))))
       exact WC.ret fun a_ ha_ => hQ (cv_ret1 rfl (.tmp rfl) (by rw [right_node (by first | exact .inl hkt | exact .inr hkt)]; cases room with | zero => rfl | succ m => (show _ = Value.bool (_ && _); rw [node_er, show (risesJ t.names && t.names.all upB) = false from (by cases hu_ : upB r106 <;> first | exact names_f1 e107 hu_ | (have hi0 : 0 < i := (by rcases Nat.eq_zero_or_pos i with h0_ | h0_; exfalso; simp_all; exact h0_); exact names_f2 hi0 e111 e107 (by cases hs_ : sless r110 r106; rfl; exfalso; simp_all)))]; simp [hkt])) hB ha_)
      ·
       obtain ⟨g116, g117⟩ := bor_f c114
       replace g116 := bvar_f g116
       refine WC.skip (hK104 (Rg (Pu rfl (Va (dx_add (r := (i : Int) + 1) rfl rfl rfl (wrap64_id (by omega))) rfl rfl (Pu rfl (Ni ?_))))))
       exact hK99 (i + 1) ⟨(by omega), (fun k a hk ha => by rcases Nat.lt_or_ge k i with hl | hl; exact hv k a hl ha; obtain rfl : k = i := (by omega); rw [e107] at ha; cases ha; first | assumption | simp_all), (fun k a b hk ha hb => by rcases Nat.lt_or_ge (k + 1) i with hl | hl; exact hs k a b hl ha hb; obtain rfl : k = i - 1 := (by omega); rw [e111] at ha; rw [show i - 1 + 1 = i by omega, e107] at hb; cases ha; cases hb; cases hs_ : sless r110 r106 with | true => rfl | false => exfalso; have hi0 : (0 : Int) < (i : Int) := (by omega); simp_all), hB, hL, hnt, hit, hct, k3⟩ (by omega) (by repeat first | exact trivial | refine aR ?_ | refine aI (by omega) ?_)
    ·
     replace c103 := dF c103
     refine WC.exit ?_
     obtain ⟨w1, w2, w3, w4⟩ := plain_leaf ‹plainT _ _ _ _ t = true›
     have hnm := names_t (up := upB) (l := t.names) (fun k a hk ha => hv k a (by omega) ha) (fun k a b hk ha hb => hs k a b (by omega) ha hb)
     have hln : t.names.length = t.items.length := by omega
     have hnode : nodeJ upB t.er = true := by rw [node_er, w1 rfl, w2 rfl, hkt]; rw [hnm, decide_eq_true hln]; rfl
     exact hJ1  _ _ ⟨(.inr hkt), hnode, hB, hL, hnt, hit, hct, k3⟩ (by repeat first | exact trivial | refine aR ?_ | refine aI (by omega) ?_)
 ·
  refine Rg (Va (dx_fld (o1 := 0) rfl ty_fld_27_0_0 rfl rfl) rfl rfl (Va (dx_load rfl ty_one_3 rfl (k3.cell (k := 0) rfl)) rfl rfl (Ni (hK30 (WC.block (Sq fun K118 hK118 => (Sq fun K119 hK119 => ?_)))))))
  refine Rg (Va (dv_N (dx_eql rfl rfl rfl) (by omega)) rfl rfl (Pu rfl (Ni (hK119 (WC.condF rfl (Sq fun K120 hK120 => (Rg ?_)))))))
  refine Va (dv_N (dx_eql rfl rfl rfl) (by omega)) rfl rfl (Pu rfl (Ni (hK120 (WC.condF rfl (Rg (Va (dv_N (dx_eql rfl rfl rfl) (by omega)) rfl rfl (Pu rfl ?_)))))))
  refine Ni (hK118 (WC.condF rfl (Sq fun K121 hK121 => (Rg (Va (dv_N (dx_eql rfl rfl rfl) (by omega)) rfl rfl (Pu rfl (Ni ?_)))))))
  refine hK121 (WC.condF rfl (Sq fun K122 hK122 => (Rg (Va (dv_N (dx_eql rfl rfl rfl) (by omega)) rfl rfl (Pu rfl (Ni (hK122 ?_)))))))
  refine WC.condF rfl (Sq fun K123 hK123 => (Rg (Va (dv_N (dx_eql rfl rfl rfl) (by omega)) rfl rfl (Pu rfl (Ni (hK123 (WC.condF rfl ?_)))))))
  refine Sq fun K124 hK124 => (Rg (Va (dv_N (dx_eql rfl rfl rfl) (by omega)) rfl rfl (Pu rfl (Ni (hK124 (WC.condF rfl (Sq fun K125 hK125 => ?_)))))))
  refine Rg (Pu rfl (Ni (hK125 ?_)))
  exact WC.ret fun a_ ha_ => hQ (cv_ret1 rfl (.tmp rfl) (by rw [right_leaf (by first | (rw [hkt]; decide) | omega) (by first | (rw [hkt]; decide) | omega), leaf_er]; (try unfold plainT at *); by_cases a1 : t.num = 0 <;> by_cases a2 : t.text = ⟨#[]⟩ <;> by_cases a3 : t.names = [] <;> by_cases a4 : t.items = [] <;> simp_all <;> omega) hB ha_)

theorem refRight_all : ∀ n, RefRightAt n
 | 0 => fun t _ _ _ _ h => h.elim
 | n + 1 => fun t room w L hL ht hz hr => refRight_step n (refRight_all n) t room w L hL ht hz hr
set_option maxHeartbeats 1000000 in
theorem rRight_v (n : Nat) (t : Tr) (w : World) (L : List Nat) (hL : LL L w) (ht : RdT (n + 1) L w t)  (hz : SzT 1000000 (n + 1) t) : CV Tryz.prog 22 [.agg #[.int .i64 t.kind, .int .i64 t.num, .string t.text, t.nv, t.iv]] w fun v W => v = .bool (rightJ upB 12 t.er) := by
 refine cv_enter (N := 5) (f := [(0, .agg #[.int .i64 t.kind, .int .i64 t.num, .string t.text, t.nv, t.iv])]) Tryz.func22 rfl rfl rfl rfl fun Q hQ hE => ?_
 have hB := Below.refl w.heap.size w
 refine Sq fun K1 hK1 => ?_
 obtain ⟨hnt, hit, hct⟩ := ht
 replace hct : RdTs n (L) w t.items := hct
 refine Rg ?_
 refine Ge (dx_box rfl rfl rfl) rfl rfl ?_
 rintro _ W2 ⟨rfl, k3, b4, z5⟩
 have l6 := hB.size
 replace hnt := hnt.more b4 (Nat.le_refl _)
 replace hit := hit.more b4 (Nat.le_refl _)
 replace hct := hct.more b4 (Nat.le_refl _)
 replace hB := below_then hB b4
 replace hL := LL.more hL z5
 refine Pu rfl (Ni (hK1 (Sq fun K7 hK7 => (Rg (Va (dx_loadN rfl ty_agg_27_5 rfl k3.range rfl) rfl rfl ?_)))))
 refine Ge (dx_cv rfl Tryz.func45 rfl rfl rfl ((show CV _ _ [_, .int .i64 0] _ _ from refRight_all (n + 1) t 12 W2 _ hL (show RdT (n + 1) (w.heap.size :: L) W2 t from ⟨hnt, hit, hct⟩) hz (by decide)))) rfl rfl ?_
 rintro _ W9 ⟨rfl, b8⟩
 replace hB := below_then hB b8
 refine Pu rfl (Ni (hK7 ?_))
 exact WC.ret fun a_ ha_ => hQ (cv_ret1 rfl (.tmp rfl) rfl hB ha_)

theorem idxX_ge {α : Type} {p : α → Bool} : ∀ (xs : List α) (i : Nat), idxX p (xs.drop i) i = -1 ∨ (i : Int) ≤ idxX p (xs.drop i) i := fun xs i => by
  have h := idxX_lt (p := p) (xs.drop i) i
  rcases Int.lt_or_le (idxX p (xs.drop i) i) 0 with h1 | h1
  · left
    omega
  · right
    obtain ⟨k, a, e, _⟩ := idxX_is (p := p) (xs.drop i) i (by omega) h1
    omega
set_option maxHeartbeats 1000000 in
theorem rGet_v (n : Nat) (t : Tr) (name : ByteArray) (w : World) (L : List Nat) (hL : LL L w) (ht : RdT (n + 1) L w t) : CV Tryz.prog 43 [.agg #[.int .i64 t.kind, .int .i64 t.num, .string t.text, t.nv, t.iv], .string name] w fun v W => v = .tuple #[.agg (encT (getT t name).1).toArray, .bool (getT t name).2] := by
 refine cv_enter (N := 39) (f := [(0, .agg #[.int .i64 t.kind, .int .i64 t.num, .string t.text, t.nv, t.iv]), (1, .string name)]) Tryz.func43 rfl rfl rfl rfl fun Q hQ hE => ?_
 have hB := Below.refl w.heap.size w
 refine Sq fun K1 hK1 => ?_
 obtain ⟨hnt, hit, hct⟩ := ht
 replace hct : RdTs n (L) w t.items := hct
 have hil0 := hit.len
 rw [List.length_map] at hil0
 unfold maxLen at hil0
 refine Rg ?_
 refine Ge (dx_box rfl rfl rfl) rfl rfl ?_
 rintro _ W2 ⟨rfl, k3, b4, z5⟩
 have l6 := hB.size
 replace hnt := hnt.more b4 (Nat.le_refl _)
 replace hit := hit.more b4 (Nat.le_refl _)
 replace hct := hct.more b4 (Nat.le_refl _)
 replace hB := below_then hB b4
 replace hL := LL.more hL z5
 refine Ge (dx_alloc rfl ty_zero_27 rfl) rfl rfl ?_
 rintro _ W7 ⟨rfl, k8, b9, z10⟩
 have l12 := hB.size
 replace hnt := hnt.more b9 (Nat.le_refl _)
 replace hit := hit.more b9 (Nat.le_refl _)
 replace hct := hct.more b9 (Nat.le_refl _)
 replace k3 := k3.below b9
 replace hB := below_then hB b9
 replace hL := LL.more hL z10
 refine Pu rfl (Ni (hK1 (Sq fun K13 hK13 => (Sq fun K14 hK14 => (Rg (Pu rfl (Ni ?_)))))))
 refine hK14 (WC.block ?_)
 refine WC.loop (fun (i : Nat) => [(1, .string name), (2, .pointer (some ⟨w.heap.size, 0, none⟩)), (4, .pointer (some ⟨W2.heap.size, 0, none⟩)), (6, .int .i64 (i : Int))]) (fun (i : Nat) W => i ≤ t.names.length ∧ idxX (fun x => decide (name = x)) t.names 0 = idxX (fun x => decide (name = x)) (t.names.drop i) i ∧ Below w.heap.size w W ∧ LL (W2.heap.size :: w.heap.size :: L) W ∧ RdF 1 (W2.heap.size :: w.heap.size :: L) W t.nv (t.names.map eS) ∧ RdF 5 (W2.heap.size :: w.heap.size :: L) W t.iv (t.items.map encT) ∧ RdTs n (W2.heap.size :: w.heap.size :: L) W t.items ∧ Blk W w.heap.size [.int .i64 t.kind, .int .i64 t.num, .string t.text, t.nv, t.iv] ∧ Blk W W2.heap.size [.int .i64 0, .int .i64 0, .string ⟨#[]⟩, .slice none 0 0, .slice none 0 0]) (fun (i : Nat) => t.names.length - i) 0 (by repeat first | exact trivial | refine aR ?_ | refine aI (by omega) ?_) ⟨Nat.zero_le _, rfl, hB, hL, hnt, hit, hct, k3, k8⟩ ?_
 clear hnt hit hct k3 k8 hB hL
 rintro K15 i W16 ⟨hi, hv, hB, hL, hnt, hit, hct, k3, k8⟩ hK15
 refine Sq fun K17 hK17 => (Sq fun K18 hK18 => (Rg (Pu rfl (Va (dx_fld (o1 := 3) rfl ty_fld_27_3_3 rfl rfl) rfl rfl (Va (dx_load rfl ty_one_24 rfl (k3.cell (k := 3) rfl)) rfl rfl (Va (dx_lenFM rfl ty_slice_24 rfl hnt) rfl rfl (Va (dx_lss rfl rfl rfl) rfl rfl ?_)))))))
 refine Pu rfl ?_
 refine WL.split 12 rfl (fun g19 => ?_) (fun g19 => ?_)
 ·
  replace g19 := dT g19
  refine Pu rfl (Va (dx_fld (o1 := 4) rfl ty_fld_27_4_4 rfl rfl) rfl rfl (Va (dx_load rfl ty_one_25 rfl (k3.cell (k := 4) rfl)) rfl rfl (Va (dx_lenFM rfl ty_slice_25 rfl hit) rfl rfl (Va (dx_lss rfl rfl rfl) rfl rfl (Pu rfl (Pu rfl ?_))))))
  refine WL.split 19 rfl (fun g20 => ?_) (fun g20 => ?_)
  ·
   replace g20 := dT g20
   refine Va (dx_fld (o1 := 0) rfl ty_fld_27_0_0 rfl rfl) rfl rfl (Va (dx_load rfl ty_one_3 rfl (k3.cell (k := 0) rfl)) rfl rfl (Va (dx_eql rfl rfl rfl) rfl rfl (Pu rfl (Ni (hK18 ?_)))))
   refine WC.cond rfl (fun c21 => ?_) (fun c21 => ?_)
   ·
    replace c21 := dT c21
    refine WC.skip (hK17 (Sq fun K22 hK22 => (WC.block (Sq fun K23 hK23 => (Rg (Va (dx_fld (o1 := 3) rfl ty_fld_27_3_3 rfl rfl) rfl rfl (Va (dx_load rfl ty_one_24 rfl (k3.cell (k := 3) rfl)) rfl rfl ?_)))))))
    refine Pu rfl ?_
    obtain ⟨r24, e25⟩ : ∃ x, t.names[i]? = some x := ⟨_, List.getElem?_eq_getElem (by omega)⟩
    refine Ge (dx_idxF i rfl ty_slice_24 rfl rfl hnt (by omega) (at_mapX e25)) rfl rfl ?_
    rintro u26 _ ⟨rfl, p27⟩
    refine Va (dx_loadP rfl ty_one_9 rfl p27) rfl rfl (Pu rfl (Va (dx_eqlT rfl rfl rfl) rfl rfl (Ni (hK23 ?_))))
    refine WC.cond rfl (fun c28 => ?_) (fun c28 => ?_)
    ·
     replace c28 := dT c28
     refine Sq fun K29 hK29 => ?_
     obtain ⟨r30, e31⟩ : ∃ x, t.items[i]? = some x := ⟨_, List.getElem?_eq_getElem (by omega)⟩
     have hrr := hct r30 (List.mem_of_getElem? e31)
     refine Rg (Va (dx_fld (o1 := 4) rfl ty_fld_27_4_4 rfl rfl) rfl rfl (Va (dx_load rfl ty_one_25 rfl (k3.cell (k := 4) rfl)) rfl rfl (Pu rfl ?_)))
     refine Ge (dx_idxF i rfl ty_slice_25 rfl rfl hit (by omega) (at_mapX e31)) rfl rfl ?_
     rintro u32 _ ⟨rfl, p33⟩
     refine Va (dx_loadPN rfl ty_agg_27_5 rfl p33 rfl) rfl rfl ?_
     refine WL.do (dx_storeW (vs := encT r30) rfl ty_size_27_5 rfl rfl rfl hrr.oc k8 rfl rfl) rfl ?_
     rintro _ W34 ⟨k36, o35⟩
     clear k8
     replace hB := o35.below hB l12
     refine Pu rfl (Ni (hK29 ?_))
     exact WC.ret fun a_ ha_ => hQ (cv_ret2 rfl (.agg rfl ty_agg_27_5 k36.range rfl) (.tmp rfl) (by have hk0 : idxX (fun x => decide (name = x)) t.names 0 = (i : Int) := (by rw [hv]; exact idxX_here e25 (decide_eq_true (by first | (exact Eq.symm (by assumption)) | simp_all))); have e : getT t name = (r30, true) := (by unfold getT; rw [if_pos ⟨by assumption, by omega, by omega⟩, hk0, Int.toNat_natCast, e31]; rfl); rw [e] <;> rfl) hB ha_)
    ·
     replace c28 := dF c28
     refine WC.skip (hK22 (Rg (Pu rfl (Va (dx_add (r := (i : Int) + 1) rfl rfl rfl (wrap64_id (by omega))) rfl rfl (Pu rfl (Ni ?_))))))
     exact hK15 (i + 1) ⟨(by omega), (by rw [hv]; exact idxX_step e25 (decide_eq_false (fun e => by first | (exact absurd e.symm (by assumption)) | simp_all))), hB, hL, hnt, hit, hct, k3, k8⟩ (by omega) (by repeat first | exact trivial | refine aR ?_ | refine aI (by omega) ?_)
   ·
    replace c21 := dF c21
    refine WC.exit ?_
    refine hK13 (Sq fun K37 hK37 => (Rg (Va (dx_build rfl rfl (built_of_O (cs := zV) (by kernel_rfl) oc_nil)) rfl rfl ?_)))
    refine WL.do (dx_store (cs' := zV) (vs := zV) rfl ty_size_27_5 rfl rfl rfl o5 k8 rfl (nB rfl) rfl) rfl ?_
    rintro _ W38 ⟨k40, o39⟩
    clear k8
    replace hB := o39.below hB l12
    refine Pu rfl (Ni (hK37 ?_))
    exact WC.ret fun a_ ha_ => hQ (cv_ret2 rfl (.agg rfl ty_agg_27_5 k40.range rfl) (.tmp rfl) (by have e : getT t name = (noT, false) := (by unfold getT; rw [if_neg (by rintro ⟨q1, q2, q3⟩; have hge := idxX_ge (p := fun x => decide (name = x)) t.names i; rw [← hv] at hge; have hlt := idxX_lt (p := fun x => decide (name = x)) t.names 0; first | omega | (simp_all; done) | (simp_all <;> omega))]); rw [e] <;> rfl) hB ha_)
  ·
   replace g20 := dF g20
   refine Of rfl (Of rfl (Of rfl (Pu rfl (Ni (hK18 (WC.condF rfl ?_))))))
   refine WC.exit ?_
   refine hK13 (Sq fun K41 hK41 => (Rg (Va (dx_build rfl rfl (built_of_O (cs := zV) (by kernel_rfl) oc_nil)) rfl rfl ?_)))
   refine WL.do (dx_store (cs' := zV) (vs := zV) rfl ty_size_27_5 rfl rfl rfl o5 k8 rfl (nB rfl) rfl) rfl ?_
   rintro _ W42 ⟨k44, o43⟩
   clear k8
   replace hB := o43.below hB l12
   refine Pu rfl (Ni (hK41 ?_))
   exact WC.ret fun a_ ha_ => hQ (cv_ret2 rfl (.agg rfl ty_agg_27_5 k44.range rfl) (.tmp rfl) (by have e : getT t name = (noT, false) := (by unfold getT; rw [if_neg (by rintro ⟨q1, q2, q3⟩; have hge := idxX_ge (p := fun x => decide (name = x)) t.names i; rw [← hv] at hge; have hlt := idxX_lt (p := fun x => decide (name = x)) t.names 0; first | omega | (simp_all; done) | (simp_all <;> omega))]); rw [e] <;> rfl) hB ha_)
 ·
  replace g19 := dF g19
  refine Of rfl (Of rfl (Of rfl (Of rfl (Of rfl (Pu rfl (Pu rfl (Of rfl ?_)))))))
  refine Of rfl (Of rfl (Pu rfl (Ni (hK18 (WC.condF rfl ?_)))))
  refine WC.exit ?_
  refine hK13 (Sq fun K45 hK45 => (Rg (Va (dx_build rfl rfl (built_of_O (cs := zV) (by kernel_rfl) oc_nil)) rfl rfl ?_)))
  refine WL.do (dx_store (cs' := zV) (vs := zV) rfl ty_size_27_5 rfl rfl rfl o5 k8 rfl (nB rfl) rfl) rfl ?_
  rintro _ W46 ⟨k48, o47⟩
  clear k8
  replace hB := o47.below hB l12
  refine Pu rfl (Ni (hK45 ?_))
  exact WC.ret fun a_ ha_ => hQ (cv_ret2 rfl (.agg rfl ty_agg_27_5 k48.range rfl) (.tmp rfl) (by have e : getT t name = (noT, false) := (by unfold getT; rw [if_neg (by rintro ⟨q1, q2, q3⟩; have hge := idxX_ge (p := fun x => decide (name = x)) t.names i; rw [← hv] at hge; have hlt := idxX_lt (p := fun x => decide (name = x)) t.names 0; first | omega | (simp_all; done) | (simp_all <;> omega))]); rw [e] <;> rfl) hB ha_)

section
variable {P : Program} {ops : Array Oper} {o : Oper} {N : Nat} {f : Fl} {w : World}
end
def noJ : Js := .mk 0 0 ⟨#[]⟩ [] []
def getJ (j : Js) (name : ByteArray) : Js × Bool := if j.kind = 6 ∧ 0 ≤ idxX (fun x => decide (name = x)) j.names 0 ∧ (idxX (fun x => decide (name = x)) j.names 0).toNat < j.items.length then ((j.items[(idxX (fun x => decide (name = x)) j.names 0).toNat]?).getD noJ, true) else (noJ, false)
theorem getT_er (t : Tr) (name : ByteArray) : ((getT t name).1.er, (getT t name).2) = getJ t.er name := by
  unfold getT getJ
  rw [er_kind, er_names, er_items, List.length_map]
  split
  · rename_i h
    rw [List.getElem?_map, List.getElem?_eq_getElem h.2.2]; rfl
  · unfold noT noJ; rw [Tr.er_mk]; rfl
theorem leaf_kind {up : ByteArray → Bool} {j : Js} (h : leafJ up j = true) : ¬ (j.kind = 5 ∨ j.kind = 6) := by
 unfold leafJ at h
 rintro (e | e) <;> rw [e] at h <;> simp at h
theorem node_kind {up : ByteArray → Bool} {j : Js} (h : nodeJ up j = true) : j.kind = 5 ∨ j.kind = 6 := by
 unfold nodeJ at h
 simp only [Bool.and_eq_true, Bool.or_eq_true, decide_eq_true_eq] at h
 rcases h.2 with h | h
 · exact .inl h.1
 · exact .inr h.1
section
variable {P : Program} {ops : Array Oper} {md : Region.Mode}
end
abbrev SV := List (Option Tmp × Option Value)
section
variable {P : Program} {N : Nat} {sv : SV} {dl : List (List Nat)}
end
def vB : Value → Option Nat
 | .slice (some a) _ _ => some a.block
 | .pointer (some a) => some a.block
 | _ => none
theorem OwS.vB {s : Nat} {w : World} {u : Value} {rs : List (List Value)} {B : Nat} (h : OwS s w u rs B) : vB u = some B := by
 obtain ⟨h0, hr, cap, sp, rfl, _⟩ := h
 rfl
theorem NewW.lt {s b : Nat} {w : World} {u : Value} {rs : List (List Value)} (h : NewW s b rs u w) {B : Nat} (hB : Go.Proofs.YtghpdnfdbhjmpaaGreatDoor.vB u = some B) : b ≤ B ∧ B < w.heap.size := by
 rcases h with ⟨rfl, _⟩ | ⟨C, h1, h2⟩
 · cases hB
 · rw [h2.vB] at hB; cases hB; exact ⟨h1, h2.lt⟩
theorem NewW.one {s b : Nat} {w : World} {u : Value} {rs : List (List Value)} (h : NewW s b rs u w) : u.oneCell' = true := by
 rcases h with ⟨rfl, _⟩ | ⟨C, h1, h2⟩
 · rfl
 · exact h2.one
theorem rises_of_J : ∀ {l : List ByteArray}, risesJ l = true → Rises l
 | [], _ => List.Pairwise.nil
 | [a], _ => List.pairwise_singleton _ _
 | a :: b :: l, h => by
  unfold risesJ at h
  rw [Bool.and_eq_true] at h
  have ih := rises_of_J (l := b :: l) h.2
  refine List.Pairwise.cons (fun c hc => ?_) ih
  rcases List.mem_cons.1 hc with rfl | hc
  · exact h.1
  · exact sless_trans _ _ _ h.1 ((List.pairwise_cons.1 ih).1 c hc)
def putJ (j : Js) (nm : ByteArray) (x : Js) : Js := if j.names[lbT nm j.names]? = some nm then .mk 6 0 ⟨#[]⟩ j.names (j.items.set (lbT nm j.names) x) else .mk 6 0 ⟨#[]⟩ (insA (lbT nm j.names) nm j.names) (insA (lbT nm j.names) x j.items)

end Go.Proofs.YtghpdnfdbhjmpaaGreatDoor
namespace Go.Proofs
open Go.Shelf
def Tryz.laysM171_ren : Go.Shelf.Ren := ⟨fun | 171 => 35 | 243 => 60 | 246 => 75 | 283 => 88 | 284 => 89 | 285 => 90 | 286 => 91 | 129 => 98 | 317 => 97 | 318 => 99 | 319 => 100 | 320 => 101 | 337 => 104 | 338 => 105 | n => n, fun | 3 => 3 | 9 => 9 | 2 => 2 | 4 => 4 | 171 => 122 | 0 => 0 | 53 => 123 | 37 => 34 | 5 => 5 | 173 => 126 | 212 => 132 | 51 => 133 | 20 => 20 | 213 => 134 | 46 => 100 | 232 => 140 | 233 => 141 | n => n, fun | 17 => 0 | 18 => 1 | 19 => 2 | n => n⟩
theorem Tryz.laysM171 : Go.Proofs.LaysM.n171 Tryz.prog Tryz.laysM171_ren := {
 mixed := by kernel_rfl
 f129 := Tryz.func98.trans (congrArg some (by kernel_rfl))
 f171 := Tryz.func35.trans (congrArg some (by kernel_rfl))
 f243 := Tryz.func60.trans (congrArg some (by kernel_rfl))
 f246 := Tryz.func75.trans (congrArg some (by kernel_rfl))
 f283 := Tryz.func88.trans (congrArg some (by kernel_rfl))
 f284 := Tryz.func89.trans (congrArg some (by kernel_rfl))
 f285 := Tryz.func90.trans (congrArg some (by kernel_rfl))
 f286 := Tryz.func91.trans (congrArg some (by kernel_rfl))
 f317 := Tryz.func97.trans (congrArg some (by kernel_rfl))
 f318 := Tryz.func99.trans (congrArg some (by kernel_rfl))
 f319 := Tryz.func100.trans (congrArg some (by kernel_rfl))
 f320 := Tryz.func101.trans (congrArg some (by kernel_rfl))
 f337 := Tryz.func104.trans (congrArg some (by kernel_rfl))
 f338 := Tryz.func105.trans (congrArg some (by kernel_rfl))
 t0 := Tryz.underlying0
 a0 := Tryz.isAgg0
 z0 := Tryz.sizeOf0
 v0 := Tryz.zeroValue0
 t2 := Tryz.underlying2
 a2 := Tryz.isAgg2
 z2 := Tryz.sizeOf2
 v2 := Tryz.zeroValue2
 t3 := Tryz.underlying3
 a3 := Tryz.isAgg3
 z3 := Tryz.sizeOf3
 v3 := Tryz.zeroValue3
 t4 := Tryz.underlying4
 a4 := Tryz.isAgg4
 z4 := Tryz.sizeOf4
 v4 := Tryz.zeroValue4
 t5 := Tryz.underlying5
 a5 := Tryz.isAgg5
 z5 := Tryz.sizeOf5
 v5 := Tryz.zeroValue5
 t9 := Tryz.underlying9
 a9 := Tryz.isAgg9
 z9 := Tryz.sizeOf9
 v9 := Tryz.zeroValue9
 t20 := Tryz.underlying20
 a20 := Tryz.isAgg20
 z20 := Tryz.sizeOf20
 v20 := Tryz.zeroValue20
 t37 := Tryz.underlying34
 a37 := Tryz.isAgg34
 z37 := Tryz.sizeOf34
 v37 := Tryz.zeroValue34
 t46 := Tryz.underlying100
 a46 := Tryz.isAgg100
 z46 := Tryz.sizeOf100
 v46 := Tryz.zeroValue100
 t51 := Tryz.underlying133
 a51 := Tryz.isAgg133
 z51 := Tryz.sizeOf133
 v51 := Tryz.zeroValue133
 t53 := Tryz.underlying123
 a53 := Tryz.isAgg123
 z53 := Tryz.sizeOf123
 v53 := Tryz.zeroValue123
 t171 := Tryz.underlying122
 a171 := Tryz.isAgg122
 z171 := Tryz.sizeOf122
 v171 := Tryz.zeroValue122
 t173 := Tryz.underlying126
 a173 := Tryz.isAgg126
 z173 := Tryz.sizeOf126
 v173 := Tryz.zeroValue126
 t212 := Tryz.underlying132
 a212 := Tryz.isAgg132
 z212 := Tryz.sizeOf132
 v212 := Tryz.zeroValue132
 t213 := Tryz.underlying134
 a213 := Tryz.isAgg134
 z213 := Tryz.sizeOf134
 t232 := Tryz.underlying140
 a232 := Tryz.isAgg140
 z232 := Tryz.sizeOf140
 v232 := Tryz.zeroValue140
 t233 := Tryz.underlying141
 a233 := Tryz.isAgg141
 z233 := Tryz.sizeOf141
 v233 := Tryz.zeroValue141
 g17 := by kernel_rfl
 g18 := by kernel_rfl
 g19 := by kernel_rfl
 i0 := by kernel_rfl
 i2 := by kernel_rfl
 i3 := by kernel_rfl
 i4 := by kernel_rfl
 i5 := by kernel_rfl
 i9 := by kernel_rfl
 i20 := by kernel_rfl
 i37 := by kernel_rfl
 i46 := by kernel_rfl
 i51 := by kernel_rfl
 i53 := by kernel_rfl
 i171 := by kernel_rfl
 i173 := by kernel_rfl
 i212 := by kernel_rfl
 i232 := by kernel_rfl
 i233 := by kernel_rfl
 m17 := by kernel_rfl
 m18 := by kernel_rfl
 m19 := by kernel_rfl }
open Go.RowKit Go.Sort Go.Lib in
theorem Tryz.strconv_Itoa (n : Int) (h0 : -9223372036854775808 ≤ n) (h1 : n ≤ 9223372036854775807) (w : World) (htab : Lib.TabIs Tryz.prog w "internal/strconv.uint64pow10" .u64 Lib.pow10Tab) :
  Calls Tryz.prog 35 #[.int .i64 n] w fun e w' => e = .returned (.string ⟨(Lib.itoa n).toArray⟩) ∧ ∃ k os, w' = grow (w.drewN k) os := Any.strconv_Itoa Tryz.laysM171 n h0 h1 w htab
end Go.Proofs
namespace Go.Proofs.YtghpdnfdbhjmpaaGreatDoor
open Go.RowKit
set_option linter.unusedVariables false
set_option linter.unusedSimpArgs false
set_option maxRecDepth 8000
set_option maxHeartbeats 2000000

theorem MembI.le {n b : Nat} {L L' : List Nat} {nv iv : Value} {ns : List ByteArray} {ts : List Tr} {W : World} (h : MembI n b L nv ns iv ts W) (hl : ∀ x, x ∈ L' → x ∈ L) : MembI n b L' nv ns iv ts W := by
  obtain ⟨h0, h | ⟨Bn, Bi, h1, h2, h3, h4, h5, h6⟩⟩ := h
  · exact ⟨fun x hx => h0 x (hl x hx), .inl h⟩
  · exact ⟨fun x hx => h0 x (hl x hx), .inr ⟨Bn, Bi, h1, h2, h3, h4, h5, fun c hc => (h6 c hc).less fun x hx => by
      simp only [List.mem_cons] at hx ⊢
      rcases hx with h_ | h_ | h_
      · exact .inl h_
      · exact .inr (.inl h_)
      · exact .inr (.inr (hl x h_))⟩⟩
def AgL (w1 : World) (L0 L : List Nat) (w : World) : Prop := (∀ x ∈ L, x < w1.heap.size → x ∈ L0) ∧ Agree L0 w1 w
theorem Agree.trans' {L : List Nat} {w w' w'' : World} (h : Agree L w w') (k : Agree L w' w'') : Agree L w w'' := ⟨Nat.le_trans h.1 k.1, fun i hi hlt => (k.2 i hi (Nat.lt_of_lt_of_le hlt h.1)).trans (h.2 i hi hlt)⟩
section
variable {w1 w w' : World} {L0 L : List Nat}
theorem AgL.below (h : AgL w1 L0 L w) (hb : Below w.heap.size w w') : AgL w1 L0 L w' := ⟨h.1, h.2.trans' (.of_below hb)⟩
theorem AgL.more (h : AgL w1 L0 L w) (hb : Below w.heap.size w w') {B : Nat} (hB : w.heap.size ≤ B) : AgL w1 L0 (B :: L) w' := ⟨fun x hx hlt => by
 rcases List.mem_cons.1 hx with rfl | hx
 · exact absurd hlt (Nat.not_lt.2 (Nat.le_trans h.2.1 hB))
 · exact h.1 x hx hlt, h.2.trans' (.of_below hb)⟩
theorem AgL.only (h : AgL w1 L0 L w) {C : Nat} (ho : Only C w w') (hC : C ∈ L) : AgL w1 L0 L w' := ⟨h.1, ⟨by rw [ho.size]; exact h.2.1, fun k hk hlt => (ho.block k (fun e => hk (h.1 k (e ▸ hC) hlt))).trans (h.2.2 k hk hlt)⟩⟩
theorem AgL.grow' (h : AgL w1 L0 L w) {B B' : Nat} (g : GrowB B B' w w') (hB : B ∈ L) : AgL w1 L0 (B' :: L) w' := ⟨fun x hx hlt => by
  rcases List.mem_cons.1 hx with rfl | hx
  · rcases g.new with rfl | hn
    · exact h.1 _ hB hlt
    · exact absurd hlt (Nat.not_lt.2 (Nat.le_trans h.2.1 hn))
  · exact h.1 x hx hlt, ⟨Nat.le_trans h.2.1 g.size, fun k hk hlt => (g.block k (Nat.lt_of_lt_of_le hlt h.2.1) (fun e => hk (h.1 k (e ▸ hB) hlt))).trans (h.2.2 k hk hlt)⟩⟩
theorem AgL.less (h : AgL w1 L0 L w) {L' : List Nat} (hl : ∀ x, x ∈ L' → x ∈ L) : AgL w1 L0 L' w := ⟨fun x hx => h.1 x (hl x hx), h.2⟩
theorem AgL.add (h : AgL w1 L0 L w) {B : Nat} (hB : w1.heap.size ≤ B) : AgL w1 L0 (B :: L) w := ⟨fun x hx hlt => by
 rcases List.mem_cons.1 hx with rfl | hx
 · exact absurd hlt (Nat.not_lt.2 hB)
 · exact h.1 x hx hlt, h.2⟩
theorem AgL.rd {s : Nat} {v : Value} {rs : List (List Value)} (h : AgL w1 L0 L w) (k : RdF s L0 w1 v rs) : RdF s L w v rs := by
 have k2 := k.agree h.2
 obtain ⟨h0, hl, a, cap, rfl, c1, c2, c3, c4⟩ := k2
 refine ⟨h0, hl, a, cap, rfl, c1, c2, c3, fun hn => ?_⟩
 obtain ⟨X, q, e, hX, hr⟩ := c4 hn
 exact ⟨X, q, e, fun hx => hX (h.1 X hx (rdf_lt k e hn)), hr⟩
theorem AgL.rt (h : AgL w1 L0 L w) : ∀ {n : Nat} {t : Tr}, RdT n L0 w1 t → RdT n L w t
 | 0, _, k => k
 | _ + 1, _, k => ⟨h.rd k.1, h.rd k.2.1, fun c hc => h.rt (k.2.2 c hc)⟩
end
theorem dv_e {P : Program} {ops : Array Oper} {o : Oper} {N : Nat} {f : Fl} {w : World} {u v : Value} (h : DV P ops o N f w u) (e : u = v) : DV P ops o N f w v := e ▸ h
theorem idx_none {x : ByteArray} {l : List ByteArray} (h : x ∉ l) : ¬ 0 ≤ idxX (fun y => decide (x = y)) l 0 := fun h0 => by
 obtain ⟨k, a, e, ha, hp, _⟩ := idxX_is l 0 (Int.le_refl _) h0
 exact h ((of_decide_eq_true hp) ▸ List.mem_of_getElem? ha)
theorem rises_uniq {l : List ByteArray} (h : Rises l) {i j : Nat} {a : ByteArray} (hi : l[i]? = some a) (hj : l[j]? = some a) : i = j := by
 rcases Nat.lt_trichotomy i j with h1 | h1 | h1
 · have := rises_less h h1 hi hj; rw [sless_irrefl] at this; cases this
 · exact h1
 · have := rises_less h h1 hj hi; rw [sless_irrefl] at this; cases this
theorem getJ_some {j : Js} {nm : ByteArray} {k : Nat} {x : Js} (hk : j.kind = 6) (hr : Rises j.names) (hn : j.names[k]? = some nm) (hx : j.items[k]? = some x) : getJ j nm = (x, true) := by
  have hlt := (List.getElem?_eq_some_iff.1 hx).1
  have h0 : idxX (fun y => decide (nm = y)) j.names 0 = (k : Int) := by
    rcases Int.lt_or_le (idxX (fun y => decide (nm = y)) j.names 0) 0 with h1 | h1
    · have := idxX_no j.names 0 (Int.le_refl _) h1 nm (List.mem_of_getElem? hn)
      exact absurd rfl (of_decide_eq_false this)
    · obtain ⟨k', a, e, ha, hp, _⟩ := idxX_is j.names 0 (Int.le_refl _) h1
      have hp := of_decide_eq_true hp
      subst hp
      have := rises_uniq hr ha hn
      rw [e, this]; omega
  unfold getJ
  rw [if_pos ⟨hk, by rw [h0]; omega, by rw [h0]; simpa using hlt⟩, h0, Int.toNat_natCast, hx]
  rfl
theorem getJ_none {j : Js} {nm : ByteArray} (h : nm ∉ j.names) : getJ j nm = (noJ, false) := by
 unfold getJ
 rw [if_neg (fun ⟨_, h1, _⟩ => idx_none h h1)]
theorem insA_at {α : Type} {i : Nat} {x : α} {l : List α} (h : i ≤ l.length) : (insA i x l)[i]? = some x := by
 unfold insA
 rw [List.getElem?_append_right (by rw [List.length_take]; omega), List.length_take, show i - min i l.length = 0 by omega]
 rfl
theorem insA_lt {α : Type} {i k : Nat} {x : α} {l : List α} (h : i ≤ l.length) (hk : k < i) : (insA i x l)[k]? = l[k]? := by
 unfold insA
 rw [List.getElem?_append_left (by rw [List.length_take]; omega), List.getElem?_take, if_pos hk]
theorem insA_ge {α : Type} {i k : Nat} {x : α} {l : List α} (h : i ≤ l.length) (hk : i ≤ k) : (insA i x l)[k + 1]? = l[k]? := by
 unfold insA
 rw [List.getElem?_append_right (by rw [List.length_take]; omega), List.length_take, show k + 1 - min i l.length = (k - i) + 1 by omega, List.singleton_append, List.getElem?_cons_succ, List.getElem?_drop]
 congr 1; omega
theorem rises_J : ∀ {l : List ByteArray}, Rises l → risesJ l = true
 | [], _ => rfl
 | [a], _ => rfl
 | a :: b :: l, h => by
  unfold risesJ
  rw [rises_J (List.pairwise_cons.1 h).2, (List.pairwise_cons.1 h).1 b (.head _)]; rfl
theorem mk_right {up : ByteArray → Bool} {n : Nat} {ns : List ByteArray} {ts : List Js} (hl : ns.length = ts.length) (hr : Rises ns) (hu : ∀ a ∈ ns, up a = true) (ht : ∀ x ∈ ts, rightJ up n x = true) : rightJ up (n + 1) (.mk 6 0 ⟨#[]⟩ ns ts) = true := by
 rw [rightJ, Bool.or_eq_true]
 right
 rw [Bool.and_eq_true, List.all_eq_true]
 refine ⟨?_, ht⟩
 simp only [nodeJ, Js.num, Js.text, Js.kind, Js.names, Js.items, hl, rises_J hr]
 simp
 exact hu
def SzJ (m : Nat) : Nat → Js → Prop
 | 0, _ => False
 | n + 1, j => j.text.size ≤ m ∧ j.names.length ≤ m ∧ j.items.length ≤ m ∧ (∀ s ∈ j.names, s.size ≤ m) ∧ ∀ c ∈ j.items, SzJ m n c
theorem szT_J {m : Nat} : ∀ {n : Nat} {t : Tr}, SzT m n t ↔ SzJ m n t.er
 | 0, _ => Iff.rfl
 | n + 1, t => by
  unfold SzT SzJ
  rw [er_text, er_names, er_items, List.length_map]
  refine and_congr Iff.rfl (and_congr Iff.rfl (and_congr Iff.rfl (and_congr Iff.rfl ⟨fun h c hc => ?_, fun h c hc => szT_J.2 (h c.er (List.mem_map.2 ⟨c, hc, rfl⟩))⟩)))
  obtain ⟨t', ht', rfl⟩ := List.mem_map.1 hc
  exact szT_J.1 (h t' ht')
theorem SzJ.le {m m' : Nat} (hm : m ≤ m') : ∀ {n : Nat} {j : Js}, SzJ m n j → SzJ m' n j
 | 0, _, h => h
 | _ + 1, _, h => ⟨Nat.le_trans h.1 hm, Nat.le_trans h.2.1 hm, Nat.le_trans h.2.2.1 hm, fun s hs => Nat.le_trans (h.2.2.2.1 s hs) hm, fun c hc => (h.2.2.2.2 c hc).le hm⟩
theorem SzJ.up {m : Nat} : ∀ {n : Nat} {j : Js}, SzJ m n j → SzJ m (n + 1) j
 | 0, _, h => h.elim
 | _ + 1, _, h => ⟨h.1, h.2.1, h.2.2.1, h.2.2.2.1, fun c hc => (h.2.2.2.2 c hc).up⟩
def OKL (l : List Int) : Prop := ∃ rs, encS rs = some l
theorem ok_nil : OKL [] := ⟨[], rfl⟩
theorem ok_cons {r : Int} {l : List Int} (hr : isRuneB r = true) (h : OKL l) : OKL (encI r ++ l) := by
 obtain ⟨rs, h⟩ := h
 exact ⟨r :: rs, by simp only [encS, hr, if_true, h, Option.map_some]⟩
theorem enc_split {r : Int} {t l : List Int} (h : encS (r :: t) = some l) : isRuneB r = true ∧ ∃ ts, encS t = some ts ∧ l = encI r ++ ts := by
  simp only [encS] at h
  split at h
  · rename_i hr
    cases ht : encS t with
    | none => rw [ht] at h; cases h
    | some ts => rw [ht] at h; cases h; exact ⟨hr, ts, rfl, rfl⟩
  · cases h
theorem ok_app {b : List Int} (hb : OKL b) : ∀ (rs a : List Int), encS rs = some a → OKL (a ++ b)
 | [], a, h => by cases h; exact hb
 | r :: t, a, h => by
  obtain ⟨hr, ts, ht, rfl⟩ := enc_split h
  rw [List.append_assoc]
  exact ok_cons hr (ok_app hb t ts ht)
theorem OKL.app {a b : List Int} (ha : OKL a) (hb : OKL b) : OKL (a ++ b) := by obtain ⟨rs, h⟩ := ha; exact ok_app hb rs a h
theorem ok_bytes : ∀ (rs l : List Int), encS rs = some l → Bytes l
 | [], l, h => by cases h; exact fun x hx => by cases hx
 | r :: t, l, h => by
  obtain ⟨hr, ts, ht, rfl⟩ := enc_split h
  exact (encI_bytes (isRune_range hr).1 (isRune_range hr).2).append (ok_bytes t ts ht)
theorem OKL.bytes {l : List Int} (h : OKL l) : Bytes l := by obtain ⟨rs, h⟩ := h; exact ok_bytes rs l h
theorem ok_rune {r : Int} (h : isRuneB r = true) : OKL (encI r) := by have := ok_cons h ok_nil; rwa [List.append_nil] at this
theorem ok_one {c : Int} (h0 : 0 ≤ c) (h : c < 128) : OKL [c] := by
 have := ok_rune (r := c) (by unfold isRuneB; simp; omega)
 rwa [encI1 h] at this
theorem ok_of_up {s : ByteArray} (h : upB s = true) : OKL (sb s) := by
 unfold upB at h
 cases hd : decS (sb s) with
 | none => rw [hd] at h; cases h
 | some rs => exact ⟨rs, enc_dec _ _ rs (Nat.le_refl _) (sb_bytes s) hd⟩
theorem up_of_ok {l : List Int} (h : OKL l) : upB (strOfNums l) = true := by
 have hB := h.bytes
 obtain ⟨rs, h⟩ := h
 unfold upB
 rw [sb_strOf hB, dec_enc rs l h]
 rfl
theorem enc_hi {r : Int} (h : 128 ≤ r) : ∀ x ∈ encI r, 128 ≤ x := by
  intro x hx
  unfold encI at hx
  rw [if_neg (by omega)] at hx
  split at hx
  · simp at hx; omega
  · split at hx
    · simp at hx; omega
    · simp at hx; omega
theorem ok_cut : ∀ (rs a b : List Int) (c : Int), encS rs = some (a ++ c :: b) → c < 128 → OKL a ∧ OKL b
  | [], a, b, c, h, _ => by
    have := Option.some.inj h
    cases a <;> cases this
  | r :: t, a, b, c, h, hc => by
    obtain ⟨hr, ts, ht, e⟩ := enc_split h
    by_cases hlo : r < 128
    · rw [encI1 hlo] at e
      cases a with
      | nil =>
        rw [List.nil_append, List.singleton_append] at e
        injection e with e1 e2
        exact ⟨ok_nil, ⟨t, by rw [ht, e2]⟩⟩
      | cons x a' =>
        rw [List.cons_append, List.singleton_append] at e
        injection e with e1 e2
        obtain ⟨h1, h2⟩ := ok_cut t a' b c (by rw [ht, e2]) hc
        have := ok_cons hr h1
        rw [encI1 hlo, List.singleton_append, ← e1] at this
        exact ⟨this, h2⟩
    · rcases List.append_eq_append_iff.1 e.symm with ⟨a', rfl, e2⟩ | ⟨c', e1, e2⟩
      · obtain ⟨h1, h2⟩ := ok_cut t a' b c (by rw [ht, e2]) hc
        exact ⟨ok_cons hr h1, h2⟩
      · cases c' with
        | nil =>
          obtain ⟨h1, h2⟩ := ok_cut t [] b c (by rw [ht]; exact congrArg some e2.symm) hc
          rw [List.append_nil] at e1
          exact ⟨by rw [← e1]; exact ok_rune hr, h2⟩
        | cons x c'' =>
          rw [List.cons_append] at e2
          injection e2 with e2 e3
          have := enc_hi (r := r) (by omega) x (by rw [e1]; simp)
          omega
theorem cut_at {l : List Int} {k : Nat} {c : Int} (h : OKL l) (hk : l[k]? = some c) (hc : c < 128) : OKL (l.take k) ∧ OKL (l.drop (k + 1)) := by
 obtain ⟨hlt, he⟩ := List.getElem?_eq_some_iff.1 hk
 obtain ⟨rs, h⟩ := h
 refine ok_cut rs _ _ c ?_ hc
 rw [h, ← he, ← List.drop_eq_getElem_cons hlt, List.take_append_drop]
theorem sb_at {s : ByteArray} {k : Nat} (h : k < s.size) : (sb s)[k]? = some (atS s k) := by
 unfold sb atS
 rw [List.getElem?_map, Array.getElem?_toList, Array.getElem?_eq_getElem (show k < s.data.size from h)]
 rfl
def EndA (s : ByteArray) (k : Nat) : Prop := ∃ j, k = j + 1 ∧ j < s.size ∧ atS s j < 128
theorem EndA.le {s : ByteArray} {k : Nat} (h : EndA s k) : k ≤ s.size := by obtain ⟨j, rfl, h, _⟩ := h; omega
theorem EndA.ok {s : ByteArray} {k : Nat} (h : EndA s k) (hs : OKL (sb s)) : OKL ((sb s).drop k) := by
 obtain ⟨j, rfl, h1, h2⟩ := h
 exact (cut_at hs (sb_at h1) h2).2
theorem hexD_hi {c : Int} (h : 0 ≤ hexD c) : c < 128 := by
 unfold hexD at h
 repeat' split at h
 all_goals omega
theorem fourN_last {s : ByteArray} : ∀ (n k : Nat) (r q : Int), fourN s (n + 1) k r = some q → k + n < s.size ∧ atS s (k + n) < 128
  | 0, k, r, q, h => by
    rw [fourN] at h
    split at h
    · rename_i hc
      rw [Bool.and_eq_true, decide_eq_true_eq, decide_eq_true_eq] at hc
      exact ⟨hc.1, hexD_hi hc.2⟩
    · cases h
  | n + 1, k, r, q, h => by
    rw [fourN] at h
    split at h
    · have := fourN_last n (k + 1) _ q h
      rw [show k + (n + 1) = k + 1 + n by omega]
      exact this
    · cases h
theorem four_last {s : ByteArray} {k : Nat} {r : Int} (h : fourS s k = some r) : EndA s (k + 4) := by
 have := fourN_last 3 k 0 r h
 exact ⟨k + 3, rfl, this.1, this.2⟩
theorem escR_ok {s : ByteArray} {k k' : Nat} {r : Int} (h : escR s k = some (r, k')) : k + 4 ≤ k' ∧ EndA s k' := by
  unfold escR at h
  split at h
  · cases h
  · rename_i r0 h4
    split at h
    · cases h; exact ⟨Nat.le_refl _, four_last h4⟩
    · split at h
      · split at h
        · cases h
        · rename_i q0 h6
          split at h
          · cases h
          · cases h; exact ⟨by omega, four_last h6⟩
      · cases h
theorem escB_ok {s : ByteArray} {k k' : Nat} {l : List Int} (h : escB s k = some (l, k')) : OKL l ∧ k + l.length ≤ k' ∧ EndA s k' := by
  unfold escB at h
  split at h
  · split at h
    · cases h
    · rename_i r k2 hr
      split at h
      · rename_i hrune
        cases h
        have h1 := escR_ok hr
        have h2 := encI_len r
        exact ⟨ok_rune hrune, by omega, h1.2⟩
      · cases h
  · split at h
    · rename_i hlt
      have h0 := (atS_lo s k).1
      have e : ∀ c : Int, atS s k < 128 → EndA s (k + 1) := fun c hc => ⟨k, rfl, hlt, hc⟩
      split at h
      · cases h; exact ⟨ok_one h0 (by omega), by simp, e 0 (by omega)⟩
      · split at h
        · cases h; exact ⟨ok_one (by decide) (by decide), by simp, e 0 (by omega)⟩
        · split at h
          · cases h; exact ⟨ok_one (by decide) (by decide), by simp, e 0 (by omega)⟩
          · split at h
            · cases h; exact ⟨ok_one (by decide) (by decide), by simp, e 0 (by omega)⟩
            · split at h
              · cases h; exact ⟨ok_one (by decide) (by decide), by simp, e 0 (by omega)⟩
              · split at h
                · cases h; exact ⟨ok_one (by decide) (by decide), by simp, e 0 (by omega)⟩
                · cases h
    · cases h
theorem qN_ok {s : ByteArray} (hs : OKL (sb s)) (b : Nat) : ∀ (n k k0 : Nat) (o0 l : List Int) (k' : Nat), k0 ≤ k → k ≤ s.size → OKL ((sb s).drop k0) → OKL o0 → (o0 ++ ((sb s).drop k0).take (k - k0)).length + b ≤ k → qN s n k (o0 ++ ((sb s).drop k0).take (k - k0)) = some (l, k') → OKL l ∧ l.length + b ≤ k' ∧ k < k' ∧ k' ≤ s.size
  | 0, _, _, _, _, _, _, _, _, _, _, h => by rw [qN] at h; cases h
  | n + 1, k, k0, o0, l, k', hk0, hk, hd, ho, hlen, h => by
    rw [qN] at h
    split at h
    · rename_i hlt
      have hat : ((sb s).drop k0)[k - k0]? = some (atS s k) := by rw [List.getElem?_drop, show k0 + (k - k0) = k by omega]; exact sb_at hlt
      split at h
      · cases h
      · split at h
        · rename_i hq
          cases h
          exact ⟨ho.app (cut_at hd hat (by omega)).1, by omega, by omega, by omega⟩
        · split at h
          · rename_i hb
            split at h
            · cases h
            · rename_i l1 k2 he
              obtain ⟨e1, e2, e3⟩ := escB_ok he
              have ho2 := (ho.app (cut_at hd hat (by omega)).1).app e1
              have := qN_ok hs b n k2 k2 _ l k' (Nat.le_refl _) e3.le (e3.ok hs) ho2 (by rw [Nat.sub_self, List.take_zero, List.append_nil, List.length_append]; omega) (by rw [Nat.sub_self, List.take_zero, List.append_nil]; exact h)
              exact ⟨this.1, this.2.1, by omega, this.2.2.2⟩
          · have et : ((sb s).drop k0).take (k + 1 - k0) = ((sb s).drop k0).take (k - k0) ++ [atS s k] := by rw [show k + 1 - k0 = (k - k0) + 1 by omega, List.take_add_one, hat]; rfl
            have := qN_ok hs b n (k + 1) k0 o0 l k' (by omega) (by omega) hd ho (by rw [et, ← List.append_assoc, List.length_append]; simp only [List.length_cons, List.length_nil]; omega) (by rw [et, ← List.append_assoc]; exact h)
            exact ⟨this.1, this.2.1, by omega, this.2.2.2⟩
    · cases h
theorem quo_ok {s : ByteArray} {k k' : Nat} {l : List Int} (hs : OKL (sb s)) (ht : takeS s k 34 = true) (h : quoS s k = some (l, k')) : OKL l ∧ l.length + (k + 1) ≤ k' ∧ k < k' ∧ k' ≤ s.size := by
 obtain ⟨h1, h2⟩ := take_t ht
 have he : EndA s (k + 1) := ⟨k, rfl, h1, by omega⟩
 have := qN_ok hs (k + 1) (s.size + 1) (k + 1) (k + 1) [] l k' (Nat.le_refl _) (by omega) (he.ok hs) ok_nil (by rw [Nat.sub_self, List.take_zero]; simp) (by rw [Nat.sub_self, List.take_zero]; exact h)
 exact ⟨this.1, this.2.1, by omega, this.2.2.2⟩
theorem accN_in {s : ByteArray} : ∀ (i k : Nat) (n m : Int), 0 ≤ n → n ≤ 9007199254740991 → (∀ j, k ≤ j → j < k + i → 48 ≤ atS s j ∧ atS s j ≤ 57) → accN s i k n = some m → 0 ≤ m ∧ m ≤ 9007199254740991
 | 0, _, n, m, h0, h1, _, h => by rw [accN] at h; cases h; exact ⟨h0, h1⟩
 | i + 1, k, n, m, h0, h1, hd, h => by
  rw [accN] at h
  have := hd k (Nat.le_refl _) (by omega)
  split at h
  · cases h
  · exact accN_in i (k + 1) _ m (by omega) (by omega) (fun j h1 h2 => hd j (by omega) (by omega)) h
theorem numT_in {s : ByteArray} {b : Bool} {k k' : Nat} {n : Int} (h : numT s b k = .ok (n, k')) : -9007199254740991 ≤ n ∧ n ≤ 9007199254740991 := by
  unfold numT at h
  split at h
  · split at h
    · cases h
    · cases h; decide
  · split at h
    · cases h
    · split at h
      · cases h
      · rename_i m hm
        have hr := accN_in _ _ _ _ (by decide) (by decide) (fun j h1 h2 => digS_all h1 (by omega)) hm
        cases h
        split <;> omega
theorem numS_in {s : ByteArray} {k k' : Nat} {n : Int} (h : numS s k = .ok (n, k')) : -9007199254740991 ≤ n ∧ n ≤ 9007199254740991 := by
 unfold numS at h
 split at h
 · exact numT_in h
 · exact numT_in h

def hexL (c : Int) : Int := if c < 10 then 48 + c else 87 + c
def escJ (c : Int) : List Int :=
 if c = 34 ∨ c = 92 then [92, c] else if c = 8 then [92, 98] else if c = 9 then [92, 116] else if c = 10 then [92, 110] else if c = 12 then [92, 102] else if c = 13 then [92, 114]
 else if c < 32 then [92, 117, 48, 48, hexL (c / 16), hexL (c % 16)] else [c]
def quoJ (s : ByteArray) : List Int := 34 :: ((sb s).flatMap escJ ++ [34])
def decL (u : Nat) : List Int := (Lib.decDigits u).map fun c => (c.toNat : Int)
def numJ (n : Int) : List Int := if n < 0 then 45 :: decL n.natAbs else decL n.toNat
def commaJ : List (List Int) → List Int
 | [] => []
 | x :: l => x ++ l.flatMap fun y => 44 :: y
def leafP (j : Js) : List Int := if j.kind = 1 then [116, 114, 117, 101] else if j.kind = 2 then [102, 97, 108, 115, 101] else if j.kind = 3 then numJ j.num else if j.kind = 4 then quoJ j.text else [110, 117, 108, 108]
def prJ : Nat → Js → List Int
 | 0, j => leafP j
 | n + 1, j => if j.kind = 5 then 91 :: (commaJ (j.items.map (prJ n)) ++ [93]) else if j.kind = 6 then 123 :: (commaJ ((j.names.zip j.items).map fun p => quoJ p.1 ++ (58 :: prJ n p.2)) ++ [125]) else leafP j
def Rem (s : ByteArray) (k : Nat) (r : List Int) : Prop := k ≤ s.size ∧ (sb s).drop k = r
section
variable {s : ByteArray} {k : Nat} {c : Int} {r l : List Int}
theorem Rem.cons (h : Rem s k (c :: r)) : k < s.size ∧ atS s k = c ∧ Rem s (k + 1) r := by
 obtain ⟨h1, h2⟩ := h
 have hlt : k < s.size := by
  rcases Nat.lt_or_ge k s.size with h3 | h3
  · exact h3
  · rw [List.drop_eq_nil_of_le (by rw [sb_length]; omega)] at h2; cases h2
 have e := sb_at hlt
 rw [List.drop_eq_getElem_cons (by rw [sb_length]; exact hlt)] at h2
 rw [List.getElem?_eq_getElem (by rw [sb_length]; exact hlt)] at e
 have e1 := List.cons.inj h2
 exact ⟨hlt, by rw [← Option.some.inj e]; exact e1.1, hlt, e1.2⟩
theorem Rem.nil (h : Rem s k []) : k = s.size := by
 have := congrArg List.length h.2
 rw [List.length_drop, sb_length, List.length_nil] at this
 have := h.1; omega
theorem Rem.app : ∀ {l : List Int} {k : Nat}, Rem s k (l ++ r) → Rem s (k + l.length) r
 | [], k, h => h
 | c :: l, k, h => by
  have := Rem.app (l := l) (h.cons.2.2)
  rw [List.length_cons, show k + (l.length + 1) = k + 1 + l.length by omega]; exact this
theorem Rem.take (h : Rem s k (c :: r)) (d : Int) : takeS s k d = decide (c = d) := by
 obtain ⟨h1, h2, _⟩ := h.cons
 unfold takeS; rw [decide_eq_true h1, h2]; rfl
theorem Rem.blank (h : Rem s k (c :: r)) (hc : isBlank c = false) : blankS s k = k := blank_stop fun ⟨_, q⟩ => by rw [h.cons.2.1, hc] at q; cases q
theorem Rem.blank0 (h : Rem s k []) : blankS s k = k := blank_stop fun ⟨q, _⟩ => by have := h.nil; omega
end
def Tail (r : List Int) : Prop := r = [] ∨ ∃ c l, r = c :: l ∧ (c = 44 ∨ c = 93 ∨ c = 125)
-- texts
theorem hexD_L {c : Int} (h0 : 0 ≤ c) (h : c < 16) : hexD (hexL c) = c := by
 unfold hexL
 split
 · unfold hexD; rw [if_pos (by omega)]; omega
 · unfold hexD; rw [if_neg (by omega), if_pos (by omega)]; omega
theorem Rem.four {s : ByteArray} {k : Nat} {a b c d : Int} {r : List Int} (h : Rem s k (hexL a :: hexL b :: hexL c :: hexL d :: r)) (ha : 0 ≤ a ∧ a < 16) (hb : 0 ≤ b ∧ b < 16) (hc : 0 ≤ c ∧ c < 16) (hd : 0 ≤ d ∧ d < 16) : fourS s k = some (((a * 16 + b) * 16 + c) * 16 + d) := by
 obtain ⟨q1, q2, h⟩ := h.cons
 obtain ⟨q3, q4, h⟩ := h.cons
 obtain ⟨q5, q6, h⟩ := h.cons
 obtain ⟨q7, q8, h⟩ := h.cons
 have e1 := hexD_L ha.1 ha.2
 have e2 := hexD_L hb.1 hb.2
 have e3 := hexD_L hc.1 hc.2
 have e4 := hexD_L hd.1 hd.2
 unfold fourS
 rw [four_go q1 (by rw [q2, e1]; exact ha.1), four_go q3 (by rw [q4, e2]; exact hb.1), four_go q5 (by rw [q6, e3]; exact hc.1), four_go q7 (by rw [q8, e4]; exact hd.1), q2, q4, q6, q8, e1, e2, e3, e4, fourN]
 congr 1; omega
theorem Rem.esc1 {s : ByteArray} {k : Nat} {c v : Int} {r : List Int} (h : Rem s k (c :: r)) (hc : (c = 34 ∧ v = 34) ∨ (c = 92 ∧ v = 92) ∨ (c = 98 ∧ v = 8) ∨ (c = 102 ∧ v = 12) ∨ (c = 110 ∧ v = 10) ∨ (c = 114 ∧ v = 13) ∨ (c = 116 ∧ v = 9)) : escB s k = some ([v], k + 1) := by
 obtain ⟨h1, h2, _⟩ := h.cons
 unfold escB
 rw [h.take, decide_eq_false (by omega), if_neg (by decide), if_pos h1, h2]
 rcases hc with ⟨rfl, rfl⟩ | ⟨rfl, rfl⟩ | ⟨rfl, rfl⟩ | ⟨rfl, rfl⟩ | ⟨rfl, rfl⟩ | ⟨rfl, rfl⟩ | ⟨rfl, rfl⟩ <;> rfl
theorem Rem.escU {s : ByteArray} {k : Nat} {c : Int} {r : List Int} (h : Rem s k (117 :: 48 :: 48 :: hexL (c / 16) :: hexL (c % 16) :: r)) (h0 : 0 ≤ c) (hc : c < 32) : escB s k = some ([c], k + 5) := by
 have h2 := (h.cons).2.2
 have hf : fourS s (k + 1) = some c := by
  have := Rem.four (a := 0) (b := 0) (c := c / 16) (d := c % 16) h2 (by omega) (by omega) (by omega) (by omega)
  rw [this]; congr 1; omega
 unfold escB
 rw [h.take, decide_eq_true rfl, if_pos rfl]
 unfold escR
 rw [hf]
 dsimp only
 rw [if_pos (by omega)]
 dsimp only
 rw [if_pos (by unfold isRuneB; simp; omega), encI1 (by omega)]
theorem Rem.qNs {s : ByteArray} : ∀ (l : List Int) (f k : Nat) (out r : List Int), (∀ c ∈ l, 0 ≤ c) → Rem s k (l.flatMap escJ ++ (34 :: r)) → s.size - k < f → ∃ k', qN s f k out = some (out ++ l, k') ∧ Rem s k' r
  | _, 0, _, _, _, _, _, hf => by omega
  | [], f + 1, k, out, r, _, h, hf => by
    obtain ⟨h1, h2, h3⟩ := Rem.cons (show Rem s k (34 :: r) from h)
    exact ⟨k + 1, by rw [qN_q h1 h2.symm (by decide) rfl rfl, List.append_nil], h3⟩
  | c :: l, f + 1, k, out, r, hp, h, hf => by
    have h0 := hp c (.head _)
    have hl : ∀ x ∈ l, 0 ≤ x := fun x hx => hp x (.tail _ hx)
    rw [List.flatMap_cons, List.append_assoc] at h
    have step : ∀ {e : List Int} {v : Int} {m : Nat}, Rem s k (92 :: (e ++ (l.flatMap escJ ++ (34 :: r)))) → e.length = m → escB s (k + 1) = some ([v], k + 1 + m) → v = c → ∃ k', qN s (f + 1) k out = some (out ++ c :: l, k') ∧ Rem s k' r := by
      intro e v m hr he hb hv
      subst hv he
      obtain ⟨q1, q2, q3⟩ := hr.cons
      have q4 := q3.app
      obtain ⟨k', e1, e2⟩ := Rem.qNs l f (k + 1 + e.length) (out ++ [v]) r hl q4 (by omega)
      exact ⟨k', by rw [qN_e1 q1 q2.symm (by decide) (by decide) rfl rfl hb, e1, List.append_assoc]; rfl, e2⟩
    unfold escJ at h
    split at h
    · rename_i hc
      exact step (e := [c]) h rfl ((Rem.cons h).2.2.esc1 (v := c) (by omega)) rfl
    split at h
    · rename_i _ hc; exact step (e := [98]) h rfl ((Rem.cons h).2.2.esc1 (v := 8) (by omega)) hc.symm
    split at h
    · rename_i _ _ hc; exact step (e := [116]) h rfl ((Rem.cons h).2.2.esc1 (v := 9) (by omega)) hc.symm
    split at h
    · rename_i _ _ _ hc; exact step (e := [110]) h rfl ((Rem.cons h).2.2.esc1 (v := 10) (by omega)) hc.symm
    split at h
    · rename_i _ _ _ _ hc; exact step (e := [102]) h rfl ((Rem.cons h).2.2.esc1 (v := 12) (by omega)) hc.symm
    split at h
    · rename_i _ _ _ _ _ hc; exact step (e := [114]) h rfl ((Rem.cons h).2.2.esc1 (v := 13) (by omega)) hc.symm
    split at h
    · rename_i _ _ _ _ _ _ hc
      exact step (e := [117, 48, 48, hexL (c / 16), hexL (c % 16)]) h rfl ((Rem.cons h).2.2.escU h0 hc) rfl
    · rename_i n1 _ _ _ _ _ n7
      obtain ⟨q1, q2, q3⟩ := Rem.cons (show Rem s k (c :: (l.flatMap escJ ++ (34 :: r))) from h)
      obtain ⟨k', e1, e2⟩ := Rem.qNs l f (k + 1) (out ++ [c]) r hl q3 (by omega)
      exact ⟨k', by rw [qN_d q1 q2.symm (by omega) (by omega) (by omega) rfl, e1, List.append_assoc]; rfl, e2⟩
theorem Rem.quo {s : ByteArray} {k : Nat} {t : ByteArray} {r : List Int} (h : Rem s k (quoJ t ++ r)) : takeS s k 34 = true ∧ ∃ k', quoS s k = some (sb t, k') ∧ Rem s k' r := by
 unfold quoJ at h
 rw [List.cons_append, List.append_assoc] at h
 refine ⟨by rw [h.take]; rfl, ?_⟩
 have := Rem.qNs (s := s) (sb t) (s.size + 1) (k + 1) [] r (fun c hc => (sb_bytes t c hc).1) h.cons.2.2 (by omega)
 exact this
-- numbers
def valL : List Int → Int
 | [] => 0
 | c :: l => (c - 48) * 10 ^ l.length + valL l
theorem valL_app (l : List Int) (d : Int) : valL (l ++ [d]) = valL l * 10 + (d - 48) := by
 induction l with
 | nil => simp [valL]
 | cons c l ih =>
  simp only [List.cons_append, valL, ih, List.length_append, List.length_singleton, Int.pow_succ, Int.add_mul, Int.mul_assoc]
  omega
theorem dig_u {u : Nat} (h : u < 10) : ((UInt8.ofNat (48 + u)).toNat : Int) = 48 + u := by
 rw [UInt8.toNat_ofNat']
 omega
theorem decL_spec (u : Nat) : (∀ c ∈ decL u, isDig c = true) ∧ valL (decL u) = u ∧ ∃ c l, decL u = c :: l ∧ (c = 48 → u = 0 ∧ l = []) := by
  induction u using Nat.strongRecOn with
  | _ u ih =>
    have dg : ∀ n : Nat, n < 10 → isDig (48 + (n : Int)) = true := fun n hn => by unfold isDig; rw [decide_eq_true (by omega), decide_eq_true (by omega)]; rfl
    by_cases h : u < 10
    · have e : decL u = [48 + (u : Int)] := by unfold decL; rw [Lib.decDigits, dif_pos h, List.map_cons, dig_u h]; rfl
      rw [e]
      refine ⟨fun c hc => ?_, ?_, _, _, rfl, fun hc => ⟨by omega, rfl⟩⟩
      · rw [List.mem_singleton.1 hc]; exact dg u h
      · simp [valL]; omega
    · have e : decL u = decL (u / 10) ++ [48 + ((u % 10 : Nat) : Int)] := by
        unfold decL
        rw [Lib.decDigits, dif_neg h, List.map_append, List.map_cons, dig_u (Nat.mod_lt _ (by decide))]; rfl
      obtain ⟨h1, h2, c, l, h3, h4⟩ := ih (u / 10) (by omega)
      rw [e]
      refine ⟨fun x hx => ?_, ?_, c, l ++ [48 + ((u % 10 : Nat) : Int)], by rw [h3]; rfl, fun hc => ?_⟩
      · rcases List.mem_append.1 hx with hx | hx
        · exact h1 x hx
        · rw [List.mem_singleton.1 hx]; exact dg _ (Nat.mod_lt _ (by decide))
      · rw [valL_app, h2]; omega
      · have := (h4 hc).1; omega
theorem Rem.dig {s : ByteArray} {r : List Int} (hr : Tail r) : ∀ (l : List Int) (k : Nat), (∀ c ∈ l, isDig c = true) → Rem s k (l ++ r) → digS s k = k + l.length
  | [], k, _, h => by
    refine dig_stop fun ⟨q1, q2⟩ => ?_
    rcases hr with rfl | ⟨c, l, rfl, hc⟩
    · have := Rem.nil h; omega
    · rw [(Rem.cons h).2.1] at q2
      rcases hc with rfl | rfl | rfl <;> revert q2 <;> decide
  | c :: l, k, hl, h => by
    obtain ⟨h1, h2, h3⟩ := Rem.cons h
    rw [dig_go h1 (by rw [h2]; exact hl c (.head _)), Rem.dig hr l (k + 1) (fun x hx => hl x (.tail _ hx)) h3, List.length_cons]; omega
theorem isDig_le {c : Int} (h : isDig c = true) : 48 ≤ c ∧ c ≤ 57 := by
 unfold isDig at h
 rw [Bool.and_eq_true, decide_eq_true_eq, decide_eq_true_eq] at h
 exact h
theorem valL_nn : ∀ l : List Int, (∀ c ∈ l, isDig c = true) → 0 ≤ valL l
 | [], _ => Int.le_refl _
 | c :: l, h => by
  have h1 := valL_nn l fun x hx => h x (.tail _ hx)
  have h2 := isDig_le (h c (.head _))
  have h3 : (0 : Int) ≤ 10 ^ l.length := Int.le_of_lt (Int.pow_pos (by decide))
  have := Int.mul_nonneg (a := c - 48) (by omega) h3
  unfold valL; omega
theorem Rem.acc {s : ByteArray} {r : List Int} : ∀ (l : List Int) (k : Nat) (n : Int), (∀ c ∈ l, isDig c = true) → Rem s k (l ++ r) → 0 ≤ n → n * 10 ^ l.length + valL l ≤ 9007199254740991 → accN s l.length k n = some (n * 10 ^ l.length + valL l)
 | [], k, n, _, _, _, _ => by simp [accN, valL]
 | c :: l, k, n, hl, h, hn, hm => by
  obtain ⟨h1, h2, h3⟩ := Rem.cons h
  have hd := isDig_le (hl c (.head _))
  have hl2 : ∀ x ∈ l, isDig x = true := fun x hx => hl x (.tail _ hx)
  have hp : (1 : Int) ≤ 10 ^ l.length := Int.pow_pos (by decide)
  have e : n * 10 ^ (c :: l).length + valL (c :: l) = (n * 10 + (c - 48)) * 10 ^ l.length + valL l := by
   simp only [List.length_cons, Int.pow_succ, valL, Int.add_mul, Int.mul_assoc]
   rw [Int.mul_comm 10]; omega
  have hv := valL_nn l hl2
  rw [e] at hm ⊢
  have hn2 : 0 ≤ n * 10 + (c - 48) := by omega
  have hle : n * 10 + (c - 48) ≤ (n * 10 + (c - 48)) * 10 ^ l.length := by
   have := Int.mul_le_mul_of_nonneg_left hp hn2
   omega
  rw [List.length_cons, accN, h2, if_neg (by omega)]
  exact Rem.acc l (k + 1) _ hl2 h3 hn2 hm
theorem Rem.numTs {s : ByteArray} {r : List Int} (hr : Tail r) (m : Bool) (u k : Nat) (hu : u ≤ 9007199254740991) (hm : m = true → u ≠ 0) (h : Rem s k (decL u ++ r)) : ∃ k', numT s m k = .ok (if m = true then -(u : Int) else u, k') ∧ Rem s k' r := by
  obtain ⟨d1, d2, c, l, d3, d4⟩ := decL_spec u
  have hc := d1 c (by rw [d3]; exact .head _)
  have hh : Rem s k (c :: (l ++ r)) := by rw [d3] at h; exact h
  obtain ⟨q1, q2, q3⟩ := hh.cons
  by_cases h48 : c = 48
  · obtain ⟨rfl, rfl⟩ := d4 h48
    cases m with
    | true => exact absurd rfl (hm rfl)
    | false => exact ⟨k + 1, numT_z ⟨q1, by rw [q2]; exact h48⟩ rfl, q3⟩
  · have hd := Rem.dig hr _ k d1 h
    have hl : 0 < (decL u).length := by rw [d3]; exact Nat.succ_pos _
    have ha := Rem.acc (decL u) k 0 d1 h (Int.le_refl _) (by rw [d2]; omega)
    rw [d2] at ha
    exact ⟨digS s k, numT_s (fun ⟨_, q⟩ => h48 (by rw [← q2]; exact q)) (by omega) (by rw [hd, Nat.add_sub_cancel_left, ha, Int.zero_mul, Int.zero_add]), by rw [hd]; exact h.app⟩
theorem Rem.num {s : ByteArray} {r : List Int} (hr : Tail r) (n : Int) (k : Nat) (h0 : -9007199254740991 ≤ n) (h1 : n ≤ 9007199254740991) (h : Rem s k (numJ n ++ r)) : ∃ k', numR s k = .ok (leafS 3 n ⟨#[]⟩, k') ∧ Rem s k' r := by
  have q : ∃ k', numS s k = .ok (n, k') ∧ Rem s k' r := by
    unfold numJ at h
    split at h
    · rename_i hn
      have ht : takeS s k 45 = true := by rw [Rem.take h]; rfl
      obtain ⟨k', e1, e2⟩ := Rem.numTs hr true n.natAbs (k + 1) (by omega) (fun _ => by omega) (Rem.cons h).2.2
      exact ⟨k', by rw [numS_t ht rfl, e1, if_pos rfl]; congr 2; omega, e2⟩
    · rename_i hn
      obtain ⟨k', e1, e2⟩ := Rem.numTs hr false n.toNat k (by omega) (fun q => by cases q) h
      obtain ⟨d1, _, c, l, d3, _⟩ := decL_spec n.toNat
      have ht : takeS s k 45 = false := by
        rw [d3] at h
        rw [Rem.take h]
        exact decide_eq_false fun e => by have := isDig_le (d1 c (by rw [d3]; exact .head _)); omega
      exact ⟨k', by rw [numS_f ht, e1, if_neg (by decide)]; congr 2; omega, e2⟩
  obtain ⟨k', e1, e2⟩ := q
  exact ⟨k', by unfold numR; rw [e1], e2⟩
-- words
theorem Rem.word {s : ByteArray} {k : Nat} {r : List Int} (w : ByteArray) (h : Rem s k (sb w ++ r)) : wordS s w k = true ∧ Rem s (k + w.size) r := by
  constructor
  · unfold wordS
    rw [List.all_eq_true]
    intro i hi
    rw [List.mem_range] at hi
    have e : sb w ++ r = (sb w).take i ++ (atS w i :: ((sb w).drop (i + 1) ++ r)) := by
      have e1 := sb_at hi
      have hl : i < (sb w).length := by rw [sb_length]; exact hi
      rw [List.getElem?_eq_getElem hl] at e1
      rw [← List.cons_append, ← Option.some.inj e1, ← List.drop_eq_getElem_cons hl, ← List.append_assoc, List.take_append_drop]
    rw [e] at h
    have := h.app
    rw [List.length_take, sb_length, Nat.min_eq_left (by omega)] at this
    rw [this.take]; exact decide_eq_true rfl
  · have := h.app; rw [sb_length] at this; exact this
-- values
def Goods (c : Int) : Prop := isBlank c = false ∧ c ≠ 93 ∧ c ≠ 125 ∧ c ≠ 44
theorem head_leaf (j : Js) : ∃ c l, leafP j = c :: l ∧ Goods c := by
  unfold leafP
  split
  · exact ⟨_, _, rfl, by unfold Goods; decide⟩
  split
  · exact ⟨_, _, rfl, by unfold Goods; decide⟩
  split
  · unfold numJ
    split
    · exact ⟨_, _, rfl, by unfold Goods; decide⟩
    · obtain ⟨d1, _, c, l, d3, _⟩ := decL_spec j.num.toNat
      obtain ⟨h1, h2⟩ := isDig_le (d1 c (by rw [d3]; exact .head _))
      exact ⟨c, l, d3, by unfold isBlank; rw [decide_eq_false (by omega), decide_eq_false (by omega), decide_eq_false (by omega), decide_eq_false (by omega)]; rfl, by omega, by omega, by omega⟩
  split
  · exact ⟨_, _, rfl, by unfold Goods; decide⟩
  · exact ⟨_, _, rfl, by unfold Goods; decide⟩
theorem head_pr (n : Nat) (j : Js) : ∃ c l, prJ n j = c :: l ∧ Goods c := by
 cases n with
 | zero => exact head_leaf j
 | succ n =>
  unfold prJ
  split
  · exact ⟨_, _, rfl, by unfold Goods; decide⟩
  split
  · exact ⟨_, _, rfl, by unfold Goods; decide⟩
  · exact head_leaf j
theorem leaf_cases {j : Js} (h : leafJ upB j = true) : j.names = [] ∧ j.items = [] ∧ ((j.kind = 3 ∧ j.text = ⟨#[]⟩ ∧ -9007199254740991 ≤ j.num ∧ j.num ≤ 9007199254740991) ∨ (j.kind = 4 ∧ j.num = 0 ∧ upB j.text = true) ∨ ((j.kind = 0 ∨ j.kind = 1 ∨ j.kind = 2) ∧ j.num = 0 ∧ j.text = ⟨#[]⟩)) := by
  unfold leafJ at h
  rw [Bool.and_eq_true, Bool.and_eq_true, decide_eq_true_eq, decide_eq_true_eq] at h
  refine ⟨h.1.1, h.1.2, ?_⟩
  replace h := h.2
  split at h
  · rename_i h3
    simp only [Bool.and_eq_true, decide_eq_true_eq] at h
    exact .inl ⟨h3, h.1, h.2.1, h.2.2⟩
  split at h
  · rename_i _ h4
    simp only [Bool.and_eq_true, decide_eq_true_eq] at h
    exact .inr (.inl ⟨h4, h.1, h.2⟩)
  · simp only [Bool.and_eq_true, Bool.or_eq_true, decide_eq_true_eq] at h
    exact .inr (.inr ⟨by rcases h.2 with (h | h) | h <;> simp [h], h.1.1, h.1.2⟩)
theorem node_cases {j : Js} (h : nodeJ upB j = true) : j.num = 0 ∧ j.text = ⟨#[]⟩ ∧ ((j.kind = 5 ∧ j.names = []) ∨ (j.kind = 6 ∧ j.names.length = j.items.length ∧ risesJ j.names = true)) := by
 unfold nodeJ at h
 simp only [Bool.and_eq_true, Bool.or_eq_true, decide_eq_true_eq] at h
 exact ⟨h.1.1, h.1.2, h.2.imp (fun q => q) (fun q => ⟨q.1, q.2.1, q.2.2.1⟩)⟩
theorem js_eta {j : Js} {k n : Int} {t : ByteArray} {ns : List ByteArray} {l : List Js} (h1 : j.kind = k) (h2 : j.num = n) (h3 : j.text = t) (h4 : j.names = ns) (h5 : j.items = l) : j = .mk k n t ns l := by
 subst h1 h2 h3 h4 h5; cases j; rfl
section
variable {j : Js}
theorem leafP_0 (h : j.kind = 0) : leafP j = [110, 117, 108, 108] := by unfold leafP; rw [if_neg (by omega), if_neg (by omega), if_neg (by omega), if_neg (by omega)]
theorem leafP_1 (h : j.kind = 1) : leafP j = [116, 114, 117, 101] := by unfold leafP; rw [if_pos h]
theorem leafP_2 (h : j.kind = 2) : leafP j = [102, 97, 108, 115, 101] := by unfold leafP; rw [if_neg (by omega), if_pos h]
theorem leafP_3 (h : j.kind = 3) : leafP j = numJ j.num := by unfold leafP; rw [if_neg (by omega), if_neg (by omega), if_pos h]
theorem leafP_4 (h : j.kind = 4) : leafP j = quoJ j.text := by unfold leafP; rw [if_neg (by omega), if_neg (by omega), if_neg (by omega), if_pos h]
theorem prJ_5 {n : Nat} (h : j.kind = 5) : prJ (n + 1) j = 91 :: (commaJ (j.items.map (prJ n)) ++ [93]) := by rw [prJ, if_pos h]
theorem prJ_6 {n : Nat} (h : j.kind = 6) : prJ (n + 1) j = 123 :: (commaJ ((j.names.zip j.items).map fun p => quoJ p.1 ++ (58 :: prJ n p.2)) ++ [125]) := by rw [prJ, if_neg (by omega), if_pos h]
end
theorem leaf_val {s : ByteArray} {k : Nat} {r : List Int} (hr : Tail r) {j : Js} (hj : leafJ upB j = true) (dp : Nat) (rl ro : Except Int (Js × Nat)) (h : Rem s k (leafP j ++ r)) : ∃ k', valB s dp rl ro k = .ok (j, k') ∧ Rem s k' r := by
  have val : ∀ {c : Int} {l : List Int}, Rem s k (c :: l) → valB s dp rl ro k = valC s dp rl ro k c := fun {c l} q => by
    obtain ⟨q1, q2, _⟩ := q.cons
    exact valB_c (fun _ => q2.symm) (fun q3 => by omega)
  have word : ∀ (w : ByteArray) (kd : Int), Rem s k (sb w ++ r) → ∃ k', wordR s w kd k = .ok (leafS kd 0 ⟨#[]⟩, k') ∧ Rem s k' r := fun w kd q => by
    obtain ⟨q1, q2⟩ := Rem.word w q
    exact ⟨_, by unfold wordR; rw [q1, if_pos rfl], q2⟩
  obtain ⟨hn, hi, ⟨h3, ht, h4, h5⟩ | ⟨h3, h4, hu⟩ | ⟨hk, h4, ht⟩⟩ := leaf_cases hj
  · rw [leafP_3 h3] at h
    obtain ⟨k', e1, e2⟩ := Rem.num hr j.num k h4 h5 h
    have hd : ∃ c l, numJ j.num ++ r = c :: l ∧ (c = 45 ∨ (48 ≤ c ∧ c ≤ 57)) := by
      unfold numJ
      split
      · exact ⟨_, _, rfl, .inl rfl⟩
      · obtain ⟨d1, _, c, l, d3, _⟩ := decL_spec j.num.toNat
        exact ⟨c, l ++ r, by rw [d3]; rfl, .inr (isDig_le (d1 c (by rw [d3]; exact .head _)))⟩
    obtain ⟨c, l, e3, e4⟩ := hd
    refine ⟨k', ?_, e2⟩
    rw [val (e3 ▸ h), valC_n e4, e1, js_eta h3 rfl ht hn hi]; rfl
  · rw [leafP_4 h3] at h
    obtain ⟨e0, k', e1, e2⟩ := Rem.quo h
    refine ⟨k', ?_, e2⟩
    rw [val (show Rem s k (34 :: ((sb j.text).flatMap escJ ++ [34] ++ r)) from by unfold quoJ at h; exact h), valC_q rfl]
    unfold quoR
    rw [e1]
    show Except.ok (leafS 4 0 (strOfNums (sb j.text)), k') = _
    rw [strOf_sb, show leafS 4 0 j.text = j from (js_eta h3 h4 rfl hn hi).symm]
  · rcases hk with h3 | h3 | h3
    · rw [leafP_0 h3] at h
      obtain ⟨k', e1, e2⟩ := word ⟨#[110, 117, 108, 108]⟩ 0 h
      exact ⟨k', by rw [val (c := 110) (l := 117 :: 108 :: 108 :: r) h, valC_w0 rfl, e1, show leafS 0 0 ⟨#[]⟩ = j from (js_eta h3 h4 ht hn hi).symm], e2⟩
    · rw [leafP_1 h3] at h
      obtain ⟨k', e1, e2⟩ := word ⟨#[116, 114, 117, 101]⟩ 1 h
      exact ⟨k', by rw [val (c := 116) (l := 114 :: 117 :: 101 :: r) h, valC_w1 rfl, e1, show leafS 1 0 ⟨#[]⟩ = j from (js_eta h3 h4 ht hn hi).symm], e2⟩
    · rw [leafP_2 h3] at h
      obtain ⟨k', e1, e2⟩ := word ⟨#[102, 97, 108, 115, 101]⟩ 2 h
      exact ⟨k', by rw [val (c := 102) (l := 97 :: 108 :: 115 :: 101 :: r) h, valC_w2 rfl, e1, show leafS 2 0 ⟨#[]⟩ = j from (js_eta h3 h4 ht hn hi).symm], e2⟩
abbrev ReadsP (s : ByteArray) (vs : Nat → Except Int (Js × Nat)) (pr : Js → List Int) (ok : Js → Prop) : Prop := ∀ (j : Js) (k : Nat) (r : List Int), ok j → Tail r → Rem s k (pr j ++ r) → ∃ k', vs k = .ok (j, k') ∧ Rem s k' r
theorem tail_c {l : List Int} {c : Int} (h : c = 44 ∨ c = 93 ∨ c = 125) : Tail (c :: l) := .inr ⟨c, l, rfl, h⟩
theorem Rem.items {s : ByteArray} {vs : Nat → Except Int (Js × Nat)} {pr : Js → List Int} {ok : Js → Prop} (hv : ReadsP s vs pr ok) (hh : ∀ j, ∃ c l, pr j = c :: l ∧ Goods c) : ∀ (x : Js) (l : List Js) (f k : Nat) (st : List Js) (r : List Int), ok x → (∀ y ∈ l, ok y) → Rem s k (commaJ ((x :: l).map pr) ++ (93 :: r)) → s.size - k < f → ∃ k', memL s (oneL vs) 93 f k st = .ok (st ++ x :: l, k') ∧ Rem s k' r
 | _, _, 0, _, _, _, _, _, _, hf => by omega
 | x, l, f + 1, k, st, r, hx, hl, h, hf => by
  obtain ⟨c, e, h1, h2⟩ := hh x
  have hb : blankS s k = k := by
   rw [List.map_cons, commaJ, h1, List.cons_append, List.cons_append] at h
   exact h.blank h2.1
  rw [List.map_cons, commaJ, List.append_assoc] at h
  cases l with
  | nil =>
   obtain ⟨k', e1, e2⟩ := hv x k (93 :: r) hx (tail_c (by decide)) h
   refine ⟨k' + 1, memL_0 hb.symm (st' := st ++ [x]) (k2 := k') (by unfold oneL; rw [e1]) (e2.blank (by decide)).symm (by rw [e2.take]; rfl) rfl, e2.cons.2.2⟩
  | cons y l =>
   rw [List.map_cons, List.flatMap_cons, List.append_assoc, List.cons_append] at h
   obtain ⟨k', e1, e2⟩ := hv x k _ hx (tail_c (by decide)) h
   obtain ⟨p1, p2, p3⟩ := e2.cons
   have hk : k < k' := by
    have e4 := (Rem.cons (show Rem s k (c :: (e ++ _)) from by rw [h1, List.cons_append] at h; exact h)).1
    have l1 := congrArg List.length h.2
    have l2 := congrArg List.length e2.2
    rw [List.length_drop, sb_length] at l1 l2
    rw [List.length_append, h1, List.length_cons] at l1
    omega
   obtain ⟨k2, e3, e4⟩ := Rem.items hv hh y l f (k' + 1) (st ++ [x]) r (hl y (.head _)) (fun z hz => hl z (.tail _ hz)) (by rw [List.map_cons, commaJ, List.append_assoc]; exact p3) (by omega)
   exact ⟨k2, by rw [memL_c hb.symm (st' := st ++ [x]) (k2 := k') (by unfold oneL; rw [e1]) (e2.blank (by decide)).symm (by rw [e2.take]; rfl) (by rw [e2.take]; rfl) rfl, e3, List.append_assoc]; rfl, e4⟩
theorem Rem.list {s : ByteArray} {vs : Nat → Except Int (Js × Nat)} {pr : Js → List Int} {ok : Js → Prop} (hv : ReadsP s vs pr ok) (hh : ∀ j, ∃ c l, pr j = c :: l ∧ Goods c) (l : List Js) (k : Nat) (r : List Int) (hl : ∀ y ∈ l, ok y) (h : Rem s k (91 :: (commaJ (l.map pr) ++ [93]) ++ r)) : ∃ k', listS s vs k = .ok (.mk 5 0 ⟨#[]⟩ [] l, k') ∧ Rem s k' r := by
 rw [List.cons_append, List.append_assoc] at h
 obtain ⟨q1, q2, q3⟩ := h.cons
 have : ∃ k', memS s (oneL vs) 93 k [] = .ok (l, k') ∧ Rem s k' r := by
  cases l with
  | nil => exact ⟨k + 1 + 1, memS_0 rfl (Rem.blank q3 (by decide)).symm (by rw [Rem.take q3]; rfl) rfl, (Rem.cons q3).2.2⟩
  | cons x l =>
   obtain ⟨c, e, h1, h2⟩ := hh x
   have q4 : Rem s (k + 1) (c :: (e ++ ((l.map pr).flatMap (fun y => 44 :: y) ++ (93 :: r)))) := by
    rw [List.map_cons, commaJ, h1, List.cons_append, List.cons_append, List.append_assoc] at q3; exact q3
   obtain ⟨k', e1, e2⟩ := Rem.items hv hh x l (s.size + 1) (k + 1) [] r (hl x (.head _)) (fun y hy => hl y (.tail _ hy)) q3 (by omega)
   exact ⟨k', by rw [memS_1 rfl (q4.blank h2.1).symm (by rw [q4.take]; exact decide_eq_false h2.2.1), e1]; rfl, e2⟩
 obtain ⟨k', e1, e2⟩ := this
 exact ⟨k', by unfold listS; rw [e1], e2⟩
theorem lbT_end {x : ByteArray} {l : List ByteArray} (h : ∀ a ∈ l, sless a x = true) : lbT x l = l.length := lbT_eq (Nat.le_refl _) (fun q a _ hq => h a (List.mem_of_getElem? hq)) (fun a ha => by rw [List.getElem?_eq_none (Nat.le_refl _)] at ha; cases ha)
theorem insA_end {α : Type} (x : α) (l : List α) : insA l.length x l = l ++ [x] := by unfold insA; simp
theorem Rem.pairs {s : ByteArray} {vs : Nat → Except Int (Js × Nat)} {pr : Js → List Int} {ok : Js → Prop} (hv : ReadsP s vs pr ok) (hh : ∀ j, ∃ c l, pr j = c :: l ∧ Goods c) : ∀ (x : ByteArray × Js) (l : List (ByteArray × Js)) (f k : Nat) (st : StO) (r : List Int), st.1.length = st.2.length → ok x.2 → (∀ y ∈ l, ok y.2) → Rises (st.1 ++ (x :: l).map Prod.fst) → Rem s k (commaJ ((x :: l).map fun p => quoJ p.1 ++ (58 :: pr p.2)) ++ (125 :: r)) → s.size - k < f → ∃ k', memL s (pairS s vs) 125 f k st = .ok ((st.1 ++ (x :: l).map Prod.fst, st.2 ++ (x :: l).map Prod.snd), k') ∧ Rem s k' r
 | _, _, 0, _, _, _, _, _, _, _, _, hf => by omega
 | x, l, f + 1, k, st, r, hsl, hx, hl, hr, h, hf => by
  obtain ⟨c, e, h1, h2⟩ := hh x.2
  have hb : blankS s k = k := by
   rw [List.map_cons, commaJ, quoJ, List.cons_append, List.cons_append, List.cons_append] at h
   exact h.blank (by decide)
  rw [List.map_cons, commaJ, List.append_assoc, List.append_assoc, List.cons_append] at h
  obtain ⟨p1, k1, p2, p3⟩ := Rem.quo h
  obtain ⟨p4, p5, p6⟩ := p3.cons
  have hlt : ∀ a ∈ st.1, sless a x.1 = true := fun a ha => (List.pairwise_append.1 hr).2.2 a ha x.1 (.head _)
  have hn : ¬ st.1[st.1.length]? = some x.1 := by rw [List.getElem?_eq_none (Nat.le_refl _)]; intro q; cases q
  have hb4 : blankS s (k1 + 1) = k1 + 1 := by
   rw [h1, List.cons_append] at p6; exact p6.blank h2.1
  have pair : ∀ {k5 : Nat}, vs (k1 + 1) = .ok (x.2, k5) → pairS s vs k st = .ok ((st.1 ++ [x.1], st.2 ++ [x.2]), k5) := fun {k5} q => by
   rw [pairS_n p1 p2 (nm := x.1) (strOf_sb _).symm, pairN_k (lbT_end hlt).symm hn (p3.blank (by decide)).symm (by rw [p3.take]; rfl) rfl hb4.symm q, insA_end, hsl, insA_end]
  have hkk : k < k1 + 1 := by
   have l1 := congrArg List.length h.2
   have l2 := congrArg List.length p3.2
   rw [List.length_drop, sb_length] at l1 l2
   rw [List.length_append] at l1
   omega
  cases l with
  | nil =>
   obtain ⟨k', e1, e2⟩ := hv x.2 (k1 + 1) (125 :: r) hx (tail_c (by decide)) p6
   exact ⟨k' + 1, memL_0 hb.symm (pair e1) (e2.blank (by decide)).symm (by rw [e2.take]; rfl) rfl, e2.cons.2.2⟩
  | cons y l =>
   rw [List.map_cons, List.flatMap_cons, List.append_assoc, List.cons_append] at p6
   obtain ⟨k', e1, e2⟩ := hv x.2 (k1 + 1) _ hx (tail_c (by decide)) p6
   obtain ⟨q1, q2, q3⟩ := e2.cons
   have hk : k1 + 1 ≤ k' := by
    have l1 := congrArg List.length p6.2
    have l2 := congrArg List.length e2.2
    rw [List.length_drop, sb_length] at l1 l2
    rw [List.length_append] at l1
    omega
   obtain ⟨k2, e3, e4⟩ := Rem.pairs hv hh y l f (k' + 1) (st.1 ++ [x.1], st.2 ++ [x.2]) r (by simp [hsl]) (hl y (.head _)) (fun z hz => hl z (.tail _ hz)) (by simpa using hr) (by rw [List.map_cons, commaJ, List.append_assoc]; exact q3) (by omega)
   refine ⟨k2, ?_, e4⟩
   rw [memL_c hb.symm (pair e1) (e2.blank (by decide)).symm (by rw [e2.take]; rfl) (by rw [e2.take]; rfl) rfl, e3]
   simp
theorem Rem.obj {s : ByteArray} {vs : Nat → Except Int (Js × Nat)} {pr : Js → List Int} {ok : Js → Prop} (hv : ReadsP s vs pr ok) (hh : ∀ j, ∃ c l, pr j = c :: l ∧ Goods c) (l : List (ByteArray × Js)) (k : Nat) (r : List Int) (hl : ∀ y ∈ l, ok y.2) (hr : Rises (l.map Prod.fst)) (h : Rem s k (123 :: (commaJ (l.map fun p => quoJ p.1 ++ (58 :: pr p.2)) ++ [125]) ++ r)) : ∃ k', objS s vs k = .ok (.mk 6 0 ⟨#[]⟩ (l.map Prod.fst) (l.map Prod.snd), k') ∧ Rem s k' r := by
 rw [List.cons_append, List.append_assoc] at h
 obtain ⟨q1, q2, q3⟩ := h.cons
 have : ∃ k', memS s (pairS s vs) 125 k ([], []) = .ok ((l.map Prod.fst, l.map Prod.snd), k') ∧ Rem s k' r := by
  cases l with
  | nil => exact ⟨k + 1 + 1, memS_0 rfl (Rem.blank q3 (by decide)).symm (by rw [Rem.take q3]; rfl) rfl, (Rem.cons q3).2.2⟩
  | cons x l =>
   have q4 : ∃ e, Rem s (k + 1) (34 :: e) := by
    rw [List.map_cons, commaJ, quoJ, List.cons_append, List.cons_append, List.cons_append] at q3; exact ⟨_, q3⟩
   obtain ⟨e, q4⟩ := q4
   obtain ⟨k', e1, e2⟩ := Rem.pairs hv hh x l (s.size + 1) (k + 1) ([], []) r rfl (hl x (.head _)) (fun y hy => hl y (.tail _ hy)) (by simpa using hr) q3 (by omega)
   exact ⟨k', by rw [memS_1 rfl (q4.blank (by decide)).symm (by rw [q4.take]; rfl), e1]; rfl, e2⟩
 obtain ⟨k', e1, e2⟩ := this
 exact ⟨k', by unfold objS; rw [e1], e2⟩
theorem leaf_pr {n : Nat} {j : Js} (h : leafJ upB j = true) : prJ n j = leafP j := by
 have := leaf_kind h
 cases n with
 | zero => rfl
 | succ n => unfold prJ; rw [if_neg (fun q => this (.inl q)), if_neg (fun q => this (.inr q))]
theorem read_pr (s : ByteArray) : ∀ m, m ≤ 12 → ReadsP s (valD s m) (prJ m) (fun j => rightJ upB m j = true)
  | 0, _ => fun j k r hj hr h => leaf_val hr hj 12 _ _ h
  | m + 1, hm => fun j k r hj hr h => by
    have ih := read_pr s m (by omega)
    replace hj : rightJ upB (m + 1) j = true := hj
    rw [rightJ, Bool.or_eq_true] at hj
    rcases hj with hj | hj
    · rw [leaf_pr hj] at h; exact leaf_val hr hj _ _ _ h
    · rw [Bool.and_eq_true, List.all_eq_true] at hj
      obtain ⟨hn, hi⟩ := hj
      have hd : ¬ 12 - (m + 1) = 12 := by omega
      have val : ∀ {c : Int} {l : List Int} (rl ro : Except Int (Js × Nat)), Rem s k (c :: l) → valB s (12 - (m + 1)) rl ro k = valC s (12 - (m + 1)) rl ro k c := fun {c l} rl ro q => by
        obtain ⟨q1, q2, _⟩ := q.cons
        exact valB_c (fun _ => q2.symm) (fun q3 => by omega)
      obtain ⟨h0, ht, ⟨hk, hns⟩ | ⟨hk, hlen, hri⟩⟩ := node_cases hn
      · rw [prJ_5 hk] at h
        obtain ⟨k', e1, e2⟩ := Rem.list ih (head_pr m) j.items k r hi h
        refine ⟨k', ?_, e2⟩
        show valB s _ _ _ k = _
        rw [val _ _ (show Rem s k (91 :: (commaJ (j.items.map (prJ m)) ++ [93] ++ r)) from h), valC_l rfl]
        unfold nestS
        rw [if_neg hd, e1, ← js_eta hk h0 ht hns rfl]
      · rw [prJ_6 hk] at h
        have z1 : (j.names.zip j.items).map Prod.fst = j.names := List.map_fst_zip (by omega)
        have z2 : (j.names.zip j.items).map Prod.snd = j.items := List.map_snd_zip (by omega)
        obtain ⟨k', e1, e2⟩ := Rem.obj ih (head_pr m) (j.names.zip j.items) k r (fun y hy => hi y.2 (List.of_mem_zip hy).2) (by rw [z1]; exact rises_of_J hri) h
        rw [z1, z2] at e1
        refine ⟨k', ?_, e2⟩
        show valB s _ _ _ k = _
        rw [val _ _ (show Rem s k (123 :: (commaJ ((j.names.zip j.items).map fun p => quoJ p.1 ++ (58 :: prJ m p.2)) ++ [125] ++ r)) from h), valC_o rfl]
        unfold nestS
        rw [if_neg hd, e1, ← js_eta hk h0 ht rfl rfl]
def textJ (j : Js) : List Int := prJ 12 j
theorem par_pr {s : ByteArray} {j : Js} (hj : rightJ upB 12 j = true) (hs : sb s = textJ j) (hz : s.size ≤ 8192) (hu : upB s = true) : parJ s = .ok j := by
 have h0 : Rem s 0 (textJ j ++ []) := ⟨Nat.zero_le _, by rw [List.append_nil, ← hs]; rfl⟩
 obtain ⟨k', e1, e2⟩ := read_pr s 12 (Nat.le_refl _) j 0 [] hj (.inl rfl) h0
 obtain ⟨c, l, h1, h2⟩ := head_pr 12 j
 have hb : blankS s 0 = 0 := by
  unfold textJ at h0
  rw [h1] at h0
  exact h0.blank h2.1
 have hk := e2.nil
 exact parS_t (by omega) hu rfl hb.symm e1 rfl (by rw [e2.blank0, hk]; exact Nat.le_refl _)

def CB (P : Program) (F : FuncId) (args : List Value) (w w1 : World) (R : Value → World → Prop) : Prop := Calls P F args.toArray w1 fun e w' => ∃ v, e = .returned v ∧ R v w' ∧ Below w.heap.size w w'
theorem cb_enter {P : Program} {F : FuncId} {fn : Func} {body : Code} {w w1 : World} {R : Value → World → Prop} {N : Nat} {vs : List Value} (hf : P.funcs[F]? = some fn) (hb : fn.body = some body) (hn : fn.ntmps = N) (hN : decide (vs.length ≤ N) = true) {f : Fl}
  (hfr : (vs.zipIdx.map fun p => (p.2, p.1)) = f) (h : ∀ Q : Exit → Act → World → Prop, (∀ {a W}, finV P fn R w a W → Q .ret a W) → (∀ {a W}, finV P fn R w a W → Q .normal a W) → WC P N body Q f w1) : CB P F vs w w1 R :=
 calls_sx vs f hf hb hn hN hfr.symm (h _ (fun {a W} ⟨h1, v, h2, h3, h4⟩ => ⟨h1, v, h2, v, rfl, h3, h4⟩) (fun {a W} ⟨h1, v, h2, h3, h4⟩ => ⟨h1, v, h2, v, rfl, h3, h4⟩))
theorem CB.mono {P : Program} {F : FuncId} {args : List Value} {w w1 : World} {R R' : Value → World → Prop} (h : CB P F args w w1 R) (hr : ∀ v w', Below w.heap.size w w' → R v w' → R' v w') : CB P F args w w1 R' :=
 Calls.mono h fun e w' ⟨v, he, hR, hb⟩ => ⟨v, he, hr v w' hb hR, hb⟩
section
variable {P : Program} {ops : Array Oper} {o : Oper} {N : Nat} {f : Fl} {w w0 : World} {R : Value → World → Prop} {fn : Func}
theorem cv_ret0 (h : fn.results = #[]) (hR : R (.tuple #[]) w) (hb : Below w0.heap.size w0 w) {a : Act} (ha : Fr N a f) : finV P fn R w0 a w := by
 obtain ⟨x, v, hv, v', he, h1, h2⟩ := fn0 (P := P) (Rr := fun e w' => ∃ v, e = .returned v ∧ R v w' ∧ Below w0.heap.size w0 w') h ⟨_, rfl, hR, hb⟩ ha
 cases he
 exact ⟨x, _, hv, h1, h2⟩
theorem dx_cb {F : FuncId} {fn : Func} {xs : List Operand} {ts : Array TypeId} {vs : List Value} (ho : o.op = .call { callee := .value (.func F), args := xs.toArray, argTypes := ts }) (hf : P.funcs[F]? = some fn) (hn : (fn.name == "runtime.NumGoroutine") = false) (hb : fn.body.isNone = false)
  (hx : evl f xs = some vs) (hc : CB P F vs w0 w R) (hw : wantF ops o f = some true := by rfl) : DR P ops o N f w fun v W => R v W ∧ Below w0.heap.size w0 W :=
 dx_call (cap := #[]) ho rfl hf hn hb hx (by rw [Array.append_empty]; exact Calls.mono hc fun e w' ⟨v, he, h⟩ => ⟨v, he, h⟩) hw
end
theorem EmbAt.below {b P : Nat} {p : Value} {bs : List Value} {m : Int} {w w' : World} (h : EmbAt b P p bs m w) (k : Below w.heap.size w w') : EmbAt b P p bs m w' := by
 obtain ⟨hB, v, hb, hown, hne⟩ := h
 refine ⟨hB, v, (k.block P (emb_lt hb)).trans hb, ?_, hne⟩
 exact hown.kept (row := none) ⟨k.os, k.tape, k.output, k.size, fun i hi _ => k.block i hi⟩ (by
  rcases hv : v.ownBlock with _ | q
  · exact .inl rfl
  · exact .inr (by simp))
theorem PrS.below {b P : Nat} {l : List Int} {m : Int} {w w' : World} (h : PrS b P l m w) (k : Below w.heap.size w w') : PrS b P l m w' := ⟨h.1, h.2.imp (·.below k) (·.below k)⟩
theorem PrS.blk {b P : Nat} {l : List Int} {m : Int} {w : World} (h : PrS b P l m w) : ∃ p v, Blk w P [p, v, .int .i64 m] ∧ p.oneCell' = true ∧ v.oneCell' = true := by
 rcases h.2 with ⟨_, v, hb, hown, _⟩ | ⟨_, v, hb, hown, _⟩
 all_goals
  have hv : v.oneCell' = true := by
   rcases hown.2 with ⟨rfl, _⟩ | ⟨g, cap, cur, rfl, _⟩ <;> rfl
  exact ⟨_, v, ⟨47, hb⟩, rfl, hv⟩
theorem wbyte_v (P : Nat) (l : List Int) (m c : Int) (w w1 : World) (hB : Below w.heap.size w w1) (h : PrS w.heap.size P l m w1) (hl : l.length ≤ 1000000000000) (h0 : 0 ≤ c) (h1 : c ≤ 255) : CB Tryz.prog 61 [selfP P, .int .u8 c] w w1 fun v W => v = .nilIface ∧ PrS w.heap.size P (l ++ [c]) m W :=
 (wbyte_e c h.2 (by rw [List.length_map]; omega) hB.size).mono fun e w' ⟨he, h2, h3⟩ => ⟨_, he, ⟨rfl, h.1.append (fun x hx => by rw [List.mem_singleton.1 hx]; exact ⟨h0, h1⟩), .inr (by rw [List.map_append]; exact h2)⟩, hB.trans h3⟩
theorem strCells_sb (s : ByteArray) : Lib.strCells s = (sb s).map fun n => Value.int .u8 n := by
 unfold Lib.strCells sb
 rw [List.map_map]; rfl
theorem wstr_v (P : Nat) (l : List Int) (m : Int) (s : ByteArray) (w w1 : World) (hB : Below w.heap.size w w1) (h : PrS w.heap.size P l m w1) (hl : l.length ≤ 1000000000000) (hs : s.size ≤ 1000000000000) : CB Tryz.prog 34 [selfP P, .string s] w w1 fun v W => v = .tuple #[.int .i64 (s.size : Int), .nilIface] ∧ PrS w.heap.size P (l ++ sb s) m W :=
 (wstr_e s h.2 (by rw [List.length_map]; omega) hB.size).mono fun e w' ⟨he, h2, h3⟩ => ⟨_, he, ⟨rfl, h.1.append (sb_bytes s), .inr (by rw [List.map_append, ← strCells_sb]; exact h2)⟩, hB.trans h3⟩
theorem blen_v (b P : Nat) (l : List Int) (m : Int) (w : World) (h : PrS b P l m w) : CV Tryz.prog 38 [selfP P] w fun v W => v = .int .i64 (l.length : Int) := by
 have e : ∀ p, EmbAt b P p (l.map fun n => Value.int .u8 n) m w → CV Tryz.prog 38 [selfP P] w fun v W => v = .int .i64 (l.length : Int) := fun p k =>
  (blen_e k).mono fun e w' ⟨he, hw⟩ => ⟨_, he, by rw [List.length_map], by rw [hw]; exact Below.refl _ _⟩
 exact h.2.elim (e _) (e _)
theorem bstr_v (P : Nat) (l : List Int) (m : Int) (w w1 : World) (hB : Below w.heap.size w w1) (h : PrS w.heap.size P l m w1) (h0 : l ≠ []) : CB Tryz.prog 18 [selfP P] w w1 fun v W => v = .string (strOfNums l) := by
 have hl : (l.map fun n => Value.int .u8 n) = Lib.byteCells (sb (strOfNums l) |>.map fun n => UInt8.ofNat n.toNat) := by
  rw [sb_strOf h.1]
  unfold Lib.byteCells
  rw [List.map_map]
  refine List.map_congr_left fun n hn => ?_
  have := h.1 n hn
  simp only [Function.comp]
  rw [show (UInt8.ofNat n.toNat).toNat = n.toNat from by rw [UInt8.toNat_ofNat']; omega]
  congr 1; omega
 have hs : (⟨((sb (strOfNums l)).map fun n => UInt8.ofNat n.toNat).toArray⟩ : ByteArray) = strOfNums l := by
  apply sb_inj
  rw [show sb ⟨((sb (strOfNums l)).map fun n => UInt8.ofNat n.toNat).toArray⟩ = ((sb (strOfNums l)).map fun n => UInt8.ofNat n.toNat).map (fun c => (c.toNat : Int)) from by simp [sb], List.map_map]
  conv => rhs; rw [← List.map_id (sb (strOfNums l))]
  refine List.map_congr_left fun n hn => ?_
  have := sb_bytes _ n hn
  simp only [Function.comp, id]
  rw [UInt8.toNat_ofNat']; omega
 have hne : ((sb (strOfNums l)).map fun n => UInt8.ofNat n.toNat) ≠ [] := by
  rw [sb_strOf h.1]
  cases l with
  | nil => exact absurd rfl h0
  | cons a b => simp
 have e : ∀ p, EmbAt w.heap.size P p (l.map fun n => Value.int .u8 n) m w1 → CB Tryz.prog 18 [selfP P] w w1 fun v W => v = .string (strOfNums l) := fun p k => by
  rw [hl] at k
  exact (bstr_e _ k hne).mono fun e w' ⟨he, hw⟩ => ⟨_, he, by rw [hs], hB.trans hw⟩
 exact h.2.elim (e _) (e _)
def PrK (most K : Int) (b x b' : List Int) : Prop := ((((b.length : Int) + x.length ≤ most) ∧ b' = b ++ x) ∨ (most < (b.length : Int) + x.length ∧ most < (b'.length : Int))) ∧ (b'.length : Int) ≤ max (b.length : Int) most + K
section
variable {most K K2 : Int} {b x y b1 b2 : List Int}
theorem prK_exact (h : b1 = b ++ x) (hk : (x.length : Int) ≤ K) : PrK most K b x b1 := by
 subst h
 refine ⟨?_, by rw [List.length_append]; omega⟩
 by_cases h : (b.length : Int) + x.length ≤ most
 · exact .inl ⟨h, rfl⟩
 · exact .inr ⟨by omega, by rw [List.length_append]; omega⟩
theorem prK_then (h : PrK most K b x b1) (k : PrK most K2 b1 y b2) (h0 : 0 ≤ K) (h2 : 0 ≤ K2) : PrK most (K + K2) b (x ++ y) b2 := by
  obtain ⟨h1, hb⟩ := h
  obtain ⟨k1, kb⟩ := k
  refine ⟨?_, by omega⟩
  rw [List.length_append]
  rcases h1 with ⟨a, rfl⟩ | ⟨a, a2⟩
  · rw [List.length_append] at k1
    rcases k1 with ⟨c, rfl⟩ | ⟨c, c2⟩
    · exact .inl ⟨by omega, by rw [List.append_assoc]⟩
    · exact .inr ⟨by omega, c2⟩
  · rcases k1 with ⟨c, rfl⟩ | ⟨c, c2⟩
    · exact .inr ⟨by omega, by rw [List.length_append]; omega⟩
    · exact .inr ⟨by omega, c2⟩
theorem prK_stop (h : PrK most K b x b1) (hf : most < (b1.length : Int)) : PrK most K b (x ++ y) b1 := by
 obtain ⟨h1, hb⟩ := h
 refine ⟨.inr ⟨?_, hf⟩, hb⟩
 rw [List.length_append]
 rcases h1 with ⟨a, rfl⟩ | ⟨a, a2⟩
 · rw [List.length_append] at hf; omega
 · omega
theorem prK_go (h : PrK most K b x b1) (hf : ¬ most < (b1.length : Int)) : b1 = b ++ x ∧ (b.length : Int) + x.length ≤ most := by
 rcases h.1 with ⟨a, rfl⟩ | ⟨a, a2⟩
 · exact ⟨rfl, a⟩
 · exact absurd a2 hf
theorem prK_pre (e : b1 = b ++ x) (hm : (b1.length : Int) ≤ most) (k : PrK most K b1 y b2) : PrK most K b (x ++ y) b2 := by
 subst e
 obtain ⟨k1, kb⟩ := k
 rw [List.length_append] at *
 refine ⟨?_, by omega⟩
 rw [List.length_append]
 rcases k1 with ⟨c, rfl⟩ | ⟨c, c2⟩
 · exact .inl ⟨by omega, by rw [List.append_assoc]⟩
 · exact .inr ⟨by omega, c2⟩
theorem prK_le (h : PrK most K b x b1) (hk : K ≤ K2) : PrK most K2 b x b1 := ⟨h.1, by have := h.2; omega⟩
end
theorem ty_fld_47_0_0 : fldB Tryz.prog 47 0 0 = true := by kernel_rfl
theorem ty_fld_47_1_2 : fldB Tryz.prog 47 1 2 = true := by kernel_rfl
set_option maxHeartbeats 1000000 in
theorem full_v (P : Nat) (l : List Int) (m : Int) (w w1 : World) (hB : Below w.heap.size w w1) (hst : PrS w.heap.size P l m w1)  : CB Tryz.prog 17 [.pointer (some ⟨P, 0, none⟩)] w w1 fun v W => v = .bool (decide (m < (l.length : Int))) ∧ PrS w.heap.size P l m W := by
 refine cb_enter (N := 12) (f := [(0, .pointer (some ⟨P, 0, none⟩))]) Tryz.func17 rfl rfl rfl rfl fun Q hQ hE => ?_
 have hL := LL.nil w1
 refine Sq fun K1 hK1 => (Rg (Pu rfl (Ni (hK1 (Sq fun K2 hK2 => ?_)))))
 obtain ⟨p_, v_, hbk, hp_, hv_⟩ := hst.blk
 refine dM 8 [(some 3, .is (.pointer (some ⟨P, 0, none⟩))), (some 4, .is (.pointer (some ⟨P, 0, none⟩))), (some 5, .is (.pointer (some ⟨P, 0, none⟩))), (some 6, .is (.int .i64 (l.length : Int))), (some 7, .is (.pointer (some ⟨P, 0, none⟩))), (some 8, .is (.pointer (some ⟨P, 0, none⟩))), (some 9, .is (.pointer (some ⟨P, 2, none⟩))), (some 10, .is (.int .i64 m))] [[], [0], [1], [2], [], [4], [5], [6]] (by exact trivial) ?_ ?_
 ·
  refine Dc (fun Wd hd => ?_) ?_
  ·
   exact Dd (dx_move rfl rfl) rfl
  refine Dc (fun Wd hd => ?_) ?_
  ·
   exact Dd (dx_nilCheck rfl rfl) rfl
  refine Dc (fun Wd hd => ?_) ?_
  ·
   exact Dd (dx_fld (o1 := 0) rfl ty_fld_47_0_0 rfl rfl) rfl
  refine Dc (fun Wd hd => ?_) ?_
  ·
   have hst := hst.below hd
   exact DR.mono (dx_cv rfl Tryz.func38 rfl rfl rfl (blen_v w.heap.size P l m Wd hst)) (fun v W' ⟨h, hb⟩ => ⟨hb, (by rw [h]; exact rfl)⟩)
  refine Dc (fun Wd hd => ?_) ?_
  ·
   exact Dd (dx_move rfl rfl) rfl
  refine Dc (fun Wd hd => ?_) ?_
  ·
   exact Dd (dx_nilCheck rfl rfl) rfl
  refine Dc (fun Wd hd => ?_) ?_
  ·
   exact Dd (dx_fld (o1 := 2) rfl ty_fld_47_1_2 rfl rfl) rfl
  refine Dc (fun Wd hd => ?_) ?_
  ·
   have hbk := hbk.below hd
   exact Dd (dx_load rfl ty_one_3 rfl (hbk.cell (k := 2) rfl)) rfl
  exact trivial
 ·
  intro W3 b4
  replace hst := hst.below b4
  replace hB := below_then hB b4
  refine Va (dx_gtr rfl rfl rfl) rfl rfl (Pu rfl (Ni (hK2 ?_)))
  exact WC.ret fun a_ ha_ => hQ (cv_ret1 rfl (.tmp rfl) ⟨rfl, hst⟩ hB ha_)

theorem hex_at {c : Int} (h0 : 0 ≤ c) (h : c < 16) : atS ⟨#[48, 49, 50, 51, 52, 53, 54, 55, 56, 57, 97, 98, 99, 100, 101, 102]⟩ c.toNat = hexL c := by
 obtain ⟨n, rfl⟩ : ∃ n : Nat, c = (n : Int) := ⟨c.toNat, by omega⟩
 have hn : n < 16 := by omega
 rw [Int.toNat_natCast]
 match n, hn with
 | 0, _ => rfl | 1, _ => rfl | 2, _ => rfl | 3, _ => rfl | 4, _ => rfl | 5, _ => rfl | 6, _ => rfl | 7, _ => rfl | 8, _ => rfl | 9, _ => rfl | 10, _ => rfl | 11, _ => rfl | 12, _ => rfl | 13, _ => rfl | 14, _ => rfl | 15, _ => rfl
theorem hexL_le {c : Int} (h0 : 0 ≤ c) (h : c < 16) : 0 ≤ hexL c ∧ hexL c ≤ 255 := by unfold hexL; split <;> omega
section
variable {c : Int}
theorem esc_p (h1 : 32 ≤ c) (h2 : ¬ c = 34) (h3 : ¬ c = 92) : escJ c = [c] := by
 unfold escJ; rw [if_neg (by omega), if_neg (by omega), if_neg (by omega), if_neg (by omega), if_neg (by omega), if_neg (by omega), if_neg (by omega)]
theorem esc_len : (escJ c).length ≤ 6 := by unfold escJ; (repeat' split) <;> simp
end
theorem u8_and_15 {c : Int} (h0 : 0 ≤ c) (h : c ≤ 255) : bits BinOp.and .u8 c 15 = c % 16 := by
 have q : ∀ n : Fin 256, bits BinOp.and .u8 (n.val : Int) 15 = (n.val : Int) % 16 := by decide +kernel
 have := q ⟨c.toNat, by omega⟩
 simp only at this
 rwa [Int.toNat_of_nonneg h0] at this
set_option maxHeartbeats 1000000 in
theorem pesc_v (P : Nat) (l : List Int) (m c : Int) (w w1 : World) (hB : Below w.heap.size w w1) (hst : PrS w.heap.size P l m w1) (hlen : l.length ≤ 10000000000) (hc0 : 0 ≤ c) (hc : c < 32 ∨ c = 34 ∨ c = 92) : CB Tryz.prog 62 [.pointer (some ⟨P, 0, none⟩), .int .u8 c] w w1 fun v W => v = .tuple #[] ∧ PrS w.heap.size P (l ++ escJ c) m W := by
 refine cb_enter (N := 65) (f := [(0, .pointer (some ⟨P, 0, none⟩)), (1, .int .u8 c)]) Tryz.func62 rfl rfl rfl rfl fun Q hQ hE => ?_
 have hL := LL.nil w1
 refine Sq fun K1 hK1 => (Rg (Pu rfl (Va (dx_nilCheck rfl rfl) rfl rfl (Va (dx_fld (o1 := 0) rfl ty_fld_47_0_0 rfl rfl) rfl rfl ?_))))
 refine Ge (dx_cb rfl Tryz.func61 rfl rfl rfl (wbyte_v P l m 92 w w1 hB hst (by (try simp only [List.length_append, List.length_cons, List.length_nil]); omega) (by omega) (by omega))) rfl rfl ?_
 rintro _ W2 ⟨⟨rfl, hst⟩, hB⟩
 have hL := LL.nil W2
 refine Ni (hK1 (Sq fun K3 hK3 => (Rg (Pu rfl (Ni (hK3 (WC.block ?_)))))))
 refine Sq fun K4 hK4 => (Sq fun K5 hK5 => (Rg (Va (dx_eql rfl rfl rfl) rfl rfl (Pu rfl (Ni (hK5 ?_))))))
 refine WC.cond rfl (fun c6 => ?_) (fun c6 => ?_)
 ·
  replace c6 := dT c6
  refine WC.skip (hK4 ?_)
  refine WC.cond rfl (fun c7 => ?_) (fun c7 => ?_)
  ·
   replace c7 := dT c7
   refine Rg (Pu rfl (Va (dx_nilCheck rfl rfl) rfl rfl (Va (dx_fld (o1 := 0) rfl ty_fld_47_0_0 rfl rfl) rfl rfl (Pu rfl ?_))))
   refine Ge (dx_cb rfl Tryz.func61 rfl rfl rfl (wbyte_v P (l ++ [92]) m c w W2 hB hst (by (try simp only [List.length_append, List.length_cons, List.length_nil]); omega) (by omega) (by omega))) rfl rfl ?_
   rintro _ W8 ⟨⟨rfl, hst⟩, hB⟩
   have hL := LL.nil W8
   refine Ni ?_
   intro a_ ha_
   exact hE (cv_ret0 rfl  ⟨rfl, (show l ++ escJ c = (l ++ [92]) ++ [c] from by unfold escJ; (repeat' split) <;> first | omega | (simp [sb]; done)) ▸ hst⟩ hB ha_)
  ·
   replace c7 := dF c7
   refine Sq fun K9 hK9 => (Rg (Va (dx_eql rfl rfl rfl) rfl rfl (Pu rfl (Ni (hK9 ?_)))))
   refine WC.cond rfl (fun c10 => ?_) (fun c10 => ?_)
   ·
    replace c10 := dT c10
    refine Rg (Pu rfl (Va (dx_nilCheck rfl rfl) rfl rfl (Va (dx_fld (o1 := 0) rfl ty_fld_47_0_0 rfl rfl) rfl rfl ?_)))
    refine Ge (dx_cb rfl Tryz.func61 rfl rfl rfl (wbyte_v P (l ++ [92]) m 98 w W2 hB hst (by (try simp only [List.length_append, List.length_cons, List.length_nil]); omega) (by omega) (by omega))) rfl rfl ?_
    rintro _ W11 ⟨⟨rfl, hst⟩, hB⟩
    have hL := LL.nil W11
    refine Ni ?_
    intro a_ ha_
    exact hE (cv_ret0 rfl  ⟨rfl, (show l ++ escJ c = (l ++ [92]) ++ [98] from by unfold escJ; (repeat' split) <;> first | omega | (simp [sb]; done)) ▸ hst⟩ hB ha_)
   ·
    replace c10 := dF c10
    refine Sq fun K12 hK12 => (Rg (Va (dx_eql rfl rfl rfl) rfl rfl (Pu rfl (Ni (hK12 ?_)))))
    refine WC.cond rfl (fun c13 => ?_) (fun c13 => ?_)
    ·
     replace c13 := dT c13
     refine Rg (Pu rfl (Va (dx_nilCheck rfl rfl) rfl rfl (Va (dx_fld (o1 := 0) rfl ty_fld_47_0_0 rfl rfl) rfl rfl ?_)))
     refine Ge (dx_cb rfl Tryz.func61 rfl rfl rfl (wbyte_v P (l ++ [92]) m 116 w W2 hB hst (by (try simp only [List.length_append, List.length_cons, List.length_nil]); omega) (by omega) (by omega))) rfl rfl ?_
     rintro _ W14 ⟨⟨rfl, hst⟩, hB⟩
     have hL := LL.nil W14
     refine Ni ?_
     intro a_ ha_
     exact hE (cv_ret0 rfl  ⟨rfl, (show l ++ escJ c = (l ++ [92]) ++ [116] from by unfold escJ; (repeat' split) <;> first | omega | (simp [sb]; done)) ▸ hst⟩ hB ha_)
    ·
     replace c13 := dF c13
     refine Sq fun K15 hK15 => (Rg (Va (dx_eql rfl rfl rfl) rfl rfl (Pu rfl (Ni (hK15 ?_)))))
     refine WC.cond rfl (fun c16 => ?_) (fun c16 => ?_)
     ·
      replace c16 := dT c16
      refine Rg (Pu rfl (Va (dx_nilCheck rfl rfl) rfl rfl (Va (dx_fld (o1 := 0) rfl ty_fld_47_0_0 rfl rfl) rfl rfl ?_)))
      refine Ge (dx_cb rfl Tryz.func61 rfl rfl rfl (wbyte_v P (l ++ [92]) m 110 w W2 hB hst (by (try simp only [List.length_append, List.length_cons, List.length_nil]); omega) (by omega) (by omega))) rfl rfl ?_
      rintro _ W17 ⟨⟨rfl, hst⟩, hB⟩
      have hL := LL.nil W17
      refine Ni ?_
      intro a_ ha_
      exact hE (cv_ret0 rfl  ⟨rfl, (show l ++ escJ c = (l ++ [92]) ++ [110] from by unfold escJ; (repeat' split) <;> first | omega | (simp [sb]; done)) ▸ hst⟩ hB ha_)
     ·
      replace c16 := dF c16
      refine Sq fun K18 hK18 => (Rg (Va (dx_eql rfl rfl rfl) rfl rfl (Pu rfl (Ni (hK18 ?_)))))
      refine WC.cond rfl (fun c19 => ?_) (fun c19 => ?_)
      ·
       replace c19 := dT c19
       refine Rg (Pu rfl (Va (dx_nilCheck rfl rfl) rfl rfl (Va (dx_fld (o1 := 0) rfl ty_fld_47_0_0 rfl rfl) rfl rfl ?_)))
       refine Ge (dx_cb rfl Tryz.func61 rfl rfl rfl (wbyte_v P (l ++ [92]) m 102 w W2 hB hst (by (try simp only [List.length_append, List.length_cons, List.length_nil]); omega) (by omega) (by omega))) rfl rfl ?_
       rintro _ W20 ⟨⟨rfl, hst⟩, hB⟩
       have hL := LL.nil W20
       refine Ni ?_
       intro a_ ha_
       exact hE (cv_ret0 rfl  ⟨rfl, (show l ++ escJ c = (l ++ [92]) ++ [102] from by unfold escJ; (repeat' split) <;> first | omega | (simp [sb]; done)) ▸ hst⟩ hB ha_)
      ·
       replace c19 := dF c19
       refine Sq fun K21 hK21 => (Rg (Va (dx_eql rfl rfl rfl) rfl rfl (Pu rfl (Ni (hK21 ?_)))))
       refine WC.cond rfl (fun c22 => ?_) (fun c22 => ?_)
       ·
        replace c22 := dT c22
        refine Rg (Pu rfl (Va (dx_nilCheck rfl rfl) rfl rfl (Va (dx_fld (o1 := 0) rfl ty_fld_47_0_0 rfl rfl) rfl rfl ?_)))
        refine Ge (dx_cb rfl Tryz.func61 rfl rfl rfl (wbyte_v P (l ++ [92]) m 114 w W2 hB hst (by (try simp only [List.length_append, List.length_cons, List.length_nil]); omega) (by omega) (by omega))) rfl rfl ?_
        rintro _ W23 ⟨⟨rfl, hst⟩, hB⟩
        have hL := LL.nil W23
        refine Ni ?_
        intro a_ ha_
        exact hE (cv_ret0 rfl  ⟨rfl, (show l ++ escJ c = (l ++ [92]) ++ [114] from by unfold escJ; (repeat' split) <;> first | omega | (simp [sb]; done)) ▸ hst⟩ hB ha_)
       ·
        replace c22 := dF c22
        refine Sq fun K24 hK24 => (Rg (Pu rfl (Va (dx_nilCheck rfl rfl) rfl rfl (Va (dx_fld (o1 := 0) rfl ty_fld_47_0_0 rfl rfl) rfl rfl ?_))))
        refine Ge (dx_cb rfl Tryz.func34 rfl rfl rfl (wstr_v P (l ++ [92]) m ({ data := #[117, 48, 48] }) w W2 hB hst (by (try simp only [List.length_append, List.length_cons, List.length_nil]); omega) (by decide))) rfl rfl ?_
        rintro _ W25 ⟨⟨rfl, hst⟩, hB⟩
        have hL := LL.nil W25
        refine Ni (hK24 (Sq fun K26 hK26 => ?_))
        have hq3_ : (sb ({ data := #[117, 48, 48] } : ByteArray)).length = 3 := rfl
        have hx1_ := hexL_le (c := c / 16) (by omega) (by omega)
        have hx2_ := hexL_le (c := c % 16) (by omega) (by omega)
        refine dM 6 [(some 13, .is (.pointer (some ⟨P, 0, none⟩))), (some 14, .is (.pointer (some ⟨P, 0, none⟩))), (some 15, .is (.pointer (some ⟨P, 0, none⟩))), (some 16, .is (.int .u8 c)), (some 17, .is (.int .u8 (c / 16))), (some 18, .is (.int .u8 (hexL (c / 16))))] [[], [0], [1], [], [3], [4]] (by exact trivial) ?_ ?_
        ·
         refine Dc (fun Wd hd => ?_) ?_
         ·
          exact Dd (dx_move rfl rfl) rfl
         refine Dc (fun Wd hd => ?_) ?_
         ·
          exact Dd (dx_nilCheck rfl rfl) rfl
         refine Dc (fun Wd hd => ?_) ?_
         ·
          exact Dd (dx_fld (o1 := 0) rfl ty_fld_47_0_0 rfl rfl) rfl
         refine Dc (fun Wd hd => ?_) ?_
         ·
          exact Dd (dx_move rfl rfl) rfl
         refine Dc (fun Wd hd => ?_) ?_
         ·
          exact Dd (dx_shr (r := c / 16) rfl rfl rfl (by decide) (by decide) (by show c / 2 ^ 4 = _; rfl)) rfl
         refine Dc (fun Wd hd => ?_) ?_
         ·
          exact Dd (dv_e (dx_at (c / 16).toNat rfl Tryz.underlying9 rfl rfl (by omega) (by show (c / 16).toNat < 16; omega)) (congrArg (Value.int .u8) (hex_at (c := c / 16) (by omega) (by omega)))) rfl
         exact trivial
        ·
         intro W27 b28
         replace hst := hst.below b28
         replace hB := below_then hB b28
         replace hL := LL.below hL b28
         refine Ge (dx_cb rfl Tryz.func61 rfl rfl rfl (wbyte_v P ((l ++ [92]) ++ sb ({ data := #[117, 48, 48] })) m (hexL (c / 16)) w W27 hB hst (by (try simp only [List.length_append, List.length_cons, List.length_nil]); omega) (by omega) (by omega))) rfl rfl ?_
         rintro _ W29 ⟨⟨rfl, hst⟩, hB⟩
         have hL := LL.nil W29
         refine Ni (hK26 ?_)
         have hq3_ : (sb ({ data := #[117, 48, 48] } : ByteArray)).length = 3 := rfl
         have hx1_ := hexL_le (c := c / 16) (by omega) (by omega)
         have hx2_ := hexL_le (c := c % 16) (by omega) (by omega)
         refine dM 6 [(some 20, .is (.pointer (some ⟨P, 0, none⟩))), (some 21, .is (.pointer (some ⟨P, 0, none⟩))), (some 22, .is (.pointer (some ⟨P, 0, none⟩))), (some 23, .is (.int .u8 c)), (some 24, .is (.int .u8 (c % 16))), (some 25, .is (.int .u8 (hexL (c % 16))))] [[], [0], [1], [], [3], [4]] (by exact trivial) ?_ ?_
         ·
          refine Dc (fun Wd hd => ?_) ?_
          ·
           exact Dd (dx_move rfl rfl) rfl
          refine Dc (fun Wd hd => ?_) ?_
          ·
           exact Dd (dx_nilCheck rfl rfl) rfl
          refine Dc (fun Wd hd => ?_) ?_
          ·
           exact Dd (dx_fld (o1 := 0) rfl ty_fld_47_0_0 rfl rfl) rfl
          refine Dc (fun Wd hd => ?_) ?_
          ·
           exact Dd (dx_move rfl rfl) rfl
          refine Dc (fun Wd hd => ?_) ?_
          ·
           exact Dd (dx_and_i (r := c % 16) rfl rfl rfl (u8_and_15 hc0 (by omega))) rfl
          refine Dc (fun Wd hd => ?_) ?_
          ·
           exact Dd (dv_e (dx_at (c % 16).toNat rfl Tryz.underlying9 rfl rfl (by omega) (by show (c % 16).toNat < 16; omega)) (congrArg (Value.int .u8) (hex_at (c := c % 16) (by omega) (by omega)))) rfl
          exact trivial
         ·
          intro W30 b31
          replace hst := hst.below b31
          replace hB := below_then hB b31
          replace hL := LL.below hL b31
          refine Ge (dx_cb rfl Tryz.func61 rfl rfl rfl (wbyte_v P (((l ++ [92]) ++ sb ({ data := #[117, 48, 48] })) ++ [hexL (c / 16)]) m (hexL (c % 16)) w W30 hB hst (by (try simp only [List.length_append, List.length_cons, List.length_nil]); omega) (by omega) (by omega))) rfl rfl ?_
          rintro _ W32 ⟨⟨rfl, hst⟩, hB⟩
          have hL := LL.nil W32
          refine Ni ?_
          intro a_ ha_
          exact hE (cv_ret0 rfl  ⟨rfl, (show l ++ escJ c = (((l ++ [92]) ++ sb ({ data := #[117, 48, 48] })) ++ [hexL (c / 16)]) ++ [hexL (c % 16)] from by unfold escJ; (repeat' split) <;> first | omega | (simp [sb]; done)) ▸ hst⟩ hB ha_)
 ·
  replace c6 := dF c6
  refine Rg (Va (dx_eql rfl rfl rfl) rfl rfl (Pu rfl (Ni (hK4 ?_))))
  refine WC.cond rfl (fun c33 => ?_) (fun c33 => ?_)
  ·
   replace c33 := dT c33
   refine Rg (Pu rfl (Va (dx_nilCheck rfl rfl) rfl rfl (Va (dx_fld (o1 := 0) rfl ty_fld_47_0_0 rfl rfl) rfl rfl (Pu rfl ?_))))
   refine Ge (dx_cb rfl Tryz.func61 rfl rfl rfl (wbyte_v P (l ++ [92]) m c w W2 hB hst (by (try simp only [List.length_append, List.length_cons, List.length_nil]); omega) (by omega) (by omega))) rfl rfl ?_
   rintro _ W34 ⟨⟨rfl, hst⟩, hB⟩
   have hL := LL.nil W34
   refine Ni ?_
   intro a_ ha_
   exact hE (cv_ret0 rfl  ⟨rfl, (show l ++ escJ c = (l ++ [92]) ++ [c] from by unfold escJ; (repeat' split) <;> first | omega | (simp [sb]; done)) ▸ hst⟩ hB ha_)
  ·
   replace c33 := dF c33
   refine Sq fun K35 hK35 => (Rg (Va (dx_eql rfl rfl rfl) rfl rfl (Pu rfl (Ni (hK35 ?_)))))
   refine WC.cond rfl (fun c36 => ?_) (fun c36 => ?_)
   ·
    replace c36 := dT c36
    refine Rg (Pu rfl (Va (dx_nilCheck rfl rfl) rfl rfl (Va (dx_fld (o1 := 0) rfl ty_fld_47_0_0 rfl rfl) rfl rfl ?_)))
    refine Ge (dx_cb rfl Tryz.func61 rfl rfl rfl (wbyte_v P (l ++ [92]) m 98 w W2 hB hst (by (try simp only [List.length_append, List.length_cons, List.length_nil]); omega) (by omega) (by omega))) rfl rfl ?_
    rintro _ W37 ⟨⟨rfl, hst⟩, hB⟩
    have hL := LL.nil W37
    refine Ni ?_
    intro a_ ha_
    exact hE (cv_ret0 rfl  ⟨rfl, (show l ++ escJ c = (l ++ [92]) ++ [98] from by unfold escJ; (repeat' split) <;> first | omega | (simp [sb]; done)) ▸ hst⟩ hB ha_)
   ·
    replace c36 := dF c36
    refine Sq fun K38 hK38 => (Rg (Va (dx_eql rfl rfl rfl) rfl rfl (Pu rfl (Ni (hK38 ?_)))))
    refine WC.cond rfl (fun c39 => ?_) (fun c39 => ?_)
    ·
     replace c39 := dT c39
     refine Rg (Pu rfl (Va (dx_nilCheck rfl rfl) rfl rfl (Va (dx_fld (o1 := 0) rfl ty_fld_47_0_0 rfl rfl) rfl rfl ?_)))
     refine Ge (dx_cb rfl Tryz.func61 rfl rfl rfl (wbyte_v P (l ++ [92]) m 116 w W2 hB hst (by (try simp only [List.length_append, List.length_cons, List.length_nil]); omega) (by omega) (by omega))) rfl rfl ?_
     rintro _ W40 ⟨⟨rfl, hst⟩, hB⟩
     have hL := LL.nil W40
     refine Ni ?_
     intro a_ ha_
     exact hE (cv_ret0 rfl  ⟨rfl, (show l ++ escJ c = (l ++ [92]) ++ [116] from by unfold escJ; (repeat' split) <;> first | omega | (simp [sb]; done)) ▸ hst⟩ hB ha_)
    ·
     replace c39 := dF c39
     refine Sq fun K41 hK41 => (Rg (Va (dx_eql rfl rfl rfl) rfl rfl (Pu rfl (Ni (hK41 ?_)))))
     refine WC.cond rfl (fun c42 => ?_) (fun c42 => ?_)
     ·
      replace c42 := dT c42
      refine Rg (Pu rfl (Va (dx_nilCheck rfl rfl) rfl rfl (Va (dx_fld (o1 := 0) rfl ty_fld_47_0_0 rfl rfl) rfl rfl ?_)))
      refine Ge (dx_cb rfl Tryz.func61 rfl rfl rfl (wbyte_v P (l ++ [92]) m 110 w W2 hB hst (by (try simp only [List.length_append, List.length_cons, List.length_nil]); omega) (by omega) (by omega))) rfl rfl ?_
      rintro _ W43 ⟨⟨rfl, hst⟩, hB⟩
      have hL := LL.nil W43
      refine Ni ?_
      intro a_ ha_
      exact hE (cv_ret0 rfl  ⟨rfl, (show l ++ escJ c = (l ++ [92]) ++ [110] from by unfold escJ; (repeat' split) <;> first | omega | (simp [sb]; done)) ▸ hst⟩ hB ha_)
     ·
      replace c42 := dF c42
      refine Sq fun K44 hK44 => (Rg (Va (dx_eql rfl rfl rfl) rfl rfl (Pu rfl (Ni (hK44 ?_)))))
      refine WC.cond rfl (fun c45 => ?_) (fun c45 => ?_)
      ·
       replace c45 := dT c45
       refine Rg (Pu rfl (Va (dx_nilCheck rfl rfl) rfl rfl (Va (dx_fld (o1 := 0) rfl ty_fld_47_0_0 rfl rfl) rfl rfl ?_)))
       refine Ge (dx_cb rfl Tryz.func61 rfl rfl rfl (wbyte_v P (l ++ [92]) m 102 w W2 hB hst (by (try simp only [List.length_append, List.length_cons, List.length_nil]); omega) (by omega) (by omega))) rfl rfl ?_
       rintro _ W46 ⟨⟨rfl, hst⟩, hB⟩
       have hL := LL.nil W46
       refine Ni ?_
       intro a_ ha_
       exact hE (cv_ret0 rfl  ⟨rfl, (show l ++ escJ c = (l ++ [92]) ++ [102] from by unfold escJ; (repeat' split) <;> first | omega | (simp [sb]; done)) ▸ hst⟩ hB ha_)
      ·
       replace c45 := dF c45
       refine Sq fun K47 hK47 => (Rg (Va (dx_eql rfl rfl rfl) rfl rfl (Pu rfl (Ni (hK47 ?_)))))
       refine WC.cond rfl (fun c48 => ?_) (fun c48 => ?_)
       ·
        replace c48 := dT c48
        refine Rg (Pu rfl (Va (dx_nilCheck rfl rfl) rfl rfl (Va (dx_fld (o1 := 0) rfl ty_fld_47_0_0 rfl rfl) rfl rfl ?_)))
        refine Ge (dx_cb rfl Tryz.func61 rfl rfl rfl (wbyte_v P (l ++ [92]) m 114 w W2 hB hst (by (try simp only [List.length_append, List.length_cons, List.length_nil]); omega) (by omega) (by omega))) rfl rfl ?_
        rintro _ W49 ⟨⟨rfl, hst⟩, hB⟩
        have hL := LL.nil W49
        refine Ni ?_
        intro a_ ha_
        exact hE (cv_ret0 rfl  ⟨rfl, (show l ++ escJ c = (l ++ [92]) ++ [114] from by unfold escJ; (repeat' split) <;> first | omega | (simp [sb]; done)) ▸ hst⟩ hB ha_)
       ·
        replace c48 := dF c48
        refine Sq fun K50 hK50 => (Rg (Pu rfl (Va (dx_nilCheck rfl rfl) rfl rfl (Va (dx_fld (o1 := 0) rfl ty_fld_47_0_0 rfl rfl) rfl rfl ?_))))
        refine Ge (dx_cb rfl Tryz.func34 rfl rfl rfl (wstr_v P (l ++ [92]) m ({ data := #[117, 48, 48] }) w W2 hB hst (by (try simp only [List.length_append, List.length_cons, List.length_nil]); omega) (by decide))) rfl rfl ?_
        rintro _ W51 ⟨⟨rfl, hst⟩, hB⟩
        have hL := LL.nil W51
        refine Ni (hK50 (Sq fun K52 hK52 => ?_))
        have hq3_ : (sb ({ data := #[117, 48, 48] } : ByteArray)).length = 3 := rfl
        have hx1_ := hexL_le (c := c / 16) (by omega) (by omega)
        have hx2_ := hexL_le (c := c % 16) (by omega) (by omega)
        refine dM 6 [(some 13, .is (.pointer (some ⟨P, 0, none⟩))), (some 14, .is (.pointer (some ⟨P, 0, none⟩))), (some 15, .is (.pointer (some ⟨P, 0, none⟩))), (some 16, .is (.int .u8 c)), (some 17, .is (.int .u8 (c / 16))), (some 18, .is (.int .u8 (hexL (c / 16))))] [[], [0], [1], [], [3], [4]] (by exact trivial) ?_ ?_
        ·
         refine Dc (fun Wd hd => ?_) ?_
         ·
          exact Dd (dx_move rfl rfl) rfl
         refine Dc (fun Wd hd => ?_) ?_
         ·
          exact Dd (dx_nilCheck rfl rfl) rfl
         refine Dc (fun Wd hd => ?_) ?_
         ·
          exact Dd (dx_fld (o1 := 0) rfl ty_fld_47_0_0 rfl rfl) rfl
         refine Dc (fun Wd hd => ?_) ?_
         ·
          exact Dd (dx_move rfl rfl) rfl
         refine Dc (fun Wd hd => ?_) ?_
         ·
          exact Dd (dx_shr (r := c / 16) rfl rfl rfl (by decide) (by decide) (by show c / 2 ^ 4 = _; rfl)) rfl
         refine Dc (fun Wd hd => ?_) ?_
         ·
          exact Dd (dv_e (dx_at (c / 16).toNat rfl Tryz.underlying9 rfl rfl (by omega) (by show (c / 16).toNat < 16; omega)) (congrArg (Value.int .u8) (hex_at (c := c / 16) (by omega) (by omega)))) rfl
         exact trivial
        ·
         intro W53 b54
         replace hst := hst.below b54
         replace hB := below_then hB b54
         replace hL := LL.below hL b54
         refine Ge (dx_cb rfl Tryz.func61 rfl rfl rfl (wbyte_v P ((l ++ [92]) ++ sb ({ data := #[117, 48, 48] })) m (hexL (c / 16)) w W53 hB hst (by (try simp only [List.length_append, List.length_cons, List.length_nil]); omega) (by omega) (by omega))) rfl rfl ?_
         rintro _ W55 ⟨⟨rfl, hst⟩, hB⟩
         have hL := LL.nil W55
         refine Ni (hK52 ?_)
         have hq3_ : (sb ({ data := #[117, 48, 48] } : ByteArray)).length = 3 := rfl
         have hx1_ := hexL_le (c := c / 16) (by omega) (by omega)
         have hx2_ := hexL_le (c := c % 16) (by omega) (by omega)
         refine dM 6 [(some 20, .is (.pointer (some ⟨P, 0, none⟩))), (some 21, .is (.pointer (some ⟨P, 0, none⟩))), (some 22, .is (.pointer (some ⟨P, 0, none⟩))), (some 23, .is (.int .u8 c)), (some 24, .is (.int .u8 (c % 16))), (some 25, .is (.int .u8 (hexL (c % 16))))] [[], [0], [1], [], [3], [4]] (by exact trivial) ?_ ?_
         ·
          refine Dc (fun Wd hd => ?_) ?_
          ·
           exact Dd (dx_move rfl rfl) rfl
          refine Dc (fun Wd hd => ?_) ?_
          ·
           exact Dd (dx_nilCheck rfl rfl) rfl
          refine Dc (fun Wd hd => ?_) ?_
          ·
           exact Dd (dx_fld (o1 := 0) rfl ty_fld_47_0_0 rfl rfl) rfl
          refine Dc (fun Wd hd => ?_) ?_
          ·
           exact Dd (dx_move rfl rfl) rfl
          refine Dc (fun Wd hd => ?_) ?_
          ·
           exact Dd (dx_and_i (r := c % 16) rfl rfl rfl (u8_and_15 hc0 (by omega))) rfl
          refine Dc (fun Wd hd => ?_) ?_
          ·
           exact Dd (dv_e (dx_at (c % 16).toNat rfl Tryz.underlying9 rfl rfl (by omega) (by show (c % 16).toNat < 16; omega)) (congrArg (Value.int .u8) (hex_at (c := c % 16) (by omega) (by omega)))) rfl
          exact trivial
         ·
          intro W56 b57
          replace hst := hst.below b57
          replace hB := below_then hB b57
          replace hL := LL.below hL b57
          refine Ge (dx_cb rfl Tryz.func61 rfl rfl rfl (wbyte_v P (((l ++ [92]) ++ sb ({ data := #[117, 48, 48] })) ++ [hexL (c / 16)]) m (hexL (c % 16)) w W56 hB hst (by (try simp only [List.length_append, List.length_cons, List.length_nil]); omega) (by omega) (by omega))) rfl rfl ?_
          rintro _ W58 ⟨⟨rfl, hst⟩, hB⟩
          have hL := LL.nil W58
          refine Ni ?_
          intro a_ ha_
          exact hE (cv_ret0 rfl  ⟨rfl, (show l ++ escJ c = (((l ++ [92]) ++ sb ({ data := #[117, 48, 48] })) ++ [hexL (c / 16)]) ++ [hexL (c % 16)] from by unfold escJ; (repeat' split) <;> first | omega | (simp [sb]; done)) ▸ hst⟩ hB ha_)

theorem ext_at {s : ByteArray} {i j : Nat} : sb (s.extract i j) = ((sb s).take j).drop i := by
 rw [Lib.extract_eq]
 simp [sb, List.map_take, List.map_drop, List.drop_take]
def txtL (s : ByteArray) (a : Nat) : List Int := 34 :: ((sb s).take a).flatMap escJ
theorem txt_0 (s : ByteArray) : txtL s 0 = [34] := rfl
section
variable {s : ByteArray} {a i : Nat}
theorem flat_plain : ∀ {l : List Int}, (∀ c ∈ l, escJ c = [c]) → l.flatMap escJ = l
 | [], _ => rfl
 | c :: l, h => by rw [List.flatMap_cons, h c (.head _), flat_plain fun x hx => h x (.tail _ hx)]; rfl
theorem plain_in {j : Nat} (h : ∀ q, a ≤ q → q < j → escJ (atS s q) = [atS s q]) (hj : j ≤ s.size) : ∀ c ∈ ((sb s).take j).drop a, escJ c = [c] := fun c hc => by
  obtain ⟨k, hk⟩ := List.mem_iff_getElem?.1 hc
  rw [List.getElem?_drop, List.getElem?_take] at hk
  split at hk
  · rename_i hlt
    rw [sb_at (by omega)] at hk
    rw [← Option.some.inj hk]; exact h _ (by omega) hlt
  · cases hk
theorem txt_step (ha : a ≤ i) (hi : i < s.size) (h : ∀ q, a ≤ q → q < i → escJ (atS s q) = [atS s q]) : txtL s (i + 1) = txtL s a ++ (sb (s.extract a i) ++ escJ (atS s i)) := by
 unfold txtL
 have e : (sb s).take (i + 1) = (sb s).take a ++ (((sb s).take i).drop a ++ [atS s i]) := by
  rw [List.take_add_one, sb_at hi, ← List.append_assoc]
  congr 1
  rw [show (sb s).take a = ((sb s).take i).take a from by rw [List.take_take, Nat.min_eq_left ha], List.take_append_drop]
 rw [e, List.flatMap_append, List.flatMap_append, flat_plain (plain_in h (by omega)), ext_at]
 simp
theorem txt_end (ha : a ≤ s.size) (h : ∀ q, a ≤ q → q < s.size → escJ (atS s q) = [atS s q]) : quoJ s = txtL s a ++ (sb (s.extract a s.size) ++ [34]) := by
 unfold txtL quoJ
 have e0 : (sb s).take s.size = sb s := List.take_of_length_le (by rw [sb_length]; exact Nat.le_refl _)
 have e : sb s = (sb s).take a ++ ((sb s).take s.size).drop a := by
  rw [e0, List.take_append_drop]
 have e2 : (sb s).flatMap escJ = ((sb s).take a).flatMap escJ ++ ((sb s).take s.size).drop a := by
  conv => lhs; rw [e]
  rw [List.flatMap_append, flat_plain (plain_in h (Nat.le_refl _))]
 rw [e2, ext_at]
 simp
theorem fesc_len : ∀ l : List Int, (l.flatMap escJ).length ≤ 6 * l.length
 | [] => Nat.zero_le _
 | c :: l => by rw [List.flatMap_cons, List.length_append, List.length_cons]; have := fesc_len l; have := esc_len (c := c); omega
theorem txt_len : (txtL s a).length ≤ 6 * s.size + 1 := by
 unfold txtL
 have := fesc_len ((sb s).take a)
 rw [List.length_take, sb_length] at this
 rw [List.length_cons]; omega
theorem quo_len (s : ByteArray) : (quoJ s).length ≤ 6 * s.size + 2 := by
 unfold quoJ
 have := fesc_len (sb s)
 rw [sb_length] at this
 rw [List.length_cons, List.length_append, List.length_singleton]; omega
theorem txt_pre (hi : i ≤ s.size) : ∃ y, quoJ s = txtL s i ++ y := ⟨((sb s).drop i).flatMap escJ ++ [34], by
 unfold quoJ txtL
 conv => lhs; rw [← List.take_append_drop i (sb s), List.flatMap_append]
 simp⟩
theorem extr_size {j : Nat} : (s.extract a j).size ≤ s.size := by rw [← sb_length, ext_at, List.length_drop, List.length_take, sb_length]; omega
end
set_option maxHeartbeats 1000000 in
theorem ptext_v (P : Nat) (l : List Int) (m : Int) (s : ByteArray) (w w1 : World) (hB : Below w.heap.size w w1) (hst : PrS w.heap.size P l m w1) (hlen : l.length ≤ 1000000000) (hs : s.size ≤ 1000000) : CB Tryz.prog 36 [.pointer (some ⟨P, 0, none⟩), .string s] w w1 fun v W => v = .tuple #[] ∧ ∃ l', PrK m 6000002 l (quoJ s) l' ∧ PrS w.heap.size P l' m W := by
 refine cb_enter (N := 56) (f := [(0, .pointer (some ⟨P, 0, none⟩)), (1, .string s)]) Tryz.func36 rfl rfl rfl rfl fun Q hQ hE => ?_
 have hL := LL.nil w1
 refine Sq fun K1 hK1 => (Rg (Pu rfl (Va (dx_nilCheck rfl rfl) rfl rfl (Va (dx_fld (o1 := 0) rfl ty_fld_47_0_0 rfl rfl) rfl rfl ?_))))
 refine Ge (dx_cb rfl Tryz.func61 rfl rfl rfl (wbyte_v P l m 34 w w1 hB hst (by (try simp only [List.length_append, List.length_cons, List.length_nil]); omega) (by omega) (by omega))) rfl rfl ?_
 rintro _ W2 ⟨⟨rfl, hst⟩, hB⟩
 have hL := LL.nil W2
 refine Ni (hK1 (Sq fun K3 hK3 => (Rg (Pu rfl (Ni (hK3 (Sq fun K4 hK4 => ?_)))))))
 refine Sq fun K5 hK5 => (Rg (Pu rfl (Va (dx_lenT rfl Tryz.underlying9 rfl) rfl rfl (Pu rfl (Ni (hK5 (WC.block ?_)))))))
 rw [← txt_0 s] at hst
 refine WC.loop2 (fun (i : Nat) (a : Nat) => [(0, .pointer (some ⟨P, 0, none⟩)), (1, .string s), (11, .string s), (12, .int .i64 (s.size : Int)), (13, .int .i64 (i : Int)), (4, .int .i64 (a : Int))]) (fun (i : Nat) (a : Nat) W => i ≤ s.size ∧ a ≤ i ∧ (∀ q, a ≤ q → q < i → escJ (atS s q) = [atS s q]) ∧ Below w.heap.size w W ∧ LL ([]) W ∧ PrS w.heap.size P (l ++ txtL s a) m W) (fun (i : Nat) (a : Nat) => s.size - i) 0 0 (by repeat first | exact trivial | refine aR ?_ | refine aI (by omega) ?_) ⟨Nat.zero_le _, Nat.le_refl _, (fun q h1 h2 => by omega), hB, hL, hst⟩ ?_
 clear hst hB hL
 rintro K6 i a W7 ⟨hi, ha, hpl, hB, hL, hst⟩ hK6
 refine Sq fun K8 hK8 => (Rg (Va (dx_lss rfl rfl rfl) rfl rfl (Ni (hK8 (Sq fun K9 hK9 => ?_)))))
 refine WC.cond rfl (fun c10 => ?_) (fun c10 => ?_)
 ·
  replace c10 := dT c10
  refine WC.skip (hK9 (Sq fun K11 hK11 => (WC.block (Sq fun K12 hK12 => (Rg (Pu rfl (Pu rfl ?_)))))))
  refine Ni (hK12 (Sq fun K13 hK13 => (Rg (Pu rfl (Pu rfl (Va (dx_at i rfl Tryz.underlying9 rfl rfl (by omega) (by omega)) rfl rfl (Pu rfl ?_)))))))
  refine Ni (hK13 (Sq fun K14 hK14 => (Sq fun K15 hK15 => (Rg (Pu rfl (Va (dx_geq rfl rfl rfl) rfl rfl (Pu rfl ?_)))))))
  refine WL.split 21 rfl (fun g16 => ?_) (fun g16 => ?_)
  ·
   replace g16 := dT g16
   refine Pu rfl (Va (dx_neq rfl rfl rfl) rfl rfl (Pu rfl (Pu rfl ?_)))
   refine WL.split 25 rfl (fun g17 => ?_) (fun g17 => ?_)
   ·
    replace g17 := bnot_t g17
    replace g17 := dF g17
    refine Pu rfl (Va (dx_neq rfl rfl rfl) rfl rfl (Pu rfl (Ni (hK15 ?_))))
    refine WC.cond rfl (fun c18 => ?_) (fun c18 => ?_)
    ·
     replace c18 := bnot_t c18
     replace c18 := dF c18
     refine WC.exit ?_
     refine hK11 (Rg (Va (dx_add (r := (i : Int) + 1) rfl rfl rfl (wrap64_id (by omega))) rfl rfl (Pu rfl (Ni ?_))))
     exact hK6 (i + 1) a ⟨(by omega), (by omega), (fun q h1 h2 => by rcases Nat.lt_or_ge q i with h_ | h_; exact hpl q h1 h_; obtain rfl : q = i := (by omega); exact esc_p (by omega) (by first | assumption | omega) (by first | assumption | omega)), hB, hL, hst⟩ (by omega) (by repeat first | exact trivial | refine aR ?_ | refine aI (by omega) ?_)
    ·
     replace c18 := bnot_f c18
     replace c18 := dT c18
     refine WC.skip (hK14 (Sq fun K19 hK19 => ?_))
     have hesc : atS s i < 32 ∨ atS s i = 34 ∨ atS s i = 92 := by first | omega | (simp_all; omega)
     have hc2 := atS_lo s i
     refine dM 7 [(some 29, .is (.pointer (some ⟨P, 0, none⟩))), (some 30, .is (.pointer (some ⟨P, 0, none⟩))), (some 31, .is (.pointer (some ⟨P, 0, none⟩))), (some 32, .is (.string s)), (some 33, .is (.int .i64 (a : Int))), (some 34, .is (.int .i64 (i : Int))), (some 35, .is (.string ((s).extract a i)))] [[], [0], [1], [], [], [], [3, 4, 5]] (by exact trivial) ?_ ?_
     ·
      refine Dc (fun Wd hd => ?_) ?_
      ·
       exact Dd (dx_move rfl rfl) rfl
      refine Dc (fun Wd hd => ?_) ?_
      ·
       exact Dd (dx_nilCheck rfl rfl) rfl
      refine Dc (fun Wd hd => ?_) ?_
      ·
       exact Dd (dx_fld (o1 := 0) rfl ty_fld_47_0_0 rfl rfl) rfl
      refine Dc (fun Wd hd => ?_) ?_
      ·
       exact Dd (dx_move rfl rfl) rfl
      refine Dc (fun Wd hd => ?_) ?_
      ·
       exact Dd (dx_move rfl rfl) rfl
      refine Dc (fun Wd hd => ?_) ?_
      ·
       exact Dd (dx_move rfl rfl) rfl
      refine Dc (fun Wd hd => ?_) ?_
      ·
       exact Dd (dx_slTLH a i rfl Tryz.underlying9 rfl rfl rfl (by omega) (by omega) (by omega) (by omega)) rfl
      exact trivial
     ·
      intro W20 b21
      replace hst := hst.below b21
      replace hB := below_then hB b21
      replace hL := LL.below hL b21
      refine Ge (dx_cb rfl Tryz.func34 rfl rfl rfl (wstr_v P (l ++ txtL s a) m ((s).extract a i) w W20 hB hst (by have h1_ := txt_len (s := s) (a := a); have h2_ := extr_size (s := s) (a := a) (j := i); have h3_ := extr_size (s := s) (a := a) (j := s.size); (try simp only [List.length_append, List.length_cons, List.length_nil, sb_length]); omega) (by have h2_ := extr_size (s := s) (a := a) (j := i); omega))) rfl rfl ?_
      rintro _ W22 ⟨⟨rfl, hst⟩, hB⟩
      have hL := LL.nil W22
      refine Ni (hK19 (Sq fun K23 hK23 => (Rg (Pu rfl (Pu rfl ?_)))))
      refine Ge (dx_cb rfl Tryz.func62 rfl rfl rfl (pesc_v P ((l ++ txtL s a) ++ sb ((s).extract a i)) m (atS s i) w W22 hB hst (by have h1_ := txt_len (s := s) (a := a); have h2_ := extr_size (s := s) (a := a) (j := i); have h3_ := extr_size (s := s) (a := a) (j := s.size); (try simp only [List.length_append, List.length_cons, List.length_nil, sb_length]); omega) (atS_lo s i).1 hesc)) rfl rfl ?_
      rintro _ W24 ⟨⟨rfl, hst⟩, hB⟩
      have hL := LL.nil W24
      refine Ni (hK23 (Sq fun K25 hK25 => (Rg (Pu rfl (Va (dx_add (r := ((i + 1 : Nat) : Int)) rfl rfl rfl (by rw [wrap64_id (by omega)]; omega)) rfl rfl (Pu rfl (Ni ?_)))))))
      refine hK25 (Sq fun K26 hK26 => (Rg (Pu rfl ?_)))
      refine Ge (dx_cb rfl Tryz.func17 rfl rfl rfl (full_v P (((l ++ txtL s a) ++ sb ((s).extract a i)) ++ escJ (atS s i)) m w W24 hB hst)) rfl rfl ?_
      rintro _ W27 ⟨⟨rfl, hst⟩, hB⟩
      have hL := LL.nil W27
      refine Ni (hK26 ?_)
      refine WC.cond rfl (fun c28 => ?_) (fun c28 => ?_)
      ·
       replace c28 := dT c28
       exact WC.ret fun a_ ha_ => hQ (cv_ret0 rfl  ⟨rfl, _, (by obtain ⟨y_, hy_⟩ := txt_pre (s := s) (i := i + 1) (by omega); rw [hy_]; exact prK_stop (prK_exact (x := txtL s (i + 1)) (by rw [txt_step ha (by omega) hpl]; simp) (by have := txt_len (s := s) (a := i + 1); omega)) (by omega)), hst⟩ hB ha_)
      ·
       replace c28 := dF c28
       refine WC.skip (hK11 (Rg (Va (dx_add (r := (i : Int) + 1) rfl rfl rfl (wrap64_id (by omega))) rfl rfl (Pu rfl (Ni ?_)))))
       have hst2 : PrS w.heap.size P (l ++ txtL s (i + 1)) m W27 := by rw [txt_step ha (by omega) hpl]; simpa using hst
       exact hK6 (i + 1) (i + 1) ⟨(by omega), (by omega), (fun q h1 h2 => by omega), hB, hL, hst2⟩ (by omega) (by repeat first | exact trivial | refine aR ?_ | refine aI (by omega) ?_)
   ·
    replace g17 := bnot_f g17
    replace g17 := dT g17
    refine Of rfl (Of rfl (Pu rfl (Ni (hK15 (WC.condF rfl (WC.skip (hK14 ?_)))))))
    refine Sq fun K29 hK29 => ?_
    have hesc : atS s i < 32 ∨ atS s i = 34 ∨ atS s i = 92 := by first | omega | (simp_all; omega)
    have hc2 := atS_lo s i
    refine dM 7 [(some 29, .is (.pointer (some ⟨P, 0, none⟩))), (some 30, .is (.pointer (some ⟨P, 0, none⟩))), (some 31, .is (.pointer (some ⟨P, 0, none⟩))), (some 32, .is (.string s)), (some 33, .is (.int .i64 (a : Int))), (some 34, .is (.int .i64 (i : Int))), (some 35, .is (.string ((s).extract a i)))] [[], [0], [1], [], [], [], [3, 4, 5]] (by exact trivial) ?_ ?_
    ·
     refine Dc (fun Wd hd => ?_) ?_
     ·
      exact Dd (dx_move rfl rfl) rfl
     refine Dc (fun Wd hd => ?_) ?_
     ·
      exact Dd (dx_nilCheck rfl rfl) rfl
     refine Dc (fun Wd hd => ?_) ?_
     ·
      exact Dd (dx_fld (o1 := 0) rfl ty_fld_47_0_0 rfl rfl) rfl
     refine Dc (fun Wd hd => ?_) ?_
     ·
      exact Dd (dx_move rfl rfl) rfl
     refine Dc (fun Wd hd => ?_) ?_
     ·
      exact Dd (dx_move rfl rfl) rfl
     refine Dc (fun Wd hd => ?_) ?_
     ·
      exact Dd (dx_move rfl rfl) rfl
     refine Dc (fun Wd hd => ?_) ?_
     ·
      exact Dd (dx_slTLH a i rfl Tryz.underlying9 rfl rfl rfl (by omega) (by omega) (by omega) (by omega)) rfl
     exact trivial
    ·
     intro W30 b31
     replace hst := hst.below b31
     replace hB := below_then hB b31
     replace hL := LL.below hL b31
     refine Ge (dx_cb rfl Tryz.func34 rfl rfl rfl (wstr_v P (l ++ txtL s a) m ((s).extract a i) w W30 hB hst (by have h1_ := txt_len (s := s) (a := a); have h2_ := extr_size (s := s) (a := a) (j := i); have h3_ := extr_size (s := s) (a := a) (j := s.size); (try simp only [List.length_append, List.length_cons, List.length_nil, sb_length]); omega) (by have h2_ := extr_size (s := s) (a := a) (j := i); omega))) rfl rfl ?_
     rintro _ W32 ⟨⟨rfl, hst⟩, hB⟩
     have hL := LL.nil W32
     refine Ni (hK29 (Sq fun K33 hK33 => (Rg (Pu rfl (Pu rfl ?_)))))
     refine Ge (dx_cb rfl Tryz.func62 rfl rfl rfl (pesc_v P ((l ++ txtL s a) ++ sb ((s).extract a i)) m (atS s i) w W32 hB hst (by have h1_ := txt_len (s := s) (a := a); have h2_ := extr_size (s := s) (a := a) (j := i); have h3_ := extr_size (s := s) (a := a) (j := s.size); (try simp only [List.length_append, List.length_cons, List.length_nil, sb_length]); omega) (atS_lo s i).1 hesc)) rfl rfl ?_
     rintro _ W34 ⟨⟨rfl, hst⟩, hB⟩
     have hL := LL.nil W34
     refine Ni (hK33 (Sq fun K35 hK35 => (Rg (Pu rfl (Va (dx_add (r := ((i + 1 : Nat) : Int)) rfl rfl rfl (by rw [wrap64_id (by omega)]; omega)) rfl rfl (Pu rfl (Ni ?_)))))))
     refine hK35 (Sq fun K36 hK36 => (Rg (Pu rfl ?_)))
     refine Ge (dx_cb rfl Tryz.func17 rfl rfl rfl (full_v P (((l ++ txtL s a) ++ sb ((s).extract a i)) ++ escJ (atS s i)) m w W34 hB hst)) rfl rfl ?_
     rintro _ W37 ⟨⟨rfl, hst⟩, hB⟩
     have hL := LL.nil W37
     refine Ni (hK36 ?_)
     refine WC.cond rfl (fun c38 => ?_) (fun c38 => ?_)
     ·
      replace c38 := dT c38
      exact WC.ret fun a_ ha_ => hQ (cv_ret0 rfl  ⟨rfl, _, (by obtain ⟨y_, hy_⟩ := txt_pre (s := s) (i := i + 1) (by omega); rw [hy_]; exact prK_stop (prK_exact (x := txtL s (i + 1)) (by rw [txt_step ha (by omega) hpl]; simp) (by have := txt_len (s := s) (a := i + 1); omega)) (by omega)), hst⟩ hB ha_)
     ·
      replace c38 := dF c38
      refine WC.skip (hK11 (Rg (Va (dx_add (r := (i : Int) + 1) rfl rfl rfl (wrap64_id (by omega))) rfl rfl (Pu rfl (Ni ?_)))))
      have hst2 : PrS w.heap.size P (l ++ txtL s (i + 1)) m W37 := by rw [txt_step ha (by omega) hpl]; simpa using hst
      exact hK6 (i + 1) (i + 1) ⟨(by omega), (by omega), (fun q h1 h2 => by omega), hB, hL, hst2⟩ (by omega) (by repeat first | exact trivial | refine aR ?_ | refine aI (by omega) ?_)
  ·
   replace g16 := dF g16
   refine Of rfl (Of rfl (Pu rfl (Pu rfl (Of rfl (Of rfl (Pu rfl (Ni ?_)))))))
   refine hK15 (WC.condF rfl (WC.skip (hK14 (Sq fun K39 hK39 => ?_))))
   have hesc : atS s i < 32 ∨ atS s i = 34 ∨ atS s i = 92 := by first | omega | (simp_all; omega)
   have hc2 := atS_lo s i
   refine dM 7 [(some 29, .is (.pointer (some ⟨P, 0, none⟩))), (some 30, .is (.pointer (some ⟨P, 0, none⟩))), (some 31, .is (.pointer (some ⟨P, 0, none⟩))), (some 32, .is (.string s)), (some 33, .is (.int .i64 (a : Int))), (some 34, .is (.int .i64 (i : Int))), (some 35, .is (.string ((s).extract a i)))] [[], [0], [1], [], [], [], [3, 4, 5]] (by exact trivial) ?_ ?_
   ·
    refine Dc (fun Wd hd => ?_) ?_
    ·
     exact Dd (dx_move rfl rfl) rfl
    refine Dc (fun Wd hd => ?_) ?_
    ·
     exact Dd (dx_nilCheck rfl rfl) rfl
    refine Dc (fun Wd hd => ?_) ?_
    ·
     exact Dd (dx_fld (o1 := 0) rfl ty_fld_47_0_0 rfl rfl) rfl
    refine Dc (fun Wd hd => ?_) ?_
    ·
     exact Dd (dx_move rfl rfl) rfl
    refine Dc (fun Wd hd => ?_) ?_
    ·
     exact Dd (dx_move rfl rfl) rfl
    refine Dc (fun Wd hd => ?_) ?_
    ·
     exact Dd (dx_move rfl rfl) rfl
    refine Dc (fun Wd hd => ?_) ?_
    ·
     exact Dd (dx_slTLH a i rfl Tryz.underlying9 rfl rfl rfl (by omega) (by omega) (by omega) (by omega)) rfl
    exact trivial
   ·
    intro W40 b41
    replace hst := hst.below b41
    replace hB := below_then hB b41
    replace hL := LL.below hL b41
    refine Ge (dx_cb rfl Tryz.func34 rfl rfl rfl (wstr_v P (l ++ txtL s a) m ((s).extract a i) w W40 hB hst (by have h1_ := txt_len (s := s) (a := a); have h2_ := extr_size (s := s) (a := a) (j := i); have h3_ := extr_size (s := s) (a := a) (j := s.size); (try simp only [List.length_append, List.length_cons, List.length_nil, sb_length]); omega) (by have h2_ := extr_size (s := s) (a := a) (j := i); omega))) rfl rfl ?_
    rintro _ W42 ⟨⟨rfl, hst⟩, hB⟩
    have hL := LL.nil W42
    refine Ni (hK39 (Sq fun K43 hK43 => (Rg (Pu rfl (Pu rfl ?_)))))
    refine Ge (dx_cb rfl Tryz.func62 rfl rfl rfl (pesc_v P ((l ++ txtL s a) ++ sb ((s).extract a i)) m (atS s i) w W42 hB hst (by have h1_ := txt_len (s := s) (a := a); have h2_ := extr_size (s := s) (a := a) (j := i); have h3_ := extr_size (s := s) (a := a) (j := s.size); (try simp only [List.length_append, List.length_cons, List.length_nil, sb_length]); omega) (atS_lo s i).1 hesc)) rfl rfl ?_
    rintro _ W44 ⟨⟨rfl, hst⟩, hB⟩
    have hL := LL.nil W44
    refine Ni (hK43 (Sq fun K45 hK45 => (Rg (Pu rfl (Va (dx_add (r := ((i + 1 : Nat) : Int)) rfl rfl rfl (by rw [wrap64_id (by omega)]; omega)) rfl rfl (Pu rfl (Ni ?_)))))))
    refine hK45 (Sq fun K46 hK46 => (Rg (Pu rfl ?_)))
    refine Ge (dx_cb rfl Tryz.func17 rfl rfl rfl (full_v P (((l ++ txtL s a) ++ sb ((s).extract a i)) ++ escJ (atS s i)) m w W44 hB hst)) rfl rfl ?_
    rintro _ W47 ⟨⟨rfl, hst⟩, hB⟩
    have hL := LL.nil W47
    refine Ni (hK46 ?_)
    refine WC.cond rfl (fun c48 => ?_) (fun c48 => ?_)
    ·
     replace c48 := dT c48
     exact WC.ret fun a_ ha_ => hQ (cv_ret0 rfl  ⟨rfl, _, (by obtain ⟨y_, hy_⟩ := txt_pre (s := s) (i := i + 1) (by omega); rw [hy_]; exact prK_stop (prK_exact (x := txtL s (i + 1)) (by rw [txt_step ha (by omega) hpl]; simp) (by have := txt_len (s := s) (a := i + 1); omega)) (by omega)), hst⟩ hB ha_)
    ·
     replace c48 := dF c48
     refine WC.skip (hK11 (Rg (Va (dx_add (r := (i : Int) + 1) rfl rfl rfl (wrap64_id (by omega))) rfl rfl (Pu rfl (Ni ?_)))))
     have hst2 : PrS w.heap.size P (l ++ txtL s (i + 1)) m W47 := by rw [txt_step ha (by omega) hpl]; simpa using hst
     exact hK6 (i + 1) (i + 1) ⟨(by omega), (by omega), (fun q h1 h2 => by omega), hB, hL, hst2⟩ (by omega) (by repeat first | exact trivial | refine aR ?_ | refine aI (by omega) ?_)
 ·
  replace c10 := dF c10
  refine WC.exit ?_
  refine hK4 (Sq fun K49 hK49 => ?_)
  refine dM 6 [(some 45, .is (.pointer (some ⟨P, 0, none⟩))), (some 46, .is (.pointer (some ⟨P, 0, none⟩))), (some 47, .is (.pointer (some ⟨P, 0, none⟩))), (some 48, .is (.string s)), (some 49, .is (.int .i64 (a : Int))), (some 50, .is (.string (s.extract a s.size)))] [[], [0], [1], [], [], [3, 4]] (by exact trivial) ?_ ?_
  ·
   refine Dc (fun Wd hd => ?_) ?_
   ·
    exact Dd (dx_move rfl rfl) rfl
   refine Dc (fun Wd hd => ?_) ?_
   ·
    exact Dd (dx_nilCheck rfl rfl) rfl
   refine Dc (fun Wd hd => ?_) ?_
   ·
    exact Dd (dx_fld (o1 := 0) rfl ty_fld_47_0_0 rfl rfl) rfl
   refine Dc (fun Wd hd => ?_) ?_
   ·
    exact Dd (dx_move rfl rfl) rfl
   refine Dc (fun Wd hd => ?_) ?_
   ·
    exact Dd (dx_move rfl rfl) rfl
   refine Dc (fun Wd hd => ?_) ?_
   ·
    exact Dd (dx_slTL a rfl Tryz.underlying9 rfl rfl rfl (by omega)) rfl
   exact trivial
  ·
   intro W50 b51
   replace hst := hst.below b51
   replace hB := below_then hB b51
   replace hL := LL.below hL b51
   refine Ge (dx_cb rfl Tryz.func34 rfl rfl rfl (wstr_v P (l ++ txtL s a) m (s.extract a s.size) w W50 hB hst (by have h1_ := txt_len (s := s) (a := a); have h2_ := extr_size (s := s) (a := a) (j := i); have h3_ := extr_size (s := s) (a := a) (j := s.size); (try simp only [List.length_append, List.length_cons, List.length_nil, sb_length]); omega) (by have h2_ := extr_size (s := s) (a := a) (j := s.size); omega))) rfl rfl ?_
   rintro _ W52 ⟨⟨rfl, hst⟩, hB⟩
   have hL := LL.nil W52
   refine Ni (hK49 (Rg (Pu rfl (Va (dx_nilCheck rfl rfl) rfl rfl (Va (dx_fld (o1 := 0) rfl ty_fld_47_0_0 rfl rfl) rfl rfl ?_)))))
   refine Ge (dx_cb rfl Tryz.func61 rfl rfl rfl (wbyte_v P ((l ++ txtL s a) ++ sb (s.extract a s.size)) m 34 w W52 hB hst (by have h1_ := txt_len (s := s) (a := a); have h2_ := extr_size (s := s) (a := a) (j := i); have h3_ := extr_size (s := s) (a := a) (j := s.size); (try simp only [List.length_append, List.length_cons, List.length_nil, sb_length]); omega) (by omega) (by omega))) rfl rfl ?_
   rintro _ W53 ⟨⟨rfl, hst⟩, hB⟩
   have hL := LL.nil W53
   refine Ni ?_
   intro a_ ha_
   exact hE (cv_ret0 rfl  ⟨rfl, _, prK_exact (x := quoJ s) (by rw [txt_end (by omega) (fun q h1 h2 => hpl q h1 (by omega))]; simp) (by have := quo_len s; omega), hst⟩ hB ha_)

abbrev tabP (w : World) : Prop := Lib.TabIs Tryz.prog w "internal/strconv.uint64pow10" .u64 Lib.pow10Tab
theorem tabP_below {w w' : World} (h : tabP w) (hb : Below w.heap.size w w') : tabP w' := by
 unfold tabP Lib.TabIs World.var? at *
 cases hg : Tryz.prog.globalNamed "internal/strconv.uint64pow10" with
 | none => rw [hg] at h; cases h
 | some g =>
  rw [hg] at h
  simp only [Option.bind_some] at h ⊢
  have hlt : g < w.heap.size := by
   rcases Nat.lt_or_ge g w.heap.size with h1 | h1
   · exact h1
   · rw [Array.getElem?_eq_none h1] at h; cases h
  rw [hb.block g hlt]; exact h
theorem itoa_v (n : Int) (w : World) (h : tabP w) (h0 : -9223372036854775808 ≤ n) (h1 : n ≤ 9223372036854775807) : CV Tryz.prog 35 [.int .i64 n] w fun v W => v = .string ⟨(Lib.itoa n).toArray⟩ :=
 (Tryz.strconv_Itoa n h0 h1 w h).mono fun e w' ⟨he, k, os, hw⟩ => ⟨_, he, rfl, by rw [hw]; exact Lib.below_grow _ w (Nat.le_refl _) k os⟩
theorem itoa_sb (n : Int) : sb ⟨(Lib.itoa n).toArray⟩ = numJ n := by
 rw [show sb ⟨(Lib.itoa n).toArray⟩ = (Lib.itoa n).map (fun c => (c.toNat : Int)) from by simp [sb]]
 unfold Lib.itoa numJ decL
 split <;> rfl
theorem decL_len : ∀ (k u : Nat), u < 10 ^ k → (decL u).length ≤ max k 1
  | 0, u, h => by
    have : u = 0 := by simpa using h
    subst this; unfold decL; rw [Lib.decDigits]; simp
  | k + 1, u, h => by
    unfold decL
    rw [Lib.decDigits]
    split
    · simp
    · have := decL_len k (u / 10) (by rw [Nat.pow_succ] at h; omega)
      unfold decL at this
      rw [List.length_map] at this
      rw [List.length_map, List.length_append, List.length_singleton]
      rcases Nat.eq_zero_or_pos k with rfl | hk
      · rw [Nat.pow_succ] at h; omega
      · omega
theorem numJ_len {n : Int} (h0 : -9223372036854775808 ≤ n) (h1 : n ≤ 9223372036854775807) : (numJ n).length ≤ 21 := by
  unfold numJ
  split
  · have := decL_len 20 n.natAbs (by omega)
    rw [List.length_cons]; omega
  · have := decL_len 20 n.toNat (by omega)
    omega
theorem itoa_size (n : Int) (h0 : -9223372036854775808 ≤ n) (h1 : n ≤ 9223372036854775807) : (⟨(Lib.itoa n).toArray⟩ : ByteArray).size ≤ 21 := by
 rw [← sb_length, itoa_sb]; exact numJ_len h0 h1
theorem ptB_base {L : List Nat} {w W : World} {u : Value} {cs : List Value} (h : PtB w.heap.size L W u cs) (hb : Below w.heap.size w W) : PtR L w u cs := by
 obtain ⟨h0, X, q, rfl, hx, hX, hr⟩ := h
 refine ⟨h0, X, q, rfl, hX, fun j v hj => ?_⟩
 have := hr j v hj
 have e := hb.block X hx
 simp only [World.cell?, e] at this ⊢
 exact this
-- pieces
theorem comma_add (ps : List (List Int)) (i : Nat) (p : List Int) (h : ps[i]? = some p) : commaJ (ps.take (i + 1)) = commaJ (ps.take i) ++ ((if i = 0 then [] else [44]) ++ p) := by
 rw [List.take_add_one, h]
 cases i with
 | zero => simp [commaJ]
 | succ k =>
  cases ps with
  | nil => cases h
  | cons x l => simp [commaJ, List.take_succ_cons]
theorem comma_tail (ps : List (List Int)) (i : Nat) : ∃ y, commaJ ps = commaJ (ps.take i) ++ y := by
 cases i with
 | zero => exact ⟨commaJ ps, rfl⟩
 | succ k =>
  cases ps with
  | nil => exact ⟨[], rfl⟩
  | cons x l =>
   refine ⟨(l.drop k).flatMap fun y => 44 :: y, ?_⟩
   rw [List.take_succ_cons, commaJ, commaJ, List.append_assoc, ← List.flatMap_append, List.take_append_drop]
def pcs (n : Nat) (j : Js) : List (List Int) := if j.kind = 5 then j.items.map (prJ n) else (j.names.zip j.items).map fun p => quoJ p.1 ++ (58 :: prJ n p.2)
theorem pcs_5 {n i : Nat} {t c : Tr} (hk : t.kind = 5) (hc : t.items[i]? = some c) : (pcs n t.er)[i]? = some (prJ n c.er) := by
 unfold pcs; rw [if_pos (by rw [er_kind]; exact hk), er_items, List.getElem?_map, List.getElem?_map, hc]; rfl
theorem pcs_6 {n i : Nat} {t c : Tr} {a : ByteArray} (hk : t.kind = 6) (hc : t.items[i]? = some c) (ha : t.names[i]? = some a) : (pcs n t.er)[i]? = some (quoJ a ++ (58 :: prJ n c.er)) := by
 unfold pcs
 rw [if_neg (by rw [er_kind]; omega), er_names, er_items, List.getElem?_map, show (t.names.zip (t.items.map Tr.er))[i]? = some (a, c.er) from List.getElem?_zip_eq_some.2 ⟨ha, by rw [List.getElem?_map, hc]; rfl⟩]; rfl
theorem pcs_len5 {n : Nat} {t : Tr} (hk : t.kind = 5) : (pcs n t.er).length = t.items.length := by unfold pcs; rw [if_pos (by rw [er_kind]; exact hk), er_items, List.length_map, List.length_map]
theorem pcs_len6 {n : Nat} {t : Tr} (hk : t.kind = 6) (hl : t.names.length = t.items.length) : (pcs n t.er).length = t.items.length := by
 unfold pcs; rw [if_neg (by rw [er_kind]; omega), er_items, er_names, List.length_map, List.length_zip, List.length_map]; omega
theorem pr_5 {n : Nat} {t : Tr} (hk : t.kind = 5) : prJ (n + 1) t.er = 91 :: (commaJ (pcs n t.er) ++ [93]) := by rw [prJ_5 (by rw [er_kind]; exact hk)]; unfold pcs; rw [if_pos (by rw [er_kind]; exact hk)]
theorem pr_6 {n : Nat} {t : Tr} (hk : t.kind = 6) : prJ (n + 1) t.er = 123 :: (commaJ (pcs n t.er) ++ [125]) := by rw [prJ_6 (by rw [er_kind]; exact hk)]; unfold pcs; rw [if_neg (by rw [er_kind]; omega)]
theorem pr_leaf {n : Nat} {j : Js} (h5 : ¬ j.kind = 5) (h6 : ¬ j.kind = 6) : prJ n j = leafP j := by
 cases n with
 | zero => rfl
 | succ n => rw [prJ, if_neg h5, if_neg h6]
def Kf (m : Nat) : Int := 7000000 * ((m : Int) + 1)
abbrev ValP (m : Nat) : Prop := ∀ (n : Nat) (t : Tr) (u : Value) (P : Nat) (l : List Int) (w w1 : World), Below w.heap.size w w1 → PrS w.heap.size P l 8192 w1 → tabP w → PtR [] w u (encT t) → RdT (n + 1) [] w t → SzT 1000000 (n + 1) t → rightJ upB m t.er = true → l.length ≤ 10000000 → m ≤ 12 → CB Tryz.prog 16 [selfP P, u] w w1 fun v W => v = .tuple #[] ∧ ∃ l', PrK 8192 (Kf m) l (prJ m t.er) l' ∧ PrS w.heap.size P l' 8192 W
set_option maxHeartbeats 1000000 in
theorem pitems5_v (m n : Nat) (t : Tr) (u : Value) (P : Nat) (l : List Int) (w w1 : World) (hB : Below w.heap.size w w1) (hst : PrS w.heap.size P l 8192 w1) (htab : tabP w) (hu : PtR [] w u (encT t)) (ht : RdT (n + 1) [] w t) (hz : SzT 1000000 (n + 1) t) (hkt : t.kind = 5) (hln : True) (hlen : l.length ≤ 10000000) (hm : m ≤ 12) (hval : ∀ (c : Tr) (uc : Value) (P : Nat) (l : List Int) (w w1 : World), Below w.heap.size w w1 → PrS w.heap.size P l 8192 w1 → tabP w → PtR [] w uc (encT c) → RdT n [] w c → SzT 1000000 n c → rightJ upB m c.er = true → l.length ≤ 10000000 → CB Tryz.prog 16 [selfP P, uc] w w1 fun v W => v = .tuple #[] ∧ ∃ l', PrK 8192 (Kf m) l (prJ m c.er) l' ∧ PrS w.heap.size P l' 8192 W) (hrc : ∀ c ∈ t.items, rightJ upB m c.er = true) : CB Tryz.prog 37 [.pointer (some ⟨P, 0, none⟩), u, .int .u8 91, .int .u8 93] w w1 fun v W => v = .tuple #[] ∧ ∃ l', PrK 8192 (Kf (m + 1)) l (prJ (m + 1) t.er) l' ∧ PrS w.heap.size P l' 8192 W := by
 refine cb_enter (N := 62) (f := [(0, .pointer (some ⟨P, 0, none⟩)), (1, u), (2, .int .u8 91), (3, .int .u8 93)]) Tryz.func37 rfl rfl rfl rfl fun Q hQ hE => ?_
 have hL := LL.nil w1
 refine Sq fun K1 hK1 => ?_
 obtain ⟨hnt, hit, hct⟩ := ht
 have hil0 := hit.len
 rw [List.length_map] at hil0
 unfold maxLen at hil0
 refine Rg (Pu rfl (Va (dx_nilCheck rfl rfl) rfl rfl (Va (dx_fld (o1 := 0) rfl ty_fld_47_0_0 rfl rfl) rfl rfl (Pu rfl ?_))))
 refine Ge (dx_cb rfl Tryz.func61 rfl rfl rfl (wbyte_v P l 8192 91 w w1 hB hst (by (try simp only [List.length_append, List.length_cons, List.length_nil]); omega) (by omega) (by omega))) rfl rfl ?_
 rintro _ W2 ⟨⟨rfl, hst⟩, hB⟩
 have hL := LL.nil W2
 refine Ni (hK1 (Sq fun K3 hK3 => (Sq fun K4 hK4 => (Rg (Pu rfl (Va (dx_nilP rfl rfl (hu.below hB)) rfl rfl ?_))))))
 refine Ge (dx_fldP 1 rfl ty_fld_27_4_4 rfl (hu.below hB) (cs' := [t.iv]) rfl (Nat.succ_pos _)) rfl rfl ?_
 rintro u5 _ ⟨rfl, p6⟩
 refine Va (dx_loadP rfl ty_one_25 rfl p6) rfl rfl (Va (dx_lenFM rfl ty_slice_25 rfl (hit.below hB)) rfl rfl (Pu rfl (Ni (hK4 (WC.block ?_)))))
 have hk0 : PrK 8192 (6500000 + Kf m) l (91 :: commaJ ((pcs m t.er).take 0)) (l ++ [91]) := prK_exact rfl (by unfold Kf; simp [commaJ]; omega)
 refine WC.loop2 (fun (i : Nat) (b : List Int) => [(0, .pointer (some ⟨P, 0, none⟩)), (1, u), (2, .int .u8 91), (3, .int .u8 93), (17, t.iv), (18, .int .i64 (t.items.length : Int)), (19, .int .i64 (i : Int))]) (fun (i : Nat) (b : List Int) W => i ≤ t.items.length ∧ PrK 8192 (6500000 + Kf m) l (91 :: commaJ ((pcs m t.er).take i)) b ∧ Below w.heap.size w W ∧ LL ([]) W ∧ PrS w.heap.size P b 8192 W) (fun (i : Nat) (b : List Int) => t.items.length - i) 0 (l ++ [91]) (by repeat first | exact trivial | refine aR ?_ | refine aI (by omega) ?_) ⟨Nat.zero_le _, hk0, hB, hL, hst⟩ ?_
 clear hst hB hL
 rintro K7 i b W8 ⟨hi, hk, hB, hL, hst⟩ hK7
 refine Sq fun K9 hK9 => (Rg (Va (dx_lss rfl rfl rfl) rfl rfl (Ni (hK9 (Sq fun K10 hK10 => ?_)))))
 refine WC.cond rfl (fun c11 => ?_) (fun c11 => ?_)
 ·
  replace c11 := dT c11
  refine WC.skip (hK10 (Sq fun K12 hK12 => (WC.block (Sq fun K13 hK13 => (Rg (Pu rfl (Pu rfl ?_)))))))
  refine Ni (hK13 (Sq fun K14 hK14 => (Sq fun K15 hK15 => (Rg (Pu rfl ?_)))))
  refine Ge (dx_cb rfl Tryz.func17 rfl rfl rfl (full_v P b 8192 w W8 hB hst)) rfl rfl ?_
  rintro _ W16 ⟨⟨rfl, hst⟩, hB⟩
  have hL := LL.nil W16
  refine Ni (hK15 ?_)
  refine WC.cond rfl (fun c17 => ?_) (fun c17 => ?_)
  ·
   replace c17 := dT c17
   exact WC.ret fun a_ ha_ => hQ (cv_ret0 rfl  ⟨rfl, b, (by obtain ⟨y_, hy_⟩ := comma_tail (pcs m t.er) i; rw [pr_5 hkt, hy_, List.append_assoc]; exact prK_le (prK_stop (x := 91 :: commaJ ((pcs m t.er).take i)) hk (by omega)) (by unfold Kf; omega)), hst⟩ hB ha_)
  ·
   replace c17 := dF c17
   refine WC.skip (hK14 (Sq fun K18 hK18 => (Sq fun K19 hK19 => ?_)))
   obtain hgo := prK_go hk (by omega)
   have hbl : (b.length : Int) ≤ 8192 := by omega
   obtain ⟨r_, hr_⟩ : ∃ x, t.items[i]? = some x := ⟨_, List.getElem?_eq_getElem (by omega)⟩
   refine Rg (Pu rfl (Va (dx_gtr rfl rfl rfl) rfl rfl (Ni (hK19 ?_))))
   refine WC.cond rfl (fun c20 => ?_) (fun c20 => ?_)
   ·
    replace c20 := dT c20
    have hi0 : ¬ i = 0 := by omega
    refine Rg (Pu rfl (Va (dx_nilCheck rfl rfl) rfl rfl (Va (dx_fld (o1 := 0) rfl ty_fld_47_0_0 rfl rfl) rfl rfl ?_)))
    refine Ge (dx_cb rfl Tryz.func61 rfl rfl rfl (wbyte_v P b 8192 44 w W16 hB hst (by (try simp only [List.length_append, List.length_cons, List.length_nil]); omega) (by omega) (by omega))) rfl rfl ?_
    rintro _ W21 ⟨⟨rfl, hst⟩, hB⟩
    have hL := LL.nil W21
    refine Ni (hK18 (Sq fun K22 hK22 => (Sq fun K23 hK23 => (Rg (Pu rfl (Va (dx_nilP rfl rfl (hu.below hB)) rfl rfl ?_))))))
    refine Ge (dx_fldP 1 rfl ty_fld_27_0_0 rfl (hu.below hB) (cs' := [.int .i64 t.kind]) rfl (Nat.succ_pos _)) rfl rfl ?_
    rintro u24 _ ⟨rfl, p25⟩
    refine Va ((hkt ▸ dx_loadP rfl ty_one_3 rfl p25)) rfl rfl (Va (dx_eql rfl rfl rfl) rfl rfl (Ni (hK23 (WC.condF rfl (WC.skip (hK22 (Rg ?_)))))))
    refine Pu rfl (Pu rfl (Va (dx_nilP rfl rfl (hu.below hB)) rfl rfl ?_))
    refine Ge (dx_fldP 1 rfl ty_fld_27_4_4 rfl (hu.below hB) (cs' := [t.iv]) rfl (Nat.succ_pos _)) rfl rfl ?_
    rintro u26 _ ⟨rfl, p27⟩
    refine Va (dx_loadP rfl ty_one_25 rfl p27) rfl rfl (Pu rfl ?_)
    refine Ge (dx_idxB i rfl ty_slice_25 rfl rfl hit hB (by omega) (at_mapX hr_)) rfl rfl ?_
    rintro uc _ ⟨rfl, pc_⟩
    have hcb := ptB_base pc_ hB
    refine Ge (dx_cb rfl Tryz.func16 rfl rfl rfl (hval r_ uc P (b ++ [44]) w W21 hB hst htab hcb (hct r_ (List.mem_of_getElem? hr_)) (hz.2.2.2.2 r_ (List.mem_of_getElem? hr_)) (hrc r_ (List.mem_of_getElem? hr_)) (by (try simp only [List.length_append, List.length_cons, List.length_nil]); omega))) rfl rfl ?_
    rintro _ W28 ⟨⟨rfl, b4, hkb4, hst⟩, hB⟩
    have hL := LL.nil W28
    refine Ni (hK12 (Rg (Va (dx_add (r := (i : Int) + 1) rfl rfl rfl (wrap64_id (by omega))) rfl rfl (Pu rfl (Ni ?_)))))
    have hp_ := pcs_5 (n := m) hkt hr_
    have hx_ : PrK 8192 (1 + Kf m) b ([44] ++ prJ m r_.er) b4 := prK_then (prK_exact (b1 := b ++ [44]) (K := 1) (x := [44]) (by simp) (by simp)) hkb4 (by decide) (by unfold Kf; omega)
    have hq_ : PrK 8192 (6500000 + Kf m) l (91 :: commaJ ((pcs m t.er).take (i + 1))) b4 := by rw [comma_add _ i _ hp_, if_neg hi0]; exact prK_pre (x := 91 :: commaJ ((pcs m t.er).take i)) hgo.1 (by omega) (prK_le hx_ (by omega))
    exact hK7 (i + 1) b4 ⟨(by omega), hq_, hB, hL, hst⟩ (by omega) (by repeat first | exact trivial | refine aR ?_ | refine aI (by omega) ?_)
   ·
    replace c20 := dF c20
    have hi0 : i = 0 := by omega
    refine WC.skip (hK18 (Sq fun K29 hK29 => (Sq fun K30 hK30 => (Rg (Pu rfl (Va (dx_nilP rfl rfl (hu.below hB)) rfl rfl ?_))))))
    refine Ge (dx_fldP 1 rfl ty_fld_27_0_0 rfl (hu.below hB) (cs' := [.int .i64 t.kind]) rfl (Nat.succ_pos _)) rfl rfl ?_
    rintro u31 _ ⟨rfl, p32⟩
    refine Va ((hkt ▸ dx_loadP rfl ty_one_3 rfl p32)) rfl rfl (Va (dx_eql rfl rfl rfl) rfl rfl (Ni (hK30 (WC.condF rfl (WC.skip (hK29 (Rg ?_)))))))
    refine Pu rfl (Pu rfl (Va (dx_nilP rfl rfl (hu.below hB)) rfl rfl ?_))
    refine Ge (dx_fldP 1 rfl ty_fld_27_4_4 rfl (hu.below hB) (cs' := [t.iv]) rfl (Nat.succ_pos _)) rfl rfl ?_
    rintro u33 _ ⟨rfl, p34⟩
    refine Va (dx_loadP rfl ty_one_25 rfl p34) rfl rfl (Pu rfl ?_)
    refine Ge (dx_idxB i rfl ty_slice_25 rfl rfl hit hB (by omega) (at_mapX hr_)) rfl rfl ?_
    rintro uc _ ⟨rfl, pc_⟩
    have hcb := ptB_base pc_ hB
    refine Ge (dx_cb rfl Tryz.func16 rfl rfl rfl (hval r_ uc P b w W16 hB hst htab hcb (hct r_ (List.mem_of_getElem? hr_)) (hz.2.2.2.2 r_ (List.mem_of_getElem? hr_)) (hrc r_ (List.mem_of_getElem? hr_)) (by (try simp only [List.length_append, List.length_cons, List.length_nil]); omega))) rfl rfl ?_
    rintro _ W35 ⟨⟨rfl, b4, hkb4, hst⟩, hB⟩
    have hL := LL.nil W35
    refine Ni (hK12 (Rg (Va (dx_add (r := (i : Int) + 1) rfl rfl rfl (wrap64_id (by omega))) rfl rfl (Pu rfl (Ni ?_)))))
    have hp_ := pcs_5 (n := m) hkt hr_
    have hx_ : PrK 8192 (1 + Kf m) b ([] ++ prJ m r_.er) b4 := prK_then (prK_exact (b1 := b) (K := 1) (x := []) (by simp) (by simp)) hkb4 (by decide) (by unfold Kf; omega)
    have hq_ : PrK 8192 (6500000 + Kf m) l (91 :: commaJ ((pcs m t.er).take (i + 1))) b4 := by rw [comma_add _ i _ hp_, if_pos hi0]; exact prK_pre (x := 91 :: commaJ ((pcs m t.er).take i)) hgo.1 (by omega) (prK_le hx_ (by omega))
    exact hK7 (i + 1) b4 ⟨(by omega), hq_, hB, hL, hst⟩ (by omega) (by repeat first | exact trivial | refine aR ?_ | refine aI (by omega) ?_)
 ·
  replace c11 := dF c11
  refine WC.exit ?_
  refine hK3 ?_
  have hbd := hk.2
  unfold Kf at hbd
  refine Rg (Pu rfl (Va (dx_nilCheck rfl rfl) rfl rfl (Va (dx_fld (o1 := 0) rfl ty_fld_47_0_0 rfl rfl) rfl rfl (Pu rfl ?_))))
  refine Ge (dx_cb rfl Tryz.func61 rfl rfl rfl (wbyte_v P b 8192 93 w W8 hB hst (by (try simp only [List.length_append, List.length_cons, List.length_nil]); omega) (by omega) (by omega))) rfl rfl ?_
  rintro _ W36 ⟨⟨rfl, hst⟩, hB⟩
  have hL := LL.nil W36
  refine Ni ?_
  intro a_ ha_
  exact hE (cv_ret0 rfl  ⟨rfl, _, (by have hl_ := pcs_len5 (n := m) hkt; have e_ : (pcs m t.er).take i = pcs m t.er := List.take_of_length_le (by omega); rw [e_] at hk; rw [pr_5 hkt]; exact prK_le (prK_then (x := 91 :: commaJ (pcs m t.er)) (y := [93]) hk (prK_exact (K := 1) rfl (by simp)) (by unfold Kf; omega) (by decide)) (by unfold Kf; omega)), hst⟩ hB ha_)

set_option maxHeartbeats 1000000 in
theorem pitems6_v (m n : Nat) (t : Tr) (u : Value) (P : Nat) (l : List Int) (w w1 : World) (hB : Below w.heap.size w w1) (hst : PrS w.heap.size P l 8192 w1) (htab : tabP w) (hu : PtR [] w u (encT t)) (ht : RdT (n + 1) [] w t) (hz : SzT 1000000 (n + 1) t) (hkt : t.kind = 6) (hln : t.names.length = t.items.length) (hlen : l.length ≤ 10000000) (hm : m ≤ 12) (hval : ∀ (c : Tr) (uc : Value) (P : Nat) (l : List Int) (w w1 : World), Below w.heap.size w w1 → PrS w.heap.size P l 8192 w1 → tabP w → PtR [] w uc (encT c) → RdT n [] w c → SzT 1000000 n c → rightJ upB m c.er = true → l.length ≤ 10000000 → CB Tryz.prog 16 [selfP P, uc] w w1 fun v W => v = .tuple #[] ∧ ∃ l', PrK 8192 (Kf m) l (prJ m c.er) l' ∧ PrS w.heap.size P l' 8192 W) (hrc : ∀ c ∈ t.items, rightJ upB m c.er = true) : CB Tryz.prog 37 [.pointer (some ⟨P, 0, none⟩), u, .int .u8 123, .int .u8 125] w w1 fun v W => v = .tuple #[] ∧ ∃ l', PrK 8192 (Kf (m + 1)) l (prJ (m + 1) t.er) l' ∧ PrS w.heap.size P l' 8192 W := by
 refine cb_enter (N := 62) (f := [(0, .pointer (some ⟨P, 0, none⟩)), (1, u), (2, .int .u8 123), (3, .int .u8 125)]) Tryz.func37 rfl rfl rfl rfl fun Q hQ hE => ?_
 have hL := LL.nil w1
 refine Sq fun K1 hK1 => ?_
 obtain ⟨hnt, hit, hct⟩ := ht
 have hil0 := hit.len
 rw [List.length_map] at hil0
 unfold maxLen at hil0
 refine Rg (Pu rfl (Va (dx_nilCheck rfl rfl) rfl rfl (Va (dx_fld (o1 := 0) rfl ty_fld_47_0_0 rfl rfl) rfl rfl (Pu rfl ?_))))
 refine Ge (dx_cb rfl Tryz.func61 rfl rfl rfl (wbyte_v P l 8192 123 w w1 hB hst (by (try simp only [List.length_append, List.length_cons, List.length_nil]); omega) (by omega) (by omega))) rfl rfl ?_
 rintro _ W2 ⟨⟨rfl, hst⟩, hB⟩
 have hL := LL.nil W2
 refine Ni (hK1 (Sq fun K3 hK3 => (Sq fun K4 hK4 => (Rg (Pu rfl (Va (dx_nilP rfl rfl (hu.below hB)) rfl rfl ?_))))))
 refine Ge (dx_fldP 1 rfl ty_fld_27_4_4 rfl (hu.below hB) (cs' := [t.iv]) rfl (Nat.succ_pos _)) rfl rfl ?_
 rintro u5 _ ⟨rfl, p6⟩
 refine Va (dx_loadP rfl ty_one_25 rfl p6) rfl rfl (Va (dx_lenFM rfl ty_slice_25 rfl (hit.below hB)) rfl rfl (Pu rfl (Ni (hK4 (WC.block ?_)))))
 have hk0 : PrK 8192 (6500000 + Kf m) l (123 :: commaJ ((pcs m t.er).take 0)) (l ++ [123]) := prK_exact rfl (by unfold Kf; simp [commaJ]; omega)
 refine WC.loop2 (fun (i : Nat) (b : List Int) => [(0, .pointer (some ⟨P, 0, none⟩)), (1, u), (2, .int .u8 123), (3, .int .u8 125), (17, t.iv), (18, .int .i64 (t.items.length : Int)), (19, .int .i64 (i : Int))]) (fun (i : Nat) (b : List Int) W => i ≤ t.items.length ∧ PrK 8192 (6500000 + Kf m) l (123 :: commaJ ((pcs m t.er).take i)) b ∧ Below w.heap.size w W ∧ LL ([]) W ∧ PrS w.heap.size P b 8192 W) (fun (i : Nat) (b : List Int) => t.items.length - i) 0 (l ++ [123]) (by repeat first | exact trivial | refine aR ?_ | refine aI (by omega) ?_) ⟨Nat.zero_le _, hk0, hB, hL, hst⟩ ?_
 clear hst hB hL
 rintro K7 i b W8 ⟨hi, hk, hB, hL, hst⟩ hK7
 refine Sq fun K9 hK9 => (Rg (Va (dx_lss rfl rfl rfl) rfl rfl (Ni (hK9 (Sq fun K10 hK10 => ?_)))))
 refine WC.cond rfl (fun c11 => ?_) (fun c11 => ?_)
 ·
  replace c11 := dT c11
  refine WC.skip (hK10 (Sq fun K12 hK12 => (WC.block (Sq fun K13 hK13 => (Rg (Pu rfl (Pu rfl ?_)))))))
  refine Ni (hK13 (Sq fun K14 hK14 => (Sq fun K15 hK15 => (Rg (Pu rfl ?_)))))
  refine Ge (dx_cb rfl Tryz.func17 rfl rfl rfl (full_v P b 8192 w W8 hB hst)) rfl rfl ?_
  rintro _ W16 ⟨⟨rfl, hst⟩, hB⟩
  have hL := LL.nil W16
  refine Ni (hK15 ?_)
  refine WC.cond rfl (fun c17 => ?_) (fun c17 => ?_)
  ·
   replace c17 := dT c17
   exact WC.ret fun a_ ha_ => hQ (cv_ret0 rfl  ⟨rfl, b, (by obtain ⟨y_, hy_⟩ := comma_tail (pcs m t.er) i; rw [pr_6 hkt, hy_, List.append_assoc]; exact prK_le (prK_stop (x := 123 :: commaJ ((pcs m t.er).take i)) hk (by omega)) (by unfold Kf; omega)), hst⟩ hB ha_)
  ·
   replace c17 := dF c17
   refine WC.skip (hK14 (Sq fun K18 hK18 => (Sq fun K19 hK19 => ?_)))
   obtain hgo := prK_go hk (by omega)
   have hbl : (b.length : Int) ≤ 8192 := by omega
   obtain ⟨r_, hr_⟩ : ∃ x, t.items[i]? = some x := ⟨_, List.getElem?_eq_getElem (by omega)⟩
   refine Rg (Pu rfl (Va (dx_gtr rfl rfl rfl) rfl rfl (Ni (hK19 ?_))))
   refine WC.cond rfl (fun c20 => ?_) (fun c20 => ?_)
   ·
    replace c20 := dT c20
    have hi0 : ¬ i = 0 := by omega
    refine Rg (Pu rfl (Va (dx_nilCheck rfl rfl) rfl rfl (Va (dx_fld (o1 := 0) rfl ty_fld_47_0_0 rfl rfl) rfl rfl ?_)))
    refine Ge (dx_cb rfl Tryz.func61 rfl rfl rfl (wbyte_v P b 8192 44 w W16 hB hst (by (try simp only [List.length_append, List.length_cons, List.length_nil]); omega) (by omega) (by omega))) rfl rfl ?_
    rintro _ W21 ⟨⟨rfl, hst⟩, hB⟩
    have hL := LL.nil W21
    refine Ni (hK18 (Sq fun K22 hK22 => (Sq fun K23 hK23 => (Rg (Pu rfl (Va (dx_nilP rfl rfl (hu.below hB)) rfl rfl ?_))))))
    refine Ge (dx_fldP 1 rfl ty_fld_27_0_0 rfl (hu.below hB) (cs' := [.int .i64 t.kind]) rfl (Nat.succ_pos _)) rfl rfl ?_
    rintro u24 _ ⟨rfl, p25⟩
    refine Va ((hkt ▸ dx_loadP rfl ty_one_3 rfl p25)) rfl rfl (Va (dx_eql rfl rfl rfl) rfl rfl (Ni (hK23 (WC.condT rfl (Sq fun K26 hK26 => ?_)))))
    obtain ⟨a_, ha_n⟩ : ∃ x, t.names[i]? = some x := ⟨_, List.getElem?_eq_getElem (by omega)⟩
    refine Rg (Pu rfl (Pu rfl (Va (dx_nilP rfl rfl (hu.below hB)) rfl rfl ?_)))
    refine Ge (dx_fldP 1 rfl ty_fld_27_3_3 rfl (hu.below hB) (cs' := [t.nv]) rfl (Nat.succ_pos _)) rfl rfl ?_
    rintro u27 _ ⟨rfl, p28⟩
    refine Va (dx_loadP rfl ty_one_24 rfl p28) rfl rfl (Pu rfl ?_)
    refine Ge (dx_idxF i rfl ty_slice_24 rfl rfl (hnt.below hB) (by omega) (at_mapX ha_n)) rfl rfl ?_
    rintro un _ ⟨rfl, pn_⟩
    refine Va (dx_loadP rfl ty_one_9 rfl pn_) rfl rfl ?_
    refine Ge (dx_cb rfl Tryz.func36 rfl rfl rfl (ptext_v P (b ++ [44]) 8192 a_ w W21 hB hst (by (try simp only [List.length_append, List.length_cons, List.length_nil]); omega) (hz.2.2.2.1 _ (List.mem_of_getElem? ha_n)))) rfl rfl ?_
    rintro _ W29 ⟨⟨rfl, b2, hkb2, hst⟩, hB⟩
    have hL := LL.nil W29
    refine Ni (hK26 ?_)
    have hbd2 := hkb2.2
    (try simp only [List.length_append, List.length_cons, List.length_nil] at hbd2)
    refine Rg (Pu rfl (Va (dx_nilCheck rfl rfl) rfl rfl (Va (dx_fld (o1 := 0) rfl ty_fld_47_0_0 rfl rfl) rfl rfl ?_)))
    refine Ge (dx_cb rfl Tryz.func61 rfl rfl rfl (wbyte_v P b2 8192 58 w W29 hB hst (by (try simp only [List.length_append, List.length_cons, List.length_nil]); omega) (by omega) (by omega))) rfl rfl ?_
    rintro _ W30 ⟨⟨rfl, hst⟩, hB⟩
    have hL := LL.nil W30
    refine Ni (hK22 (Rg (Pu rfl (Pu rfl (Va (dx_nilP rfl rfl (hu.below hB)) rfl rfl ?_)))))
    refine Ge (dx_fldP 1 rfl ty_fld_27_4_4 rfl (hu.below hB) (cs' := [t.iv]) rfl (Nat.succ_pos _)) rfl rfl ?_
    rintro u31 _ ⟨rfl, p32⟩
    refine Va (dx_loadP rfl ty_one_25 rfl p32) rfl rfl (Pu rfl ?_)
    refine Ge (dx_idxB i rfl ty_slice_25 rfl rfl hit hB (by omega) (at_mapX hr_)) rfl rfl ?_
    rintro uc _ ⟨rfl, pc_⟩
    have hcb := ptB_base pc_ hB
    refine Ge (dx_cb rfl Tryz.func16 rfl rfl rfl (hval r_ uc P (b2 ++ [58]) w W30 hB hst htab hcb (hct r_ (List.mem_of_getElem? hr_)) (hz.2.2.2.2 r_ (List.mem_of_getElem? hr_)) (hrc r_ (List.mem_of_getElem? hr_)) (by (try simp only [List.length_append, List.length_cons, List.length_nil]); omega))) rfl rfl ?_
    rintro _ W33 ⟨⟨rfl, b4, hkb4, hst⟩, hB⟩
    have hL := LL.nil W33
    refine Ni (hK12 (Rg (Va (dx_add (r := (i : Int) + 1) rfl rfl rfl (wrap64_id (by omega))) rfl rfl (Pu rfl (Ni ?_)))))
    have hp_ := pcs_6 (n := m) hkt hr_ ha_n
    have hx_ : PrK 8192 (1 + (6000002 + (1 + Kf m))) b ([44] ++ (quoJ a_ ++ (58 :: prJ m r_.er))) b4 := prK_then (prK_exact (b1 := b ++ [44]) (K := 1) (x := [44]) (by simp) (by simp)) (prK_then hkb2 (prK_then (x := [58]) (K := 1) (prK_exact (b1 := b2 ++ [58]) rfl (by simp)) hkb4 (by decide) (by unfold Kf; omega)) (by decide) (by unfold Kf; omega)) (by decide) (by unfold Kf; omega)
    have hq_ : PrK 8192 (6500000 + Kf m) l (123 :: commaJ ((pcs m t.er).take (i + 1))) b4 := by rw [comma_add _ i _ hp_, if_neg hi0]; exact prK_pre (x := 123 :: commaJ ((pcs m t.er).take i)) hgo.1 (by omega) (prK_le hx_ (by omega))
    exact hK7 (i + 1) b4 ⟨(by omega), hq_, hB, hL, hst⟩ (by omega) (by repeat first | exact trivial | refine aR ?_ | refine aI (by omega) ?_)
   ·
    replace c20 := dF c20
    have hi0 : i = 0 := by omega
    refine WC.skip (hK18 (Sq fun K34 hK34 => (Sq fun K35 hK35 => (Rg (Pu rfl (Va (dx_nilP rfl rfl (hu.below hB)) rfl rfl ?_))))))
    refine Ge (dx_fldP 1 rfl ty_fld_27_0_0 rfl (hu.below hB) (cs' := [.int .i64 t.kind]) rfl (Nat.succ_pos _)) rfl rfl ?_
    rintro u36 _ ⟨rfl, p37⟩
    refine Va ((hkt ▸ dx_loadP rfl ty_one_3 rfl p37)) rfl rfl (Va (dx_eql rfl rfl rfl) rfl rfl (Ni (hK35 (WC.condT rfl (Sq fun K38 hK38 => ?_)))))
    obtain ⟨a_, ha_n⟩ : ∃ x, t.names[i]? = some x := ⟨_, List.getElem?_eq_getElem (by omega)⟩
    refine Rg (Pu rfl (Pu rfl (Va (dx_nilP rfl rfl (hu.below hB)) rfl rfl ?_)))
    refine Ge (dx_fldP 1 rfl ty_fld_27_3_3 rfl (hu.below hB) (cs' := [t.nv]) rfl (Nat.succ_pos _)) rfl rfl ?_
    rintro u39 _ ⟨rfl, p40⟩
    refine Va (dx_loadP rfl ty_one_24 rfl p40) rfl rfl (Pu rfl ?_)
    refine Ge (dx_idxF i rfl ty_slice_24 rfl rfl (hnt.below hB) (by omega) (at_mapX ha_n)) rfl rfl ?_
    rintro un _ ⟨rfl, pn_⟩
    refine Va (dx_loadP rfl ty_one_9 rfl pn_) rfl rfl ?_
    refine Ge (dx_cb rfl Tryz.func36 rfl rfl rfl (ptext_v P b 8192 a_ w W16 hB hst (by (try simp only [List.length_append, List.length_cons, List.length_nil]); omega) (hz.2.2.2.1 _ (List.mem_of_getElem? ha_n)))) rfl rfl ?_
    rintro _ W41 ⟨⟨rfl, b2, hkb2, hst⟩, hB⟩
    have hL := LL.nil W41
    refine Ni (hK38 ?_)
    have hbd2 := hkb2.2
    (try simp only [List.length_append, List.length_cons, List.length_nil] at hbd2)
    refine Rg (Pu rfl (Va (dx_nilCheck rfl rfl) rfl rfl (Va (dx_fld (o1 := 0) rfl ty_fld_47_0_0 rfl rfl) rfl rfl ?_)))
    refine Ge (dx_cb rfl Tryz.func61 rfl rfl rfl (wbyte_v P b2 8192 58 w W41 hB hst (by (try simp only [List.length_append, List.length_cons, List.length_nil]); omega) (by omega) (by omega))) rfl rfl ?_
    rintro _ W42 ⟨⟨rfl, hst⟩, hB⟩
    have hL := LL.nil W42
    refine Ni (hK34 (Rg (Pu rfl (Pu rfl (Va (dx_nilP rfl rfl (hu.below hB)) rfl rfl ?_)))))
    refine Ge (dx_fldP 1 rfl ty_fld_27_4_4 rfl (hu.below hB) (cs' := [t.iv]) rfl (Nat.succ_pos _)) rfl rfl ?_
    rintro u43 _ ⟨rfl, p44⟩
    refine Va (dx_loadP rfl ty_one_25 rfl p44) rfl rfl (Pu rfl ?_)
    refine Ge (dx_idxB i rfl ty_slice_25 rfl rfl hit hB (by omega) (at_mapX hr_)) rfl rfl ?_
    rintro uc _ ⟨rfl, pc_⟩
    have hcb := ptB_base pc_ hB
    refine Ge (dx_cb rfl Tryz.func16 rfl rfl rfl (hval r_ uc P (b2 ++ [58]) w W42 hB hst htab hcb (hct r_ (List.mem_of_getElem? hr_)) (hz.2.2.2.2 r_ (List.mem_of_getElem? hr_)) (hrc r_ (List.mem_of_getElem? hr_)) (by (try simp only [List.length_append, List.length_cons, List.length_nil]); omega))) rfl rfl ?_
    rintro _ W45 ⟨⟨rfl, b4, hkb4, hst⟩, hB⟩
    have hL := LL.nil W45
    refine Ni (hK12 (Rg (Va (dx_add (r := (i : Int) + 1) rfl rfl rfl (wrap64_id (by omega))) rfl rfl (Pu rfl (Ni ?_)))))
    have hp_ := pcs_6 (n := m) hkt hr_ ha_n
    have hx_ : PrK 8192 (1 + (6000002 + (1 + Kf m))) b ([] ++ (quoJ a_ ++ (58 :: prJ m r_.er))) b4 := prK_then (prK_exact (b1 := b) (K := 1) (x := []) (by simp) (by simp)) (prK_then hkb2 (prK_then (x := [58]) (K := 1) (prK_exact (b1 := b2 ++ [58]) rfl (by simp)) hkb4 (by decide) (by unfold Kf; omega)) (by decide) (by unfold Kf; omega)) (by decide) (by unfold Kf; omega)
    have hq_ : PrK 8192 (6500000 + Kf m) l (123 :: commaJ ((pcs m t.er).take (i + 1))) b4 := by rw [comma_add _ i _ hp_, if_pos hi0]; exact prK_pre (x := 123 :: commaJ ((pcs m t.er).take i)) hgo.1 (by omega) (prK_le hx_ (by omega))
    exact hK7 (i + 1) b4 ⟨(by omega), hq_, hB, hL, hst⟩ (by omega) (by repeat first | exact trivial | refine aR ?_ | refine aI (by omega) ?_)
 ·
  replace c11 := dF c11
  refine WC.exit ?_
  refine hK3 ?_
  have hbd := hk.2
  unfold Kf at hbd
  refine Rg (Pu rfl (Va (dx_nilCheck rfl rfl) rfl rfl (Va (dx_fld (o1 := 0) rfl ty_fld_47_0_0 rfl rfl) rfl rfl (Pu rfl ?_))))
  refine Ge (dx_cb rfl Tryz.func61 rfl rfl rfl (wbyte_v P b 8192 125 w W8 hB hst (by (try simp only [List.length_append, List.length_cons, List.length_nil]); omega) (by omega) (by omega))) rfl rfl ?_
  rintro _ W46 ⟨⟨rfl, hst⟩, hB⟩
  have hL := LL.nil W46
  refine Ni ?_
  intro a_ ha_
  exact hE (cv_ret0 rfl  ⟨rfl, _, (by have hl_ := pcs_len6 (n := m) hkt hln; have e_ : (pcs m t.er).take i = pcs m t.er := List.take_of_length_le (by omega); rw [e_] at hk; rw [pr_6 hkt]; exact prK_le (prK_then (x := 123 :: commaJ (pcs m t.er)) (y := [125]) hk (prK_exact (K := 1) rfl (by simp)) (by unfold Kf; omega) (by decide)) (by unfold Kf; omega)), hst⟩ hB ha_)

theorem tab_of_three {W : World} (hL : laidMet Tryz.prog [("math/bits.deBruijn32tab", Rows.laid_math_bits_deBruijn32tab), ("math/bits.deBruijn64tab", Rows.laid_math_bits_deBruijn64tab), ("internal/strconv.uint64pow10", Rows.laid_internal_strconv_uint64pow10)] W) : tabP W := by
 have h2 : laidMet Tryz.prog [("internal/strconv.uint64pow10", Rows.laid_internal_strconv_uint64pow10)] W := laidMet.tail (laidMet.tail hL)
 exact Go.Lib.tabIs_of_head (g := 0) (t := 132) (e := 123) (n := 20) (by kernel_rfl) (by kernel_rfl) Tryz.underlying132 Tryz.underlying123 (by kernel_rfl) (by kernel_rfl) h2
section
variable {P : Program} {ops : Array Oper} {o : Oper} {N : Nat} {f : Fl} {w : World}
theorem dx_lit8 {t bytes : Nat} {K : IntKind} {n0 n1 n2 n3 n4 n5 n6 n7 : Int} (ho : o.op = .buildSlice t 8 #[(0, .const (.int K n0)), (1, .const (.int K n1)), (2, .const (.int K n2)), (3, .const (.int K n3)), (4, .const (.int K n4)), (5, .const (.int K n5)), (6, .const (.int K n6)), (7, .const (.int K n7))]) (ht : apB P t 1 bytes = true) (hw : wantF ops o f = some true := by rfl) : DR P ops o N f w (NewO 1 w ([n0, n1, n2, n3, n4, n5, n6, n7].map fun n => [.int K n])) := by
 obtain ⟨e, i, Z, hu, hi, hZ, hs, rfl, hzs⟩ := of_apB ht
 refine dx_lit (ps := [(0, .int K n0), (1, .int K n1), (2, .int K n2), (3, .int K n3), (4, .int K n4), (5, .int K n5), (6, .int K n6), (7, .int K n7)]) (rs := [n0, n1, n2, n3, n4, n5, n6, n7].map fun n => [.int K n]) ho hu hi hZ hs (by decide) (by simp [evl, ev]) (by omega) ?_ (by simp) rfl (by unfold maxLen; omega) hw
 rw [if_neg (by decide)]
 have hl : ∀ c : Array Value, c.size = 8 → Instr.fill (fun k => some (k * 1, 1)) c [(0, .int K n0), (1, .int K n1), (2, .int K n2), (3, .int K n3), (4, .int K n4), (5, .int K n5), (6, .int K n6), (7, .int K n7)] = some #[.int K n0, .int K n1, .int K n2, .int K n3, .int K n4, .int K n5, .int K n6, .int K n7] := fun c hc => by
  obtain ⟨l⟩ := c
  match l, hc with
  | [a, b, c, d, e, f, g, h], _ => simp [Instr.fill, Value.cells]
 exact hl _ (by simp)
end
theorem fourN_in {s : ByteArray} : ∀ (n k : Nat) (r q : Int), 0 ≤ r → fourN s n k r = some q → 0 ≤ q ∧ q < (r + 1) * 16 ^ n ∧ (n = 0 ∨ k + n ≤ s.size)
  | 0, k, r, q, h0, h => by rw [fourN] at h; cases h; exact ⟨h0, by simp; omega, .inl rfl⟩
  | n + 1, k, r, q, h0, h => by
    rw [fourN] at h
    split at h
    · rename_i hc
      rw [Bool.and_eq_true, decide_eq_true_eq, decide_eq_true_eq] at hc
      have h16 := hexD_in (c := atS s k) (by omega)
      have h17 := hexD_le (atS s k)
      obtain ⟨a, b, c⟩ := fourN_in n (k + 1) _ q (by omega) h
      refine ⟨a, Int.lt_of_lt_of_le b ?_, .inr (by omega)⟩
      rw [Int.pow_succ, ← Int.mul_assoc, Int.mul_right_comm]
      exact Int.mul_le_mul_of_nonneg_right (by omega) (Int.pow_nonneg (by decide))
    · cases h
theorem four_rng {s : ByteArray} {k : Nat} {r : Int} (h : fourS s k = some r) : 0 ≤ r ∧ r ≤ 65535 ∧ k + 4 ≤ s.size := by
 obtain ⟨a, b, c⟩ := fourN_in 4 k 0 r (by decide) h
 exact ⟨a, by simp at b; omega, by omega⟩
theorem refEncode_cv (u : Value) (r : Int) (w : World) (h : RdI .i32 w u [r]) : CV Tryz.prog 79 [u] w fun v W => (∃ x, v = .tuple #[x, .int .i64 0] ∧ isRuneB r = true ∧ NewW 1 w.heap.size ((encI r).map e8) x W) ∨ (v = .tuple #[.slice none 0 0, .int .i64 2] ∧ isRuneB r = false) :=
  Calls.mono (ref_encode_any u [r] w h (show 1 ≤ 1000000 by decide)) fun e w' h => by
    obtain ⟨v, c, rfl, hb, h⟩ := h
    refine ⟨_, rfl, ?_, hb⟩
    rcases h with ⟨bs, h1, rfl, h2, h3, h4⟩ | ⟨h1, rfl, rfl⟩
    · cases hr : isRuneB r with
      | false => rw [encS, hr] at h1; cases h1
      | true =>
        rw [encS, hr] at h1
        obtain rfl : encI r ++ [] = bs := Option.some.inj h1
        rw [List.append_nil] at h4
        exact .inl ⟨v, rfl, rfl, .of_row h4⟩
    · cases hr : isRuneB r with
      | true => rw [encS, hr] at h1; cases h1
      | false => exact .inr ⟨rfl, rfl⟩
theorem from_to {i : Nat} (h : i < 8) : ∃ c d : Int, atS ⟨#[34, 92, 47, 98, 102, 110, 114, 116]⟩ i = c ∧ ([34, 92, 47, 8, 12, 10, 13, 9] : List Int)[i]? = some d ∧ ((c = 34 ∧ d = 34) ∨ (c = 92 ∧ d = 92) ∨ (c = 47 ∧ d = 47) ∨ (c = 98 ∧ d = 8) ∨ (c = 102 ∧ d = 12) ∨ (c = 110 ∧ d = 10) ∨ (c = 114 ∧ d = 13) ∨ (c = 116 ∧ d = 9)) := by
 refine ⟨_, _, rfl, List.getElem?_eq_getElem (by simpa using h), ?_⟩
 match i, h with
 | 0, _ => simp; decide
 | 1, _ => simp; decide
 | 2, _ => simp; decide
 | 3, _ => simp; decide
 | 4, _ => simp; decide
 | 5, _ => simp; decide
 | 6, _ => simp; decide
 | 7, _ => simp; decide
 | n + 8, h => omega
theorem from_all {c : Int} (h : ∀ i, i < 8 → c ≠ atS ⟨#[34, 92, 47, 98, 102, 110, 114, 116]⟩ i) : c ≠ 34 ∧ c ≠ 92 ∧ c ≠ 47 ∧ c ≠ 98 ∧ c ≠ 102 ∧ c ≠ 110 ∧ c ≠ 114 ∧ c ≠ 116 := ⟨h 0 (by decide), h 1 (by decide), h 2 (by decide), h 3 (by decide), h 4 (by decide), h 5 (by decide), h 6 (by decide), h 7 (by decide)⟩
theorem escB_to {s : ByteArray} {k : Nat} {c d : Int} (h : k < s.size) (hc : atS s k = c) (hd : (c = 34 ∧ d = 34) ∨ (c = 92 ∧ d = 92) ∨ (c = 47 ∧ d = 47) ∨ (c = 98 ∧ d = 8) ∨ (c = 102 ∧ d = 12) ∨ (c = 110 ∧ d = 10) ∨ (c = 114 ∧ d = 13) ∨ (c = 116 ∧ d = 9)) : escB s k = some ([d], k + 1) := by
 have t : takeS s k 117 = false := by unfold takeS; rw [decide_eq_true h, Bool.true_and]; exact decide_eq_false (by omega)
 rw [escB_g t h hc]
 rcases hd with ⟨rfl, rfl⟩ | ⟨rfl, rfl⟩ | ⟨rfl, rfl⟩ | ⟨rfl, rfl⟩ | ⟨rfl, rfl⟩ | ⟨rfl, rfl⟩ | ⟨rfl, rfl⟩ | ⟨rfl, rfl⟩ <;> rfl
theorem escB_none {s : ByteArray} {k : Nat} {c : Int} (h : k < s.size) (hc : atS s k = c) (hu : c ≠ 117) (hn : c ≠ 34 ∧ c ≠ 92 ∧ c ≠ 47 ∧ c ≠ 98 ∧ c ≠ 102 ∧ c ≠ 110 ∧ c ≠ 114 ∧ c ≠ 116) : escB s k = none := by
 have t : takeS s k 117 = false := by unfold takeS; rw [decide_eq_true h, Bool.true_and]; exact decide_eq_false (by omega)
 rw [escB_g t h hc, if_neg (by omega), if_neg (by omega), if_neg (by omega), if_neg (by omega), if_neg (by omega), if_neg (by omega)]
def escN (s : ByteArray) (k : Nat) : Int × Nat := match fourS s (k + 1) with
 | none => (-1, k + 5)
 | some r => if 55296 ≤ r ∧ r ≤ 56319 ∧ beginS s ⟨#[92, 117]⟩ (k + 5) = true then (match fourS s (k + 7) with
  | none => (r, k + 5)
  | some q => if 56320 ≤ q ∧ q ≤ 57343 then (65536 + (r - 55296) * 1024 + (q - 56320), k + 11) else (r, k + 5)) else (r, k + 5)
theorem begin_two {s : ByteArray} {k : Nat} (hk : k ≤ s.size) : beginS s ⟨#[92, 117]⟩ k = (takeS s k 92 && takeS s (k + 1) 117) := by
 rw [begin_word hk]
 unfold wordS
 show ((List.range 2).all fun i => takeS s (k + i) (atS ⟨#[92, 117]⟩ i)) = _
 rw [show List.range 2 = [0, 1] from rfl]
 simp only [List.all_cons, List.all_nil, Bool.and_true]
 rfl
theorem escB_N {s : ByteArray} {k : Nat} (h : k < s.size) (hc : atS s k = 117) : escB s k = if isRuneB (escN s k).1 = true then some (encI (escN s k).1, (escN s k).2) else none := by
  have t : takeS s k 117 = true := by unfold takeS; rw [decide_eq_true h, Bool.true_and]; exact decide_eq_true hc
  have hm : isRuneB (-1) = false := by decide
  have hs : ∀ r : Int, 55296 ≤ r → r ≤ 56319 → isRuneB r = false := fun r h1 h2 => by
    unfold isRuneB
    simp; omega
  suffices hh : ∀ p : Int × Nat, escN s k = p → escB s k = if isRuneB p.1 = true then some (encI p.1, p.2) else none from hh _ rfl
  intro p hp
  unfold escN at hp
  have no : ∀ {r : Int} {k' : Nat}, isRuneB r = false → (if isRuneB ((r, k') : Int × Nat).1 = true then some (encI ((r, k') : Int × Nat).1, ((r, k') : Int × Nat).2) else none) = none := fun h => if_neg fun h_ => by cases h.symm.trans h_
  cases h4 : fourS s (k + 1) with
  | none => rw [h4] at hp; subst hp; exact (escB_n t rfl (escR_n h4)).trans (no hm).symm
  | some r =>
    obtain ⟨r0, r1, r2⟩ := four_rng h4
    rw [h4] at hp
    dsimp only at hp
    by_cases hr : 55296 ≤ r ∧ r ≤ 56319
    · have hr' : ¬ (r < 55296 ∨ 56319 < r) := by omega
      cases t1 : takeS s (k + 5) 92 with
      | false => rw [if_neg (fun h_ => by rw [begin_two (by omega), t1] at h_; cases h_.2.2)] at hp; subst hp; exact (escB_n t rfl (escR_b h4 hr' rfl t1)).trans (no (hs r hr.1 hr.2)).symm
      | true =>
        cases t2 : takeS s (k + 5 + 1) 117 with
        | false => rw [if_neg (fun h_ => by rw [begin_two (by omega), t1, t2] at h_; cases h_.2.2)] at hp; subst hp; exact (escB_n t rfl (escR_b' h4 hr' rfl t1 rfl t2)).trans (no (hs r hr.1 hr.2)).symm
        | true =>
          rw [if_pos ⟨hr.1, hr.2, by rw [begin_two (by omega), t1, t2]; rfl⟩] at hp
          cases h7 : fourS s (k + 7) with
          | none => rw [h7] at hp; subst hp; exact (escB_n t rfl (escR_c h4 hr' rfl t1 rfl t2 rfl h7)).trans (no (hs r hr.1 hr.2)).symm
          | some q =>
            rw [h7] at hp
            dsimp only at hp
            by_cases hq : 56320 ≤ q ∧ q ≤ 57343
            · rw [if_pos hq] at hp
              subst hp
              have e := escR_e h4 hr' rfl t1 rfl t2 rfl h7 (show ¬ (q < 56320 ∨ 57343 < q) by omega) rfl
              by_cases hb : isRuneB (65536 + (r - 55296) * 1024 + (q - 56320)) = true
              · exact (escB_r t rfl e hb).trans (if_pos hb).symm
              · exact (escB_x t rfl e (Bool.eq_false_iff.2 hb)).trans (no (Bool.eq_false_iff.2 hb)).symm
            · rw [if_neg hq] at hp; subst hp; exact (escB_n t rfl (escR_d h4 hr' rfl t1 rfl t2 rfl h7 (by omega))).trans (no (hs r hr.1 hr.2)).symm
    · rw [if_neg (fun h_ => hr ⟨h_.1, h_.2.1⟩)] at hp
      subst hp
      have e := escR_a h4 (show r < 55296 ∨ 56319 < r by omega) rfl
      by_cases hb : isRuneB r = true
      · exact (escB_r t rfl e hb).trans (if_pos hb).symm
      · exact (escB_x t rfl e (Bool.eq_false_iff.2 hb)).trans (no (Bool.eq_false_iff.2 hb)).symm
section
variable {s : ByteArray} {k y : Nat} {r q x : Int}
theorem escN_n (h : fourS s (k + 1) = none) (ex : x = -1) (ey : y = k + 5) : escN s k = (x, y) := by subst ex ey; unfold escN; rw [h]
theorem escN_a (h : fourS s (k + 1) = some r) (hr : ¬ (55296 ≤ r ∧ r ≤ 56319)) (ex : x = r) (ey : y = k + 5) : escN s k = (x, y) := by
 subst ex ey; unfold escN; rw [h]; dsimp only; rw [if_neg fun h_ => hr ⟨h_.1, h_.2.1⟩]
theorem escN_b (h : fourS s (k + 1) = some r) (hb : beginS s ⟨#[92, 117]⟩ (k + 5) = false) (ex : x = r) (ey : y = k + 5) : escN s k = (x, y) := by
 subst ex ey; unfold escN; rw [h]; dsimp only; rw [if_neg fun h_ => by rw [hb] at h_; cases h_.2.2]
theorem escN_c (h : fourS s (k + 1) = some r) (hr : 55296 ≤ r) (hr' : r ≤ 56319) (hb : beginS s ⟨#[92, 117]⟩ (k + 5) = true) (h7 : fourS s (k + 7) = none) (ex : x = r) (ey : y = k + 5) : escN s k = (x, y) := by
 subst ex ey; unfold escN; rw [h]; dsimp only; rw [if_pos ⟨hr, hr', hb⟩, h7]
theorem escN_d (h : fourS s (k + 1) = some r) (hr : 55296 ≤ r) (hr' : r ≤ 56319) (hb : beginS s ⟨#[92, 117]⟩ (k + 5) = true) (h7 : fourS s (k + 7) = some q) (hq : ¬ (56320 ≤ q ∧ q ≤ 57343)) (ex : x = r) (ey : y = k + 5) : escN s k = (x, y) := by
 subst ex ey; unfold escN; rw [h]; dsimp only; rw [if_pos ⟨hr, hr', hb⟩, h7]; dsimp only; rw [if_neg hq]
theorem escN_e (h : fourS s (k + 1) = some r) (hr : 55296 ≤ r) (hr' : r ≤ 56319) (hb : beginS s ⟨#[92, 117]⟩ (k + 5) = true) (h7 : fourS s (k + 7) = some q) (hq : 56320 ≤ q) (hq' : q ≤ 57343) (ex : x = 65536 + (r - 55296) * 1024 + (q - 56320)) (ey : y = k + 11) : escN s k = (x, y) := by
 subst ex ey; unfold escN; rw [h]; dsimp only; rw [if_pos ⟨hr, hr', hb⟩, h7]; dsimp only; rw [if_pos ⟨hq, hq'⟩]
theorem escB_N1 (h : k < s.size) (hc : atS s k = 117) (e : escN s k = (x, y)) (hr : isRuneB x = true) : escB s k = some (encI x, y) := by rw [escB_N h hc, e]; exact if_pos hr
theorem escB_N0 (h : k < s.size) (hc : atS s k = 117) (e : escN s k = (x, y)) (hr : isRuneB x = false) : escB s k = none := by rw [escB_N h hc, e]; exact if_neg fun h_ => by cases hr.symm.trans h_
theorem begin_le (h : beginS s ⟨#[92, 117]⟩ (k + 5) = true) : k + 7 ≤ s.size := by
 unfold beginS at h
 rw [Bool.and_eq_true, decide_eq_true_eq] at h
 exact h.1
theorem escB_end (h : k = s.size) : escB s k = none := escB_e (by unfold takeS; rw [decide_eq_false (by omega)]; rfl) (by omega)
end
theorem row_one {R : List (List Value)} {i : Nat} {r : List Value} (h : R[i]? = some r) : (R.drop i).take (i + 1 - i) = [r] := by
 obtain ⟨hl, he⟩ := List.getElem?_eq_some_iff.1 h
 rw [List.drop_eq_getElem_cons hl, he, show i + 1 - i = 1 by omega]
 rfl
theorem lit_row {sp : List (List Value)} {i : Nat} {d : Int} (h : ([34, 92, 47, 8, 12, 10, 13, 9] : List Int)[i]? = some d) : ((([34, 92, 47, 8, 12, 10, 13, 9] : List Int).map fun n => [Value.int .u8 n]) ++ sp)[i]? = some (e8 d) := by
 have hl := (List.getElem?_eq_some_iff.1 h).1
 rw [List.getElem?_append_left (by rw [List.length_map]; exact hl), List.getElem?_map, h]
 rfl
theorem refFour_c (s : ByteArray) (ka : Nat) (w : World) (L : List Nat) (hL : LL L w) (hs : s.size ≤ 1000000) (hk : ka ≤ s.size) : CV Tryz.prog 78 [.string s, .int .i64 (ka : Int)] w fun v W => (∃ r, v = .int .i64 r ∧ fourS s ka = some r ∧ 0 ≤ r ∧ r ≤ 65535 ∧ ka + 4 ≤ s.size) ∨ (v = .int .i64 (-1) ∧ fourS s ka = none) :=
 (refFour_v s ka w L hL hs hk).mono fun v W _ h => by
  subst h
  cases h4 : fourS s ka with
  | none => exact .inr ⟨rfl, rfl⟩
  | some r => obtain ⟨a, b, c⟩ := four_rng h4; exact .inl ⟨r, rfl, rfl, a, b, c⟩
abbrev lit8 : List (List Value) := ([34, 92, 47, 8, 12, 10, 13, 9] : List Int).map fun n => [Value.int .u8 n]
def litR (w : World) (B c : Nat) : Prop := ∃ sp, c = (lit8 ++ sp).length ∧ RwB 1 w B (lit8 ++ sp)
theorem litR.below {w w' : World} {B c : Nat} (h : litR w B c) (hb : Below w.heap.size w w') : litR w' B c := by obtain ⟨sp, e, h⟩ := h; exact ⟨sp, e, h.below hb⟩
theorem litR.len {w : World} {B c : Nat} (h : litR w B c) : 8 ≤ c := by obtain ⟨sp, rfl, h⟩ := h; rw [List.length_append]; exact Nat.le_add_right _ _
theorem litR.row {w : World} {B c i : Nat} {d : Int} (h : litR w B c) (hi : i < 8) (hd : ([34, 92, 47, 8, 12, 10, 13, 9] : List Int)[i]? = some d) : RdF 1 [] w (.slice (some ⟨B, offV c i 0 1, none⟩) (i + 1 - i) (c - i)) ([d].map e8) := by
 have hc := h.len
 obtain ⟨sp, rfl, h⟩ := h
 have hp := h.part (L := []) (by simp) (lo := i) (n := i + 1 - i) (c := (lit8 ++ sp).length - i) (o1 := offV (lit8 ++ sp).length i 0 1) (fun _ => by rw [offV_in (n := 1) (by decide) (by omega)]; omega) (by omega) (by omega)
 rw [row_one (lit_row hd)] at hp
 exact hp
set_option maxHeartbeats 1000000 in
theorem refEsc_v (s : ByteArray) (ka : Nat) (w : World) (L : List Nat) (hL : LL L w)   (hs : s.size ≤ 1000000) (hk : ka ≤ s.size) : CV Tryz.prog 64 [.string s, .int .i64 (ka : Int)] w fun v W => (∃ (l : List Int) (k' : Nat), v = .tuple #[.string (strOfNums l), .int .i64 (k' : Int)] ∧ escB s ka = some (l, k') ∧ Bytes l ∧ ka + l.length ≤ k' ∧ k' ≤ s.size) ∨ (v = .tuple #[.string ⟨#[]⟩, .int .i64 (-1)] ∧ escB s ka = none) := by
 refine cv_enter (N := 89) (f := [(0, .string s), (1, .int .i64 (ka : Int))]) Tryz.func64 rfl rfl rfl rfl fun Q hQ hE => ?_
 have hB := Below.refl w.heap.size w
 refine Sq fun K1 hK1 => (Rg (Pu rfl (Pu rfl (Ni (hK1 (Sq fun K2 hK2 => (Sq fun K3 hK3 => ?_)))))))
 refine Rg (Pu rfl (Pu rfl (Va (dx_lenT rfl Tryz.underlying9 rfl) rfl rfl (Va (dx_geq rfl rfl rfl) rfl rfl (Ni (hK3 ?_))))))
 refine WC.cond rfl (fun c4 => ?_) (fun c4 => ?_)
 ·
  replace c4 := dT c4
  refine Sq fun K5 hK5 => (Rg (Pu rfl (Pu rfl (Ni (hK5 ?_)))))
  exact WC.ret fun a_ ha_ => hQ (cv_ret2 rfl (.tmp rfl) (.tmp rfl) (.inr ⟨rfl, escB_end (by omega)⟩) hB ha_)
 ·
  replace c4 := dF c4
  refine WC.skip (hK2 (Sq fun K6 hK6 => (Rg (Pu rfl (Ni (hK6 (Sq fun K7 hK7 => ?_)))))))
  have hF8 : (⟨#[34, 92, 47, 98, 102, 110, 114, 116]⟩ : ByteArray).size = 8 := rfl
  refine Rg ?_
  refine Ge (dx_lit8 rfl ty_ap_34) rfl rfl ?_
  rintro _ W8 ⟨k10, b9, z11⟩
  replace hB := below_then hB b9
  replace hL := LL.below hL b9
  obtain ⟨c, rfl, h7⟩ : ∃ c, _ = Value.slice (some ⟨w.heap.size, 0, none⟩) 8 c ∧ litR W8 (w.heap.size) c := (by obtain ⟨sp, e_, h_⟩ := k10.open; exact ⟨_, e_, sp, rfl, h_⟩)
  have h7c := h7.len
  refine Pu rfl (Ni (hK7 (Sq fun K13 hK13 => (Sq fun K14 hK14 => (Rg (Pu rfl (Ni ?_)))))))
  refine hK14 (WC.block ?_)
  refine WC.loop (fun (i : Nat) => [(0, .string s), (1, .int .i64 (ka : Int)), (6, .string ({ data := #[34, 92, 47, 98, 102, 110, 114, 116] })), (7, .slice (some ⟨w.heap.size, 0, none⟩) 8 c), (8, .int .i64 (i : Int))]) (fun (i : Nat) W => i ≤ 8 ∧ (∀ j, j < i → atS s ka ≠ atS ⟨#[34, 92, 47, 98, 102, 110, 114, 116]⟩ j) ∧ Below w.heap.size w W ∧ LL (L) W ∧ litR W (w.heap.size) c) (fun (i : Nat) => 8 - i) 0 (by repeat first | exact trivial | refine aR ?_ | refine aI (by omega) ?_) ⟨(by omega), (fun j hj => by omega), hB, hL, h7⟩ ?_
  clear h7 hB hL
  rintro K15 i W16 ⟨hi, hv, hB, hL, h7⟩ hK15
  refine Sq fun K17 hK17 => (Sq fun K18 hK18 => (Rg (Pu rfl (Va (dx_lss rfl rfl rfl) rfl rfl (Ni (hK18 ?_))))))
  refine WC.cond rfl (fun c19 => ?_) (fun c19 => ?_)
  ·
   replace c19 := dT c19
   refine WC.skip (hK17 (Sq fun K20 hK20 => (WC.block (Sq fun K21 hK21 => ?_))))
   refine dM 6 [(some 22, .is (.string s)), (some 23, .is (.int .i64 (ka : Int))), (some 24, .is (.int .u8 (atS s ka))), (some 25, .is (.string ({ data := #[34, 92, 47, 98, 102, 110, 114, 116] }))), (some 26, .is (.int .i64 (i : Int))), (some 27, .is (.int .u8 (atS ({ data := #[34, 92, 47, 98, 102, 110, 114, 116] }) i)))] [[], [], [0, 1], [], [], [3, 4]] (by exact trivial) ?_ ?_
   ·
    refine Dc (fun Wd hd => ?_) ?_
    ·
     exact Dd (dx_move rfl rfl) rfl
    refine Dc (fun Wd hd => ?_) ?_
    ·
     exact Dd (dx_move rfl rfl) rfl
    refine Dc (fun Wd hd => ?_) ?_
    ·
     exact Dd (dx_at ka rfl Tryz.underlying9 rfl rfl (by omega) (by omega)) rfl
    refine Dc (fun Wd hd => ?_) ?_
    ·
     exact Dd (dx_move rfl rfl) rfl
    refine Dc (fun Wd hd => ?_) ?_
    ·
     exact Dd (dx_move rfl rfl) rfl
    refine Dc (fun Wd hd => ?_) ?_
    ·
     exact Dd (dx_at i rfl Tryz.underlying9 rfl rfl (by omega) (by omega)) rfl
    exact trivial
   ·
    intro W22 b23
    replace h7 := h7.below b23
    replace hB := below_then hB b23
    replace hL := LL.below hL b23
    refine Va (dx_eql rfl rfl rfl) rfl rfl (Ni (hK21 ?_))
    refine WC.cond rfl (fun c24 => ?_) (fun c24 => ?_)
    ·
     replace c24 := dT c24
     refine Sq fun K25 hK25 => ?_
     obtain ⟨c0, d0, hc0, hd0, hcd⟩ := from_to (i := i) (by omega)
     refine Rg (Pu rfl (Pu rfl (Pu rfl (Va (dx_add (r := ((i + 1 : Nat) : Int)) rfl rfl rfl (by rw [wrap64_id (by omega)]; omega)) rfl rfl (Va (dx_slLH (s := 1) i (i + 1) rfl ty_slice_34 rfl rfl rfl rfl rfl (by omega) (by omega)) rfl rfl (Va (dx_bs (l := [d0]) rfl Tryz.underlying34 Tryz.underlying9 Tryz.underlying5 rfl (h7.row (by omega) hd0)) rfl rfl (Pu rfl ?_)))))))
     refine Va (dx_add (r := ((ka + 1 : Nat) : Int)) rfl rfl rfl (by rw [wrap64_id (by omega)]; omega)) rfl rfl (Pu rfl (Pu rfl (Ni (hK25 ?_))))
     exact WC.ret fun a_ ha_ => hQ (cv_ret2 rfl (.tmp rfl) (.tmp rfl) (.inl ⟨[d0], ka + 1, rfl, escB_to (by omega) rfl (by rw [show atS s ka = c0 by omega]; exact hcd), bytes_one (by omega), by show ka + 1 ≤ _; omega, by omega⟩) hB ha_)
    ·
     replace c24 := dF c24
     refine WC.skip (hK20 (Rg (Pu rfl (Va (dx_add (r := (i : Int) + 1) rfl rfl rfl (wrap64_id (by omega))) rfl rfl (Pu rfl (Ni ?_))))))
     exact hK15 (i + 1) ⟨(by omega), (fun j hj => by rcases Nat.lt_or_ge j i with h_ | h_; exact hv j h_; (obtain rfl : j = i := by omega); first | assumption | omega), hB, hL, h7⟩ (by omega) (by repeat first | exact trivial | refine aR ?_ | refine aI (by omega) ?_)
  ·
   replace c19 := dF c19
   refine WC.exit ?_
   refine hK13 (Sq fun K26 hK26 => (Sq fun K27 hK27 => (Rg (Pu rfl (Pu rfl (Va (dx_at ka rfl Tryz.underlying9 rfl rfl (by omega) (by omega)) rfl rfl (Va (dx_neq rfl rfl rfl) rfl rfl ?_)))))))
   refine Ni (hK27 ?_)
   refine WC.cond rfl (fun c28 => ?_) (fun c28 => ?_)
   ·
    replace c28 := bnot_t c28
    replace c28 := dF c28
    refine Sq fun K29 hK29 => (Rg (Pu rfl (Pu rfl (Ni (hK29 ?_)))))
    exact WC.ret fun a_ ha_ => hQ (cv_ret2 rfl (.tmp rfl) (.tmp rfl) (.inr ⟨rfl, escB_none (by omega) rfl (by omega) (from_all fun j hj => hv j (by omega))⟩) hB ha_)
   ·
    replace c28 := bnot_f c28
    replace c28 := dT c28
    refine WC.skip (hK26 (Sq fun K30 hK30 => (Rg (Pu rfl (Pu rfl (Va (dx_add (r := ((ka + 1 : Nat) : Int)) rfl rfl rfl (by rw [wrap64_id (by omega)]; omega)) rfl rfl ?_))))))
    refine Ge (dx_cv rfl Tryz.func78 rfl rfl rfl (refFour_c s (ka + 1) W16 _ hL hs (by omega))) rfl rfl ?_
    rintro _ W44 ⟨(⟨r37, rfl, hf38, hf39, hf40, hf41⟩ | ⟨rfl, hf42⟩), g43⟩
    ·
     replace hB := below_then hB g43
     replace hL := LL.below hL g43
     refine Pu rfl (Ni (hK30 (Sq fun K46 hK46 => (Rg (Pu rfl (Va (dx_add (r := ((ka + 5 : Nat) : Int)) rfl rfl rfl (by rw [wrap64_id (by omega)]; omega)) rfl rfl (Pu rfl ?_)))))))
     refine Ni (hK46 (Sq fun K47 hK47 => ?_))
     have hJ14 : ∀ (c9 : Int) (k9 : Nat) (W48 : World) (f_ : Fl), escN s ka = (c9, k9) ∧ (-1 ≤ c9 ∧ c9 ≤ 1114111) ∧ (c9 < 0 ∨ k9 ≤ s.size) ∧ ka + 5 ≤ k9 ∧ Below w.heap.size w W48 ∧ LL (L) W48 → Sub [(0, .string s), (9, .int .i64 c9), (1, .int .i64 (k9 : Int))] f_ → ∀ a, Fr 89 a f_ → K47 a W48 := by
      clear hB hL
      rintro c9 k9 W48 f_ ⟨hNE, hc9, hk9, hk5, hB, hL⟩ hs_
      refine hK47 (WC.sub hs_ ?_)
      refine Sq fun K49 hK49 => (Rg (Pu rfl (Va (dx_conv (r := c9) rfl Tryz.underlying3 Tryz.underlying21 rfl (wrap32_id (by omega))) rfl rfl ?_)))
      refine Ge (dx_lit1 (r := [.int .i32 c9]) rfl ty_ap_73 (by decide) (by decide) rfl rfl rfl) rfl rfl ?_
      rintro u54 W50 ⟨k51, b52, z53⟩
      have l55 := hB.size
      replace hB := below_then hB b52
      refine Ge (dx_cv rfl Tryz.func79 rfl rfl rfl (refEncode_cv u54 c9 W50 (rdI32_of (k51.rd (L := []) (by simp))))) rfl rfl ?_
      rintro _ W63 ⟨(⟨x59, rfl, hr60, hN61⟩ | ⟨rfl, hr60⟩), g62⟩
      ·
       replace hB := below_then hB g62
       refine Pu rfl (Pu rfl (Pu rfl (Pu rfl (Pu rfl (Ni (hK49 (Sq fun K65 hK65 => ?_)))))))
       refine Sq fun K66 hK66 => (Rg (Pu rfl (Va (dx_neq rfl rfl rfl) rfl rfl (Ni (hK66 (WC.condF rfl (WC.skip ?_)))))))
       refine hK65 (Sq fun K67 hK67 => (Rg (Pu rfl (Va (dx_bs (l := encI c9) rfl Tryz.underlying34 Tryz.underlying9 Tryz.underlying5 rfl (hN61.rd (L := []) (by simp))) rfl rfl (Pu rfl (Pu rfl (Pu rfl ?_)))))))
       refine Ni (hK67 ?_)
       exact WC.ret fun a_ ha_ => hQ (cv_ret2 rfl (.tmp rfl) (.tmp rfl) (.inl ⟨encI c9, k9, rfl, escB_N1 (by omega) (by omega) hNE hr60, encI_bytes (isRune_in hr60).1 (isRune_in hr60).2, (by have := encI_len c9; omega), (by have := (isRune_in hr60).1; omega)⟩) hB ha_)
      ·
       replace hB := below_then hB g62
       refine Pu rfl (Pu rfl (Pu rfl (Pu rfl (Pu rfl (Ni (hK49 (Sq fun K68 hK68 => ?_)))))))
       refine Sq fun K69 hK69 => (Rg (Pu rfl (Va (dx_neq rfl rfl rfl) rfl rfl (Ni (hK69 (WC.condT rfl (Sq fun K70 hK70 => ?_)))))))
       refine Rg (Pu rfl (Pu rfl (Ni (hK70 ?_))))
       exact WC.ret fun a_ ha_ => hQ (cv_ret2 rfl (.tmp rfl) (.tmp rfl) (.inr ⟨rfl, escB_N0 (x := c9) (by omega) (by omega) hNE (by assumption)⟩) hB ha_)
     refine Sq fun K71 hK71 => (Rg (Pu rfl (Va (dx_geq rfl rfl rfl) rfl rfl (Pu rfl ?_))))
     refine WL.split 49 rfl (fun g72 => ?_) (fun g72 => ?_)
     ·
      replace g72 := dT g72
      refine Pu rfl (Va (dx_leq rfl rfl rfl) rfl rfl (Pu rfl (Pu rfl ?_)))
      refine WL.split 53 rfl (fun g73 => ?_) (fun g73 => ?_)
      ·
       replace g73 := dT g73
       refine Pu rfl (Pu rfl ?_)
       refine Ge (dx_cv rfl Tryz.func40 rfl rfl rfl (refBegins_v s ({ data := #[92, 117] }) (ka + 5) W44 _ hL hs (by omega) (by decide))) rfl rfl ?_
       rintro _ W75 ⟨rfl, b74⟩
       replace hB := below_then hB b74
       replace hL := LL.below hL b74
       refine Pu rfl (Ni (hK71 ?_))
       refine WC.cond rfl (fun c76 => ?_) (fun c76 => ?_)
       ·
        refine Sq fun K77 hK77 => ?_
        have hb7 : ka + 7 ≤ s.size := begin_le (by assumption)
        refine Rg (Pu rfl (Pu rfl (Va (dx_add (r := ((ka + 7 : Nat) : Int)) rfl rfl rfl (by rw [wrap64_id (by omega)]; omega)) rfl rfl ?_)))
        refine Ge (dx_cv rfl Tryz.func78 rfl rfl rfl (refFour_c s (ka + 7) W75 _ hL hs (by omega))) rfl rfl ?_
        rintro _ W91 ⟨(⟨r84, rfl, hf85, hf86, hf87, hf88⟩ | ⟨rfl, hf89⟩), g90⟩
        ·
         replace hB := below_then hB g90
         replace hL := LL.below hL g90
         refine Pu rfl (Ni (hK77 (Sq fun K93 hK93 => (Rg (Pu rfl (Va (dx_geq rfl rfl rfl) rfl rfl (Pu rfl ?_)))))))
         refine WL.split 64 rfl (fun g94 => ?_) (fun g94 => ?_)
         ·
          replace g94 := dT g94
          refine Pu rfl (Va (dx_leq rfl rfl rfl) rfl rfl (Pu rfl (Ni (hK93 ?_))))
          refine WC.cond rfl (fun c95 => ?_) (fun c95 => ?_)
          ·
           replace c95 := dT c95
           refine Sq fun K96 hK96 => (Rg (Pu rfl (Va (dx_sub (r := r37 - 55296) rfl rfl rfl (wrap64_id (by omega))) rfl rfl (Va (dx_mul (r := (r37 - 55296) * 1024) rfl rfl rfl (wrap64_id (by omega))) rfl rfl (Va (dx_add (r := 65536 + ((r37 - 55296) * 1024)) rfl rfl rfl (wrap64_id (by omega))) rfl rfl (Pu rfl (Va (dx_add (r := (65536 + ((r37 - 55296) * 1024)) + r84) rfl rfl rfl (wrap64_id (by omega))) rfl rfl ?_)))))))
           refine Va (dx_sub (r := ((65536 + ((r37 - 55296) * 1024)) + r84) - 56320) rfl rfl rfl (wrap64_id (by omega))) rfl rfl (Pu rfl (Ni (hK96 (Rg (Pu rfl (Va (dx_add (r := ((ka + 11 : Nat) : Int)) rfl rfl rfl (by rw [wrap64_id (by omega)]; omega)) rfl rfl (Pu rfl ?_)))))))
           refine Ni ?_
           exact hJ14 (((65536 + ((r37 - 55296) * 1024)) + r84) - 56320) (ka + 11) _ _ ⟨(by first | exact escN_n (by assumption) (by omega) rfl | (apply escN_a <;> first | assumption | rfl | omega; done) | (apply escN_b <;> first | assumption | rfl | omega; done) | (apply escN_c <;> first | assumption | rfl | omega; done) | (apply escN_d <;> first | assumption | rfl | omega; done) | (apply escN_e <;> first | assumption | rfl | omega; done)), (by omega), (by omega), (by omega), hB, hL⟩ (by repeat first | exact trivial | refine aR ?_ | refine aI (by omega) ?_)
          ·
           replace c95 := dF c95
           refine WC.skip ?_
           exact hJ14 r37 (ka + 5) _ _ ⟨(by first | exact escN_n (by assumption) (by omega) rfl | (apply escN_a <;> first | assumption | rfl | omega; done) | (apply escN_b <;> first | assumption | rfl | omega; done) | (apply escN_c <;> first | assumption | rfl | omega; done) | (apply escN_d <;> first | assumption | rfl | omega; done) | (apply escN_e <;> first | assumption | rfl | omega; done)), (by omega), (by omega), (by omega), hB, hL⟩ (by repeat first | exact trivial | refine aR ?_ | refine aI (by omega) ?_)
         ·
          replace g94 := dF g94
          refine Of rfl (Of rfl (Pu rfl (Ni (hK93 (WC.condF rfl (WC.skip ?_))))))
          exact hJ14 r37 (ka + 5) _ _ ⟨(by first | exact escN_n (by assumption) (by omega) rfl | (apply escN_a <;> first | assumption | rfl | omega; done) | (apply escN_b <;> first | assumption | rfl | omega; done) | (apply escN_c <;> first | assumption | rfl | omega; done) | (apply escN_d <;> first | assumption | rfl | omega; done) | (apply escN_e <;> first | assumption | rfl | omega; done)), (by omega), (by omega), (by omega), hB, hL⟩ (by repeat first | exact trivial | refine aR ?_ | refine aI (by omega) ?_)
        ·
         replace hB := below_then hB g90
         replace hL := LL.below hL g90
         refine Pu rfl (Ni (hK77 (Sq fun K97 hK97 => (Rg (Pu rfl (Va (dx_geq rfl rfl rfl) rfl rfl (Pu rfl ?_)))))))
         refine Of rfl (Of rfl (Pu rfl (Ni (hK97 (WC.condF rfl (WC.skip ?_))))))
         exact hJ14 r37 (ka + 5) _ _ ⟨(by first | exact escN_n (by assumption) (by omega) rfl | (apply escN_a <;> first | assumption | rfl | omega; done) | (apply escN_b <;> first | assumption | rfl | omega; done) | (apply escN_c <;> first | assumption | rfl | omega; done) | (apply escN_d <;> first | assumption | rfl | omega; done) | (apply escN_e <;> first | assumption | rfl | omega; done)), (by omega), (by omega), (by omega), hB, hL⟩ (by repeat first | exact trivial | refine aR ?_ | refine aI (by omega) ?_)
       ·
        refine WC.skip ?_
        exact hJ14 r37 (ka + 5) _ _ ⟨(by first | exact escN_n (by assumption) (by omega) rfl | (apply escN_a <;> first | assumption | rfl | omega; done) | (apply escN_b <;> first | assumption | rfl | omega; done) | (apply escN_c <;> first | assumption | rfl | omega; done) | (apply escN_d <;> first | assumption | rfl | omega; done) | (apply escN_e <;> first | assumption | rfl | omega; done)), (by omega), (by omega), (by omega), hB, hL⟩ (by repeat first | exact trivial | refine aR ?_ | refine aI (by omega) ?_)
      ·
       replace g73 := dF g73
       refine Of rfl (Of rfl (Of rfl (Pu rfl (Ni (hK71 (WC.condF rfl (WC.skip ?_)))))))
       exact hJ14 r37 (ka + 5) _ _ ⟨(by first | exact escN_n (by assumption) (by omega) rfl | (apply escN_a <;> first | assumption | rfl | omega; done) | (apply escN_b <;> first | assumption | rfl | omega; done) | (apply escN_c <;> first | assumption | rfl | omega; done) | (apply escN_d <;> first | assumption | rfl | omega; done) | (apply escN_e <;> first | assumption | rfl | omega; done)), (by omega), (by omega), (by omega), hB, hL⟩ (by repeat first | exact trivial | refine aR ?_ | refine aI (by omega) ?_)
     ·
      replace g72 := dF g72
      refine Of rfl (Of rfl (Pu rfl (Pu rfl (Of rfl (Of rfl (Of rfl (Pu rfl ?_)))))))
      refine Ni (hK71 (WC.condF rfl (WC.skip ?_)))
      exact hJ14 r37 (ka + 5) _ _ ⟨(by first | exact escN_n (by assumption) (by omega) rfl | (apply escN_a <;> first | assumption | rfl | omega; done) | (apply escN_b <;> first | assumption | rfl | omega; done) | (apply escN_c <;> first | assumption | rfl | omega; done) | (apply escN_d <;> first | assumption | rfl | omega; done) | (apply escN_e <;> first | assumption | rfl | omega; done)), (by omega), (by omega), (by omega), hB, hL⟩ (by repeat first | exact trivial | refine aR ?_ | refine aI (by omega) ?_)
    ·
     replace hB := below_then hB g43
     replace hL := LL.below hL g43
     refine Pu rfl (Ni (hK30 (Sq fun K98 hK98 => (Rg (Pu rfl (Va (dx_add (r := ((ka + 5 : Nat) : Int)) rfl rfl rfl (by rw [wrap64_id (by omega)]; omega)) rfl rfl (Pu rfl ?_)))))))
     refine Ni (hK98 (Sq fun K99 hK99 => ?_))
     have hJ14 : ∀ (c9 : Int) (k9 : Nat) (W100 : World) (f_ : Fl), escN s ka = (c9, k9) ∧ (-1 ≤ c9 ∧ c9 ≤ 1114111) ∧ (c9 < 0 ∨ k9 ≤ s.size) ∧ ka + 5 ≤ k9 ∧ Below w.heap.size w W100 ∧ LL (L) W100 → Sub [(0, .string s), (9, .int .i64 c9), (1, .int .i64 (k9 : Int))] f_ → ∀ a, Fr 89 a f_ → K99 a W100 := by
      clear hB hL
      rintro c9 k9 W100 f_ ⟨hNE, hc9, hk9, hk5, hB, hL⟩ hs_
      refine hK99 (WC.sub hs_ ?_)
      refine Sq fun K101 hK101 => (Rg (Pu rfl (Va (dx_conv (r := c9) rfl Tryz.underlying3 Tryz.underlying21 rfl (wrap32_id (by omega))) rfl rfl ?_)))
      refine Ge (dx_lit1 (r := [.int .i32 c9]) rfl ty_ap_73 (by decide) (by decide) rfl rfl rfl) rfl rfl ?_
      rintro u106 W102 ⟨k103, b104, z105⟩
      have l107 := hB.size
      replace hB := below_then hB b104
      refine Ge (dx_cv rfl Tryz.func79 rfl rfl rfl (refEncode_cv u106 c9 W102 (rdI32_of (k103.rd (L := []) (by simp))))) rfl rfl ?_
      rintro _ W115 ⟨(⟨x111, rfl, hr112, hN113⟩ | ⟨rfl, hr112⟩), g114⟩
      ·
       replace hB := below_then hB g114
       refine Pu rfl (Pu rfl (Pu rfl (Pu rfl (Pu rfl (Ni (hK101 (Sq fun K117 hK117 => ?_)))))))
       refine Sq fun K118 hK118 => (Rg (Pu rfl (Va (dx_neq rfl rfl rfl) rfl rfl (Ni (hK118 (WC.condF rfl (WC.skip ?_)))))))
       refine hK117 (Sq fun K119 hK119 => (Rg (Pu rfl (Va (dx_bs (l := encI c9) rfl Tryz.underlying34 Tryz.underlying9 Tryz.underlying5 rfl (hN113.rd (L := []) (by simp))) rfl rfl (Pu rfl (Pu rfl (Pu rfl ?_)))))))
       refine Ni (hK119 ?_)
       exact WC.ret fun a_ ha_ => hQ (cv_ret2 rfl (.tmp rfl) (.tmp rfl) (.inl ⟨encI c9, k9, rfl, escB_N1 (by omega) (by omega) hNE hr112, encI_bytes (isRune_in hr112).1 (isRune_in hr112).2, (by have := encI_len c9; omega), (by have := (isRune_in hr112).1; omega)⟩) hB ha_)
      ·
       replace hB := below_then hB g114
       refine Pu rfl (Pu rfl (Pu rfl (Pu rfl (Pu rfl (Ni (hK101 (Sq fun K120 hK120 => ?_)))))))
       refine Sq fun K121 hK121 => (Rg (Pu rfl (Va (dx_neq rfl rfl rfl) rfl rfl (Ni (hK121 (WC.condT rfl (Sq fun K122 hK122 => ?_)))))))
       refine Rg (Pu rfl (Pu rfl (Ni (hK122 ?_))))
       exact WC.ret fun a_ ha_ => hQ (cv_ret2 rfl (.tmp rfl) (.tmp rfl) (.inr ⟨rfl, escB_N0 (x := c9) (by omega) (by omega) hNE (by assumption)⟩) hB ha_)
     refine Sq fun K123 hK123 => (Rg (Pu rfl (Va (dx_geq rfl rfl rfl) rfl rfl (Pu rfl (Of rfl (Of rfl (Pu rfl ?_)))))))
     refine Pu rfl (Of rfl (Of rfl (Of rfl (Pu rfl (Ni (hK123 (WC.condF rfl ?_)))))))
     refine WC.skip ?_
     exact hJ14 (-1) (ka + 5) _ _ ⟨(by first | exact escN_n (by assumption) (by omega) rfl | (apply escN_a <;> first | assumption | rfl | omega; done) | (apply escN_b <;> first | assumption | rfl | omega; done) | (apply escN_c <;> first | assumption | rfl | omega; done) | (apply escN_d <;> first | assumption | rfl | omega; done) | (apply escN_e <;> first | assumption | rfl | omega; done)), (by omega), (by omega), (by omega), hB, hL⟩ (by repeat first | exact trivial | refine aR ?_ | refine aI (by omega) ?_)

theorem refEsc_at {s : ByteArray} (hs : s.size ≤ 1000000) : EscAt s := fun k w L hL hk => refEsc_v s k w L hL hs hk
section
variable {P : Program} {N : Nat} {Q : Exit → Act → World → Prop} {f : Fl} {w : World}
theorem WC.loop4 {α β γ δ : Type} {c : Code} (fr : α → β → γ → δ → Fl) (I : α → β → γ → δ → World → Prop) (μ : α → β → γ → δ → Nat) (a0 : α) (b0 : β) (c0 : γ) (d0 : δ) (hs : Sub (fr a0 b0 c0 d0) f) (h0 : I a0 b0 c0 d0 w)
  (round : ∀ (K : Act → World → Prop) a b c' d w, I a b c' d w → (∀ {f' w'} (a' : α) (b' : β) (c'' : γ) (d' : δ), I a' b' c'' d' w' → μ a' b' c'' d' < μ a b c' d → Sub (fr a' b' c'' d') f' → ∀ x, Fr N x f' → K x w') → WC P N c (Exit.then K Q) (fr a b c' d) w) : WC P N (.loop c) Q f w :=
 WC.loop (σ := α × β × γ × δ) (fun s => fr s.1 s.2.1 s.2.2.1 s.2.2.2) (fun s => I s.1 s.2.1 s.2.2.1 s.2.2.2) (fun s => μ s.1 s.2.1 s.2.2.1 s.2.2.2) (a0, b0, c0, d0) hs h0 fun K s w hI hK => round K s.1 s.2.1 s.2.2.1 s.2.2.2 w hI fun a' b' c' d' h1 h2 h3 => hK (a', b', c', d') h1 h2 h3
end
end Go.Proofs.YtghpdnfdbhjmpaaGreatDoor
