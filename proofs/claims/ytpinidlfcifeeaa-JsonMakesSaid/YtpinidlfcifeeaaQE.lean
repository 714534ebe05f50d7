/- Trees in the reference. Trees in the reference: deep, Get, same, Weigh. A slice of two structures of five cells that is written out. No program stands -/
import Derived.Sort.Grow
import Derived.WalkKit
import Derived.Shelf.Small.Bits
import Derived.Shelf.Strconv.Itoa0
import Derived.Shelf.Sort.Plain
import Derived.Shelf.Slices.In.SortNone
import Derived.Test.YtpinidlfcifeeaaProg
import Derived.Test.YtpinidlfcifeeaaQD
namespace Go.Proofs.Ytpinidlfcifeeaa
open Go.RowKit
set_option linter.unusedVariables false
set_option linter.unusedSimpArgs false
set_option maxRecDepth 8000
set_option maxHeartbeats 2000000

def plainT (a b c d : Bool) (t : Tr) : Bool := (a || decide (t.num = 0)) && ((b || decide (t.text = ⟨#[]⟩)) && ((c || decide (t.names = [])) && (d || decide (t.items = []))))
theorem nil_of_z {α : Type} {l : List α} (h : (l.length : Int) = 0) : l = [] := List.length_eq_zero_iff.1 (by omega)
theorem ne_of_z {α : Type} {l : List α} (h : ¬ (l.length : Int) = 0) : l ≠ [] := fun e => by rw [e] at h; simp at h
set_option maxHeartbeats 1000000 in
theorem plainFFFF_v (n : Nat) (t : Tr) (w : World) (L : List Nat) (hL : LL L w) (ht : RdT (n + 1) L w t) : CV Try.prog 72 [.agg #[.int .i64 t.kind, .int .i64 t.num, .string t.text, t.nv, t.iv], .bool false, .bool false, .bool false, .bool false] w fun v W => v = .bool (plainT false false false false t) := by
 refine cv_enter (N := 43) (f := [(0, .agg #[.int .i64 t.kind, .int .i64 t.num, .string t.text, t.nv, t.iv]), (1, .bool false), (2, .bool false), (3, .bool false), (4, .bool false)]) Try.func72 rfl rfl rfl rfl fun Q hQ hE => ?_
 have hB := Below.refl w.heap.size w
 refine Sq fun K1 hK1 => ?_
 obtain ⟨hnt, hit, hct⟩ := ht
 replace hct : RdTs n (L) w t.items := hct
 refine Rg ?_
 refine Ge (dx_box rfl rfl rfl) rfl rfl ?_
 rintro _ W2 ⟨rfl, k3, b4, z5⟩
 have l6 := hB.size
 replace hnt := hnt.more b4 (Nat.le_refl _)
 replace hit := hit.more b4 (Nat.le_refl _)
 replace hB := below_then hB b4
 refine Pu rfl (Ni (hK1 (Sq fun K7 hK7 => (Rg (Pu rfl (Pu rfl (Va (dx_fld (o1 := 1) rfl ty_fld_26_1_1 rfl rfl) rfl rfl ?_)))))))
 refine Va (dx_load rfl ty_one_3 rfl (k3.cell (k := 1) rfl)) rfl rfl (Va (dx_eql rfl rfl rfl) rfl rfl (Pu rfl (Pu rfl ?_)))
 refine WL.split 17 rfl (fun g8 => ?_) (fun g8 => ?_)
 ·
  replace g8 := dT g8
  refine Pu rfl (Pu rfl (Va (dx_fld (o1 := 2) rfl ty_fld_26_2_2 rfl rfl) rfl rfl (Va (dx_load rfl ty_one_9 rfl (k3.cell (k := 2) rfl)) rfl rfl (Va (dx_eqlT rfl rfl rfl) rfl rfl (Pu rfl (Pu rfl (Pu rfl ?_)))))))
  refine WL.split 25 rfl (fun g9 => ?_) (fun g9 => ?_)
  ·
   replace g9 := dT g9
   refine Pu rfl (Pu rfl (Va (dx_fld (o1 := 3) rfl ty_fld_26_3_3 rfl rfl) rfl rfl (Va (dx_load rfl ty_one_23 rfl (k3.cell (k := 3) rfl)) rfl rfl (Va (dx_lenFM rfl ty_slice_23 rfl hnt) rfl rfl (Va (dx_eql rfl rfl rfl) rfl rfl (Pu rfl (Pu rfl ?_)))))))
   refine Pu rfl ?_
   refine WL.split 34 rfl (fun g10 => ?_) (fun g10 => ?_)
   ·
    replace g10 := dT g10
    refine Pu rfl (Pu rfl (Va (dx_fld (o1 := 4) rfl ty_fld_26_4_4 rfl rfl) rfl rfl (Va (dx_load rfl ty_one_24 rfl (k3.cell (k := 4) rfl)) rfl rfl (Va (dx_lenFM rfl ty_slice_24 rfl hit) rfl rfl (Va (dx_eql rfl rfl rfl) rfl rfl (Pu rfl (Pu rfl ?_)))))))
    refine Pu rfl (Ni (hK7 ?_))
    exact WC.ret fun a_ ha_ => hQ (cv_ret1 rfl (.tmp rfl) (by (try have q1 := nil_of_z ‹(t.names.length : Int) = 0›); (try have q2 := nil_of_z ‹(t.items.length : Int) = 0›); (try have q3 := ne_of_z ‹¬ (t.names.length : Int) = 0›); (try have q4 := ne_of_z ‹¬ (t.items.length : Int) = 0›); unfold plainT; simp [*]) hB ha_)
   ·
    replace g10 := dF g10
    refine Of rfl (Of rfl (Of rfl (Of rfl (Of rfl (Of rfl (Of rfl (Pu rfl ?_)))))))
    refine Pu rfl (Ni (hK7 ?_))
    exact WC.ret fun a_ ha_ => hQ (cv_ret1 rfl (.tmp rfl) (by (try have q1 := nil_of_z ‹(t.names.length : Int) = 0›); (try have q2 := nil_of_z ‹(t.items.length : Int) = 0›); (try have q3 := ne_of_z ‹¬ (t.names.length : Int) = 0›); (try have q4 := ne_of_z ‹¬ (t.items.length : Int) = 0›); unfold plainT; simp [*]) hB ha_)
  ·
   replace g9 := dF g9
   refine Of rfl (Of rfl (Of rfl (Of rfl (Of rfl (Of rfl (Of rfl (Pu rfl ?_)))))))
   refine Pu rfl (Of rfl (Of rfl (Of rfl (Of rfl (Of rfl (Of rfl (Of rfl ?_)))))))
   refine Pu rfl (Pu rfl (Ni (hK7 ?_)))
   exact WC.ret fun a_ ha_ => hQ (cv_ret1 rfl (.tmp rfl) (by (try have q1 := nil_of_z ‹(t.names.length : Int) = 0›); (try have q2 := nil_of_z ‹(t.items.length : Int) = 0›); (try have q3 := ne_of_z ‹¬ (t.names.length : Int) = 0›); (try have q4 := ne_of_z ‹¬ (t.items.length : Int) = 0›); unfold plainT; simp [*]) hB ha_)
 ·
  replace g8 := dF g8
  refine Of rfl (Of rfl (Of rfl (Of rfl (Of rfl (Of rfl (Pu rfl (Pu rfl ?_)))))))
  refine Of rfl (Of rfl (Of rfl (Of rfl (Of rfl (Of rfl (Of rfl (Pu rfl ?_)))))))
  refine Pu rfl (Of rfl (Of rfl (Of rfl (Of rfl (Of rfl (Of rfl (Of rfl ?_)))))))
  refine Pu rfl (Pu rfl (Ni (hK7 ?_)))
  exact WC.ret fun a_ ha_ => hQ (cv_ret1 rfl (.tmp rfl) (by (try have q1 := nil_of_z ‹(t.names.length : Int) = 0›); (try have q2 := nil_of_z ‹(t.items.length : Int) = 0›); (try have q3 := ne_of_z ‹¬ (t.names.length : Int) = 0›); (try have q4 := ne_of_z ‹¬ (t.items.length : Int) = 0›); unfold plainT; simp [*]) hB ha_)

set_option maxHeartbeats 1000000 in
theorem plainTFFF_v (n : Nat) (t : Tr) (w : World) (L : List Nat) (hL : LL L w) (ht : RdT (n + 1) L w t) : CV Try.prog 72 [.agg #[.int .i64 t.kind, .int .i64 t.num, .string t.text, t.nv, t.iv], .bool true, .bool false, .bool false, .bool false] w fun v W => v = .bool (plainT true false false false t) := by
 refine cv_enter (N := 43) (f := [(0, .agg #[.int .i64 t.kind, .int .i64 t.num, .string t.text, t.nv, t.iv]), (1, .bool true), (2, .bool false), (3, .bool false), (4, .bool false)]) Try.func72 rfl rfl rfl rfl fun Q hQ hE => ?_
 have hB := Below.refl w.heap.size w
 refine Sq fun K1 hK1 => ?_
 obtain ⟨hnt, hit, hct⟩ := ht
 replace hct : RdTs n (L) w t.items := hct
 refine Rg ?_
 refine Ge (dx_box rfl rfl rfl) rfl rfl ?_
 rintro _ W2 ⟨rfl, k3, b4, z5⟩
 have l6 := hB.size
 replace hnt := hnt.more b4 (Nat.le_refl _)
 replace hit := hit.more b4 (Nat.le_refl _)
 replace hB := below_then hB b4
 refine Pu rfl (Ni (hK1 (Sq fun K7 hK7 => (Rg (Pu rfl (Pu rfl (Of rfl ?_)))))))
 refine Of rfl (Of rfl (Pu rfl (Pu rfl (Pu rfl (Pu rfl (Va (dx_fld (o1 := 2) rfl ty_fld_26_2_2 rfl rfl) rfl rfl (Va (dx_load rfl ty_one_9 rfl (k3.cell (k := 2) rfl)) rfl rfl ?_)))))))
 refine Va (dx_eqlT rfl rfl rfl) rfl rfl (Pu rfl (Pu rfl (Pu rfl ?_)))
 refine WL.split 25 rfl (fun g8 => ?_) (fun g8 => ?_)
 ·
  replace g8 := dT g8
  refine Pu rfl (Pu rfl (Va (dx_fld (o1 := 3) rfl ty_fld_26_3_3 rfl rfl) rfl rfl (Va (dx_load rfl ty_one_23 rfl (k3.cell (k := 3) rfl)) rfl rfl (Va (dx_lenFM rfl ty_slice_23 rfl hnt) rfl rfl (Va (dx_eql rfl rfl rfl) rfl rfl (Pu rfl (Pu rfl ?_)))))))
  refine Pu rfl ?_
  refine WL.split 34 rfl (fun g9 => ?_) (fun g9 => ?_)
  ·
   replace g9 := dT g9
   refine Pu rfl (Pu rfl (Va (dx_fld (o1 := 4) rfl ty_fld_26_4_4 rfl rfl) rfl rfl (Va (dx_load rfl ty_one_24 rfl (k3.cell (k := 4) rfl)) rfl rfl (Va (dx_lenFM rfl ty_slice_24 rfl hit) rfl rfl (Va (dx_eql rfl rfl rfl) rfl rfl (Pu rfl (Pu rfl ?_)))))))
   refine Pu rfl (Ni (hK7 ?_))
   exact WC.ret fun a_ ha_ => hQ (cv_ret1 rfl (.tmp rfl) (by (try have q1 := nil_of_z ‹(t.names.length : Int) = 0›); (try have q2 := nil_of_z ‹(t.items.length : Int) = 0›); (try have q3 := ne_of_z ‹¬ (t.names.length : Int) = 0›); (try have q4 := ne_of_z ‹¬ (t.items.length : Int) = 0›); unfold plainT; simp [*]) hB ha_)
  ·
   replace g9 := dF g9
   refine Of rfl (Of rfl (Of rfl (Of rfl (Of rfl (Of rfl (Of rfl (Pu rfl ?_)))))))
   refine Pu rfl (Ni (hK7 ?_))
   exact WC.ret fun a_ ha_ => hQ (cv_ret1 rfl (.tmp rfl) (by (try have q1 := nil_of_z ‹(t.names.length : Int) = 0›); (try have q2 := nil_of_z ‹(t.items.length : Int) = 0›); (try have q3 := ne_of_z ‹¬ (t.names.length : Int) = 0›); (try have q4 := ne_of_z ‹¬ (t.items.length : Int) = 0›); unfold plainT; simp [*]) hB ha_)
 ·
  replace g8 := dF g8
  refine Of rfl (Of rfl (Of rfl (Of rfl (Of rfl (Of rfl (Of rfl (Pu rfl ?_)))))))
  refine Pu rfl (Of rfl (Of rfl (Of rfl (Of rfl (Of rfl (Of rfl (Of rfl ?_)))))))
  refine Pu rfl (Pu rfl (Ni (hK7 ?_)))
  exact WC.ret fun a_ ha_ => hQ (cv_ret1 rfl (.tmp rfl) (by (try have q1 := nil_of_z ‹(t.names.length : Int) = 0›); (try have q2 := nil_of_z ‹(t.items.length : Int) = 0›); (try have q3 := ne_of_z ‹¬ (t.names.length : Int) = 0›); (try have q4 := ne_of_z ‹¬ (t.items.length : Int) = 0›); unfold plainT; simp [*]) hB ha_)

set_option maxHeartbeats 1000000 in
theorem plainFTFF_v (n : Nat) (t : Tr) (w : World) (L : List Nat) (hL : LL L w) (ht : RdT (n + 1) L w t) : CV Try.prog 72 [.agg #[.int .i64 t.kind, .int .i64 t.num, .string t.text, t.nv, t.iv], .bool false, .bool true, .bool false, .bool false] w fun v W => v = .bool (plainT false true false false t) := by
 refine cv_enter (N := 43) (f := [(0, .agg #[.int .i64 t.kind, .int .i64 t.num, .string t.text, t.nv, t.iv]), (1, .bool false), (2, .bool true), (3, .bool false), (4, .bool false)]) Try.func72 rfl rfl rfl rfl fun Q hQ hE => ?_
 have hB := Below.refl w.heap.size w
 refine Sq fun K1 hK1 => ?_
 obtain ⟨hnt, hit, hct⟩ := ht
 replace hct : RdTs n (L) w t.items := hct
 refine Rg ?_
 refine Ge (dx_box rfl rfl rfl) rfl rfl ?_
 rintro _ W2 ⟨rfl, k3, b4, z5⟩
 have l6 := hB.size
 replace hnt := hnt.more b4 (Nat.le_refl _)
 replace hit := hit.more b4 (Nat.le_refl _)
 replace hB := below_then hB b4
 refine Pu rfl (Ni (hK1 (Sq fun K7 hK7 => (Rg (Pu rfl (Pu rfl (Va (dx_fld (o1 := 1) rfl ty_fld_26_1_1 rfl rfl) rfl rfl ?_)))))))
 refine Va (dx_load rfl ty_one_3 rfl (k3.cell (k := 1) rfl)) rfl rfl (Va (dx_eql rfl rfl rfl) rfl rfl (Pu rfl (Pu rfl ?_)))
 refine WL.split 17 rfl (fun g8 => ?_) (fun g8 => ?_)
 ·
  replace g8 := dT g8
  refine Pu rfl (Pu rfl (Of rfl (Of rfl (Of rfl (Pu rfl (Pu rfl (Pu rfl ?_)))))))
  refine Pu rfl (Pu rfl (Va (dx_fld (o1 := 3) rfl ty_fld_26_3_3 rfl rfl) rfl rfl (Va (dx_load rfl ty_one_23 rfl (k3.cell (k := 3) rfl)) rfl rfl (Va (dx_lenFM rfl ty_slice_23 rfl hnt) rfl rfl (Va (dx_eql rfl rfl rfl) rfl rfl (Pu rfl (Pu rfl ?_)))))))
  refine Pu rfl ?_
  refine WL.split 34 rfl (fun g9 => ?_) (fun g9 => ?_)
  ·
   replace g9 := dT g9
   refine Pu rfl (Pu rfl (Va (dx_fld (o1 := 4) rfl ty_fld_26_4_4 rfl rfl) rfl rfl (Va (dx_load rfl ty_one_24 rfl (k3.cell (k := 4) rfl)) rfl rfl (Va (dx_lenFM rfl ty_slice_24 rfl hit) rfl rfl (Va (dx_eql rfl rfl rfl) rfl rfl (Pu rfl (Pu rfl ?_)))))))
   refine Pu rfl (Ni (hK7 ?_))
   exact WC.ret fun a_ ha_ => hQ (cv_ret1 rfl (.tmp rfl) (by (try have q1 := nil_of_z ‹(t.names.length : Int) = 0›); (try have q2 := nil_of_z ‹(t.items.length : Int) = 0›); (try have q3 := ne_of_z ‹¬ (t.names.length : Int) = 0›); (try have q4 := ne_of_z ‹¬ (t.items.length : Int) = 0›); unfold plainT; simp [*]) hB ha_)
  ·
   replace g9 := dF g9
   refine Of rfl (Of rfl (Of rfl (Of rfl (Of rfl (Of rfl (Of rfl (Pu rfl ?_)))))))
   refine Pu rfl (Ni (hK7 ?_))
   exact WC.ret fun a_ ha_ => hQ (cv_ret1 rfl (.tmp rfl) (by (try have q1 := nil_of_z ‹(t.names.length : Int) = 0›); (try have q2 := nil_of_z ‹(t.items.length : Int) = 0›); (try have q3 := ne_of_z ‹¬ (t.names.length : Int) = 0›); (try have q4 := ne_of_z ‹¬ (t.items.length : Int) = 0›); unfold plainT; simp [*]) hB ha_)
 ·
  replace g8 := dF g8
  refine Of rfl (Of rfl (Of rfl (Of rfl (Of rfl (Of rfl (Pu rfl (Pu rfl ?_)))))))
  refine Of rfl (Of rfl (Of rfl (Of rfl (Of rfl (Of rfl (Of rfl (Pu rfl ?_)))))))
  refine Pu rfl (Of rfl (Of rfl (Of rfl (Of rfl (Of rfl (Of rfl (Of rfl ?_)))))))
  refine Pu rfl (Pu rfl (Ni (hK7 ?_)))
  exact WC.ret fun a_ ha_ => hQ (cv_ret1 rfl (.tmp rfl) (by (try have q1 := nil_of_z ‹(t.names.length : Int) = 0›); (try have q2 := nil_of_z ‹(t.items.length : Int) = 0›); (try have q3 := ne_of_z ‹¬ (t.names.length : Int) = 0›); (try have q4 := ne_of_z ‹¬ (t.items.length : Int) = 0›); unfold plainT; simp [*]) hB ha_)

set_option maxHeartbeats 1000000 in
theorem plainFFFT_v (n : Nat) (t : Tr) (w : World) (L : List Nat) (hL : LL L w) (ht : RdT (n + 1) L w t) : CV Try.prog 72 [.agg #[.int .i64 t.kind, .int .i64 t.num, .string t.text, t.nv, t.iv], .bool false, .bool false, .bool false, .bool true] w fun v W => v = .bool (plainT false false false true t) := by
 refine cv_enter (N := 43) (f := [(0, .agg #[.int .i64 t.kind, .int .i64 t.num, .string t.text, t.nv, t.iv]), (1, .bool false), (2, .bool false), (3, .bool false), (4, .bool true)]) Try.func72 rfl rfl rfl rfl fun Q hQ hE => ?_
 have hB := Below.refl w.heap.size w
 refine Sq fun K1 hK1 => ?_
 obtain ⟨hnt, hit, hct⟩ := ht
 replace hct : RdTs n (L) w t.items := hct
 refine Rg ?_
 refine Ge (dx_box rfl rfl rfl) rfl rfl ?_
 rintro _ W2 ⟨rfl, k3, b4, z5⟩
 have l6 := hB.size
 replace hnt := hnt.more b4 (Nat.le_refl _)
 replace hB := below_then hB b4
 refine Pu rfl (Ni (hK1 (Sq fun K7 hK7 => (Rg (Pu rfl (Pu rfl (Va (dx_fld (o1 := 1) rfl ty_fld_26_1_1 rfl rfl) rfl rfl ?_)))))))
 refine Va (dx_load rfl ty_one_3 rfl (k3.cell (k := 1) rfl)) rfl rfl (Va (dx_eql rfl rfl rfl) rfl rfl (Pu rfl (Pu rfl ?_)))
 refine WL.split 17 rfl (fun g8 => ?_) (fun g8 => ?_)
 ·
  replace g8 := dT g8
  refine Pu rfl (Pu rfl (Va (dx_fld (o1 := 2) rfl ty_fld_26_2_2 rfl rfl) rfl rfl (Va (dx_load rfl ty_one_9 rfl (k3.cell (k := 2) rfl)) rfl rfl (Va (dx_eqlT rfl rfl rfl) rfl rfl (Pu rfl (Pu rfl (Pu rfl ?_)))))))
  refine WL.split 25 rfl (fun g9 => ?_) (fun g9 => ?_)
  ·
   replace g9 := dT g9
   refine Pu rfl (Pu rfl (Va (dx_fld (o1 := 3) rfl ty_fld_26_3_3 rfl rfl) rfl rfl (Va (dx_load rfl ty_one_23 rfl (k3.cell (k := 3) rfl)) rfl rfl (Va (dx_lenFM rfl ty_slice_23 rfl hnt) rfl rfl (Va (dx_eql rfl rfl rfl) rfl rfl (Pu rfl (Pu rfl ?_)))))))
   refine Pu rfl ?_
   refine WL.split 34 rfl (fun g10 => ?_) (fun g10 => ?_)
   ·
    replace g10 := dT g10
    refine Pu rfl (Pu rfl (Of rfl (Of rfl (Of rfl (Of rfl (Pu rfl (Pu rfl ?_)))))))
    refine Pu rfl (Ni (hK7 ?_))
    exact WC.ret fun a_ ha_ => hQ (cv_ret1 rfl (.tmp rfl) (by (try have q1 := nil_of_z ‹(t.names.length : Int) = 0›); (try have q2 := nil_of_z ‹(t.items.length : Int) = 0›); (try have q3 := ne_of_z ‹¬ (t.names.length : Int) = 0›); (try have q4 := ne_of_z ‹¬ (t.items.length : Int) = 0›); unfold plainT; simp [*]) hB ha_)
   ·
    replace g10 := dF g10
    refine Of rfl (Of rfl (Of rfl (Of rfl (Of rfl (Of rfl (Of rfl (Pu rfl ?_)))))))
    refine Pu rfl (Ni (hK7 ?_))
    exact WC.ret fun a_ ha_ => hQ (cv_ret1 rfl (.tmp rfl) (by (try have q1 := nil_of_z ‹(t.names.length : Int) = 0›); (try have q2 := nil_of_z ‹(t.items.length : Int) = 0›); (try have q3 := ne_of_z ‹¬ (t.names.length : Int) = 0›); (try have q4 := ne_of_z ‹¬ (t.items.length : Int) = 0›); unfold plainT; simp [*]) hB ha_)
  ·
   replace g9 := dF g9
   refine Of rfl (Of rfl (Of rfl (Of rfl (Of rfl (Of rfl (Of rfl (Pu rfl ?_)))))))
   refine Pu rfl (Of rfl (Of rfl (Of rfl (Of rfl (Of rfl (Of rfl (Of rfl ?_)))))))
   refine Pu rfl (Pu rfl (Ni (hK7 ?_)))
   exact WC.ret fun a_ ha_ => hQ (cv_ret1 rfl (.tmp rfl) (by (try have q1 := nil_of_z ‹(t.names.length : Int) = 0›); (try have q2 := nil_of_z ‹(t.items.length : Int) = 0›); (try have q3 := ne_of_z ‹¬ (t.names.length : Int) = 0›); (try have q4 := ne_of_z ‹¬ (t.items.length : Int) = 0›); unfold plainT; simp [*]) hB ha_)
 ·
  replace g8 := dF g8
  refine Of rfl (Of rfl (Of rfl (Of rfl (Of rfl (Of rfl (Pu rfl (Pu rfl ?_)))))))
  refine Of rfl (Of rfl (Of rfl (Of rfl (Of rfl (Of rfl (Of rfl (Pu rfl ?_)))))))
  refine Pu rfl (Of rfl (Of rfl (Of rfl (Of rfl (Of rfl (Of rfl (Of rfl ?_)))))))
  refine Pu rfl (Pu rfl (Ni (hK7 ?_)))
  exact WC.ret fun a_ ha_ => hQ (cv_ret1 rfl (.tmp rfl) (by (try have q1 := nil_of_z ‹(t.names.length : Int) = 0›); (try have q2 := nil_of_z ‹(t.items.length : Int) = 0›); (try have q3 := ne_of_z ‹¬ (t.names.length : Int) = 0›); (try have q4 := ne_of_z ‹¬ (t.items.length : Int) = 0›); unfold plainT; simp [*]) hB ha_)

set_option maxHeartbeats 1000000 in
theorem plainFFTT_v (n : Nat) (t : Tr) (w : World) (L : List Nat) (hL : LL L w) (ht : RdT (n + 1) L w t) : CV Try.prog 72 [.agg #[.int .i64 t.kind, .int .i64 t.num, .string t.text, t.nv, t.iv], .bool false, .bool false, .bool true, .bool true] w fun v W => v = .bool (plainT false false true true t) := by
 refine cv_enter (N := 43) (f := [(0, .agg #[.int .i64 t.kind, .int .i64 t.num, .string t.text, t.nv, t.iv]), (1, .bool false), (2, .bool false), (3, .bool true), (4, .bool true)]) Try.func72 rfl rfl rfl rfl fun Q hQ hE => ?_
 have hB := Below.refl w.heap.size w
 refine Sq fun K1 hK1 => ?_
 obtain ⟨hnt, hit, hct⟩ := ht
 replace hct : RdTs n (L) w t.items := hct
 refine Rg ?_
 refine Ge (dx_box rfl rfl rfl) rfl rfl ?_
 rintro _ W2 ⟨rfl, k3, b4, z5⟩
 have l6 := hB.size
 replace hB := below_then hB b4
 refine Pu rfl (Ni (hK1 (Sq fun K7 hK7 => (Rg (Pu rfl (Pu rfl (Va (dx_fld (o1 := 1) rfl ty_fld_26_1_1 rfl rfl) rfl rfl ?_)))))))
 refine Va (dx_load rfl ty_one_3 rfl (k3.cell (k := 1) rfl)) rfl rfl (Va (dx_eql rfl rfl rfl) rfl rfl (Pu rfl (Pu rfl ?_)))
 refine WL.split 17 rfl (fun g8 => ?_) (fun g8 => ?_)
 ·
  replace g8 := dT g8
  refine Pu rfl (Pu rfl (Va (dx_fld (o1 := 2) rfl ty_fld_26_2_2 rfl rfl) rfl rfl (Va (dx_load rfl ty_one_9 rfl (k3.cell (k := 2) rfl)) rfl rfl (Va (dx_eqlT rfl rfl rfl) rfl rfl (Pu rfl (Pu rfl (Pu rfl ?_)))))))
  refine WL.split 25 rfl (fun g9 => ?_) (fun g9 => ?_)
  ·
   replace g9 := dT g9
   refine Pu rfl (Pu rfl (Of rfl (Of rfl (Of rfl (Of rfl (Pu rfl (Pu rfl ?_)))))))
   refine Pu rfl (Pu rfl (Pu rfl (Of rfl (Of rfl (Of rfl (Of rfl (Pu rfl ?_)))))))
   refine Pu rfl (Pu rfl (Ni (hK7 ?_)))
   exact WC.ret fun a_ ha_ => hQ (cv_ret1 rfl (.tmp rfl) (by (try have q1 := nil_of_z ‹(t.names.length : Int) = 0›); (try have q2 := nil_of_z ‹(t.items.length : Int) = 0›); (try have q3 := ne_of_z ‹¬ (t.names.length : Int) = 0›); (try have q4 := ne_of_z ‹¬ (t.items.length : Int) = 0›); unfold plainT; simp [*]) hB ha_)
  ·
   replace g9 := dF g9
   refine Of rfl (Of rfl (Of rfl (Of rfl (Of rfl (Of rfl (Of rfl (Pu rfl ?_)))))))
   refine Pu rfl (Of rfl (Of rfl (Of rfl (Of rfl (Of rfl (Of rfl (Of rfl ?_)))))))
   refine Pu rfl (Pu rfl (Ni (hK7 ?_)))
   exact WC.ret fun a_ ha_ => hQ (cv_ret1 rfl (.tmp rfl) (by (try have q1 := nil_of_z ‹(t.names.length : Int) = 0›); (try have q2 := nil_of_z ‹(t.items.length : Int) = 0›); (try have q3 := ne_of_z ‹¬ (t.names.length : Int) = 0›); (try have q4 := ne_of_z ‹¬ (t.items.length : Int) = 0›); unfold plainT; simp [*]) hB ha_)
 ·
  replace g8 := dF g8
  refine Of rfl (Of rfl (Of rfl (Of rfl (Of rfl (Of rfl (Pu rfl (Pu rfl ?_)))))))
  refine Of rfl (Of rfl (Of rfl (Of rfl (Of rfl (Of rfl (Of rfl (Pu rfl ?_)))))))
  refine Pu rfl (Of rfl (Of rfl (Of rfl (Of rfl (Of rfl (Of rfl (Of rfl ?_)))))))
  refine Pu rfl (Pu rfl (Ni (hK7 ?_)))
  exact WC.ret fun a_ ha_ => hQ (cv_ret1 rfl (.tmp rfl) (by (try have q1 := nil_of_z ‹(t.names.length : Int) = 0›); (try have q2 := nil_of_z ‹(t.items.length : Int) = 0›); (try have q3 := ne_of_z ‹¬ (t.names.length : Int) = 0›); (try have q4 := ne_of_z ‹¬ (t.items.length : Int) = 0›); unfold plainT; simp [*]) hB ha_)

theorem refDec_v (s : ByteArray) (sv : Value) (w : World) (L : List Nat) (hL : LL L w) (h1 : RdF 1 L w sv ((sb s).map e8)) (hs : s.size ≤ 1000000) : CV Try.prog 66 [sv] w fun v _ => ∃ u, v = .tuple #[u, .int .i64 (if upB s = true then 0 else 2)] := by
 refine Calls.mono (ref_decode_any sv (sb s) w (rdI_of h1) (sb_bytes _) (by rw [sb_length]; omega)) fun e w' h => ?_
 obtain ⟨u, c, he, hb, h⟩ := h
 refine ⟨_, he, ⟨u, ?_⟩, hb⟩
 unfold upB
 rcases h with ⟨rs, hd, hc, _⟩ | ⟨hd, hc, _⟩ <;> rw [hd, hc] <;> rfl
set_option maxHeartbeats 1000000 in
theorem refUp_v (s : ByteArray) (sv : Value) (w : World) (L : List Nat) (hL : LL L w) (h1 : RdF 1 L w sv ((sb s).map e8))  (hs : s.size ≤ 1000000) : CV Try.prog 36 [sv] w fun v W => v = .bool (upB s) := by
 refine cv_enter (N := 12) (f := [(0, sv)]) Try.func36 rfl rfl rfl rfl fun Q hQ hE => ?_
 have hB := Below.refl w.heap.size w
 refine WC.seq fun K1 hK1 => (WC.region (Pu rfl (WL.nil (hK1 (WC.seq fun K2 hK2 => (WC.region (Pu rfl ?_)))))))
 refine WL.get (dx_cv rfl Try.func66 rfl rfl rfl (refDec_v s _ w _ hL h1 hs)) rfl rfl ?_
 rintro _ W4 ⟨⟨du, rfl⟩, b3⟩
 replace hB := below_then hB b3
 refine Pu rfl (Pu rfl (Pu rfl (Pu rfl (Pu rfl (WL.nil (hK2 (WC.seq fun K5 hK5 => ?_)))))))
 refine WC.region (Pu rfl (WL.val (dx_eql rfl rfl rfl) rfl rfl (Pu rfl (WL.nil (hK5 ?_)))))
 exact WC.ret fun a_ ha_ => hQ (cv_ret1 rfl (.tmp rfl) (by cases upB s <;> simp) hB ha_)

abbrev RefRightAt (n : Nat) : Prop := ∀ (t : Tr) (room : Nat) (w : World) (L : List Nat), LL L w → RdT n L w t → SzT 1000000 n t → room ≤ 12 → CV Try.prog 42 [.agg #[.int .i64 t.kind, .int .i64 t.num, .string t.text, t.nv, t.iv], .int .i64 (12 - (room : Int))] w fun v W => v = .bool (rightJ upB room t.er)
theorem plain_leaf {t : Tr} {a b c d : Bool} (h : plainT a b c d t = true) : (a = false → t.num = 0) ∧ (b = false → t.text = ⟨#[]⟩) ∧ (c = false → t.names = []) ∧ (d = false → t.items = []) := by
 unfold plainT at h
 simp only [Bool.and_eq_true, Bool.or_eq_true, decide_eq_true_eq] at h
 obtain ⟨h1, h2, h3, h4⟩ := h
 refine ⟨fun e => ?_, fun e => ?_, fun e => ?_, fun e => ?_⟩ <;> simp_all
set_option maxHeartbeats 2000000 in
theorem refRight_step (n : Nat) (ih : RefRightAt n) (t : Tr) (room : Nat) (w : World) (L : List Nat) (hL : LL L w) (ht : RdT (n + 1) L w t)  (hz : SzT 1000000 (n + 1) t) (hrm : room ≤ 12) : CV Try.prog 42 [.agg #[.int .i64 t.kind, .int .i64 t.num, .string t.text, t.nv, t.iv], .int .i64 (12 - (room : Int))] w fun v W => v = .bool (rightJ upB room t.er) := by
 refine cv_enter (N := 109) (f := [(0, .agg #[.int .i64 t.kind, .int .i64 t.num, .string t.text, t.nv, t.iv]), (1, .int .i64 (12 - (room : Int)))]) Try.func42 rfl rfl rfl rfl fun Q hQ hE => ?_
 have hB := Below.refl w.heap.size w
 refine Sq fun K1 hK1 => ?_
 have hzt := hz
 obtain ⟨hz1, hz2, hz3, hz4, hz5⟩ := hz
 obtain ⟨hnt, hit, hct⟩ := ht
 replace hct : RdTs n (L) w t.items := hct
 rcases (show t.kind = 0 ∨ t.kind = 1 ∨ t.kind = 2 ∨ t.kind = 3 ∨ t.kind = 4 ∨ t.kind = 5 ∨ t.kind = 6 ∨ (t.kind ≠ 0 ∧ t.kind ≠ 1 ∧ t.kind ≠ 2 ∧ t.kind ≠ 3 ∧ t.kind ≠ 4 ∧ t.kind ≠ 5 ∧ t.kind ≠ 6) by omega) with hkt | hkt | hkt | hkt | hkt | hkt | hkt | hkt
 ·
  refine Rg ?_
  refine Ge (dx_box rfl rfl rfl) rfl rfl ?_
  rintro _ W2 ⟨rfl, k3, b4, z5⟩
  have l6 := hB.size
  replace hnt := hnt.more b4 (Nat.le_refl _)
  replace hit := hit.more b4 (Nat.le_refl _)
  replace hct := hct.more b4 (Nat.le_refl _)
  replace hB := below_then hB b4
  replace hL := LL.more hL z5
  refine Pu rfl (Ni (hK1 (Sq fun K7 hK7 => (Sq fun K8 hK8 => (Rg (Va (dx_fld (o1 := 0) rfl ty_fld_26_0_0 rfl rfl) rfl rfl (Va ((hkt ▸ dx_load rfl ty_one_3 rfl (k3.cell (k := 0) rfl))) rfl rfl ?_)))))))
  refine Ni (hK8 (WC.block (Sq fun K9 hK9 => (Sq fun K10 hK10 => (Rg (Va (dx_eql rfl rfl rfl) rfl rfl (Pu rfl ?_)))))))
  refine Ni (hK10 (WC.condT rfl (WC.skip (hK9 (WC.condT rfl (Sq fun K11 hK11 => (Rg ?_)))))))
  refine Va (dx_loadN rfl ty_agg_26_5 rfl k3.range rfl) rfl rfl ?_
  refine Ge (dx_cv rfl Try.func72 rfl rfl rfl (plainFFFF_v n t W2 _ hL (show RdT (n + 1) (w.heap.size :: L) W2 t from ⟨hnt, hit, hct⟩))) rfl rfl ?_
  rintro _ W13 ⟨rfl, b12⟩
  replace hB := below_then hB b12
  refine Pu rfl (Ni (hK11 ?_))
  exact WC.ret fun a_ ha_ => hQ (cv_ret1 rfl (.tmp rfl) (by rw [right_leaf (by first | (rw [hkt]; decide) | omega) (by first | (rw [hkt]; decide) | omega), leaf_er]; (try unfold plainT at *); by_cases a1 : t.num = 0 <;> by_cases a2 : t.text = ⟨#[]⟩ <;> by_cases a3 : t.names = [] <;> by_cases a4 : t.items = [] <;> simp_all <;> omega) hB ha_)
 ·
  refine Rg ?_
  refine Ge (dx_box rfl rfl rfl) rfl rfl ?_
  rintro _ W14 ⟨rfl, k15, b16, z17⟩
  have l18 := hB.size
  replace hnt := hnt.more b16 (Nat.le_refl _)
  replace hit := hit.more b16 (Nat.le_refl _)
  replace hct := hct.more b16 (Nat.le_refl _)
  replace hB := below_then hB b16
  replace hL := LL.more hL z17
  refine Pu rfl (Ni (hK1 (Sq fun K19 hK19 => (Sq fun K20 hK20 => (Rg (Va (dx_fld (o1 := 0) rfl ty_fld_26_0_0 rfl rfl) rfl rfl (Va ((hkt ▸ dx_load rfl ty_one_3 rfl (k15.cell (k := 0) rfl))) rfl rfl ?_)))))))
  refine Ni (hK20 (WC.block (Sq fun K21 hK21 => (Sq fun K22 hK22 => (Rg (Va (dx_eql rfl rfl rfl) rfl rfl (Pu rfl ?_)))))))
  refine Ni (hK22 (WC.condF rfl (Sq fun K23 hK23 => (Rg (Va (dx_eql rfl rfl rfl) rfl rfl (Pu rfl (Ni ?_)))))))
  refine hK23 (WC.condT rfl (WC.skip (hK21 (WC.condT rfl (Sq fun K24 hK24 => (Rg (Va (dx_loadN rfl ty_agg_26_5 rfl k15.range rfl) rfl rfl ?_)))))))
  refine Ge (dx_cv rfl Try.func72 rfl rfl rfl (plainFFFF_v n t W14 _ hL (show RdT (n + 1) (w.heap.size :: L) W14 t from ⟨hnt, hit, hct⟩))) rfl rfl ?_
  rintro _ W26 ⟨rfl, b25⟩
  replace hB := below_then hB b25
  refine Pu rfl (Ni (hK24 ?_))
  exact WC.ret fun a_ ha_ => hQ (cv_ret1 rfl (.tmp rfl) (by rw [right_leaf (by first | (rw [hkt]; decide) | omega) (by first | (rw [hkt]; decide) | omega), leaf_er]; (try unfold plainT at *); by_cases a1 : t.num = 0 <;> by_cases a2 : t.text = ⟨#[]⟩ <;> by_cases a3 : t.names = [] <;> by_cases a4 : t.items = [] <;> simp_all <;> omega) hB ha_)
 ·
  refine Rg ?_
  refine Ge (dx_box rfl rfl rfl) rfl rfl ?_
  rintro _ W27 ⟨rfl, k28, b29, z30⟩
  have l31 := hB.size
  replace hnt := hnt.more b29 (Nat.le_refl _)
  replace hit := hit.more b29 (Nat.le_refl _)
  replace hct := hct.more b29 (Nat.le_refl _)
  replace hB := below_then hB b29
  replace hL := LL.more hL z30
  refine Pu rfl (Ni (hK1 (Sq fun K32 hK32 => (Sq fun K33 hK33 => (Rg (Va (dx_fld (o1 := 0) rfl ty_fld_26_0_0 rfl rfl) rfl rfl (Va ((hkt ▸ dx_load rfl ty_one_3 rfl (k28.cell (k := 0) rfl))) rfl rfl ?_)))))))
  refine Ni (hK33 (WC.block (Sq fun K34 hK34 => (Sq fun K35 hK35 => (Rg (Va (dx_eql rfl rfl rfl) rfl rfl (Pu rfl ?_)))))))
  refine Ni (hK35 (WC.condF rfl (Sq fun K36 hK36 => (Rg (Va (dx_eql rfl rfl rfl) rfl rfl (Pu rfl (Ni ?_)))))))
  refine hK36 (WC.condF rfl (Rg (Va (dx_eql rfl rfl rfl) rfl rfl (Pu rfl (Ni (hK34 (WC.condT rfl ?_)))))))
  refine Sq fun K37 hK37 => (Rg (Va (dx_loadN rfl ty_agg_26_5 rfl k28.range rfl) rfl rfl ?_))
  refine Ge (dx_cv rfl Try.func72 rfl rfl rfl (plainFFFF_v n t W27 _ hL (show RdT (n + 1) (w.heap.size :: L) W27 t from ⟨hnt, hit, hct⟩))) rfl rfl ?_
  rintro _ W39 ⟨rfl, b38⟩
  replace hB := below_then hB b38
  refine Pu rfl (Ni (hK37 ?_))
  exact WC.ret fun a_ ha_ => hQ (cv_ret1 rfl (.tmp rfl) (by rw [right_leaf (by first | (rw [hkt]; decide) | omega) (by first | (rw [hkt]; decide) | omega), leaf_er]; (try unfold plainT at *); by_cases a1 : t.num = 0 <;> by_cases a2 : t.text = ⟨#[]⟩ <;> by_cases a3 : t.names = [] <;> by_cases a4 : t.items = [] <;> simp_all <;> omega) hB ha_)
 ·
  refine Rg ?_
  refine Ge (dx_box rfl rfl rfl) rfl rfl ?_
  rintro _ W40 ⟨rfl, k41, b42, z43⟩
  have l44 := hB.size
  replace hnt := hnt.more b42 (Nat.le_refl _)
  replace hit := hit.more b42 (Nat.le_refl _)
  replace hct := hct.more b42 (Nat.le_refl _)
  replace hB := below_then hB b42
  replace hL := LL.more hL z43
  refine Pu rfl (Ni (hK1 (Sq fun K45 hK45 => (Sq fun K46 hK46 => (Rg (Va (dx_fld (o1 := 0) rfl ty_fld_26_0_0 rfl rfl) rfl rfl (Va ((hkt ▸ dx_load rfl ty_one_3 rfl (k41.cell (k := 0) rfl))) rfl rfl ?_)))))))
  refine Ni (hK46 (WC.block (Sq fun K47 hK47 => (Sq fun K48 hK48 => (Rg (Va (dx_eql rfl rfl rfl) rfl rfl (Pu rfl ?_)))))))
  refine Ni (hK48 (WC.condF rfl (Sq fun K49 hK49 => (Rg (Va (dx_eql rfl rfl rfl) rfl rfl (Pu rfl (Ni ?_)))))))
  refine hK49 (WC.condF rfl (Rg (Va (dx_eql rfl rfl rfl) rfl rfl (Pu rfl (Ni (hK47 (WC.condF rfl ?_)))))))
  refine Sq fun K50 hK50 => (Rg (Va (dx_eql rfl rfl rfl) rfl rfl (Pu rfl (Ni (hK50 (WC.condT rfl (Sq fun K51 hK51 => ?_)))))))
  refine Rg (Va (dx_loadN rfl ty_agg_26_5 rfl k41.range rfl) rfl rfl ?_)
  refine Ge (dx_cv rfl Try.func72 rfl rfl rfl (plainTFFF_v n t W40 _ hL (show RdT (n + 1) (w.heap.size :: L) W40 t from ⟨hnt, hit, hct⟩))) rfl rfl ?_
  rintro _ W53 ⟨rfl, b52⟩
  replace k41 := k41.below b52
  replace hB := below_then hB b52
  refine Pu rfl ?_
  refine WL.split 19 rfl (fun g54 => ?_) (fun g54 => ?_)
  ·
   refine Va (dx_fld (o1 := 1) rfl ty_fld_26_1_1 rfl rfl) rfl rfl (Va (dx_load rfl ty_one_3 rfl (k41.cell (k := 1) rfl)) rfl rfl (Va (dx_geq rfl rfl rfl) rfl rfl (Pu rfl (Pu rfl ?_))))
   refine WL.split 24 rfl (fun g55 => ?_) (fun g55 => ?_)
   ·
    replace g55 := dT g55
    refine Va (dx_fld (o1 := 1) rfl ty_fld_26_1_1 rfl rfl) rfl rfl (Va (dx_load rfl ty_one_3 rfl (k41.cell (k := 1) rfl)) rfl rfl (Va (dx_leq rfl rfl rfl) rfl rfl (Pu rfl (Pu rfl (Ni (hK51 ?_))))))
    exact WC.ret fun a_ ha_ => hQ (cv_ret1 rfl (.tmp rfl) (by rw [right_leaf (by first | (rw [hkt]; decide) | omega) (by first | (rw [hkt]; decide) | omega), leaf_er]; (try unfold plainT at *); by_cases a1 : t.num = 0 <;> by_cases a2 : t.text = ⟨#[]⟩ <;> by_cases a3 : t.names = [] <;> by_cases a4 : t.items = [] <;> simp_all <;> omega) hB ha_)
   ·
    replace g55 := dF g55
    refine Of rfl (Of rfl (Of rfl (Pu rfl (Pu rfl (Ni (hK51 ?_))))))
    exact WC.ret fun a_ ha_ => hQ (cv_ret1 rfl (.tmp rfl) (by rw [right_leaf (by first | (rw [hkt]; decide) | omega) (by first | (rw [hkt]; decide) | omega), leaf_er]; (try unfold plainT at *); by_cases a1 : t.num = 0 <;> by_cases a2 : t.text = ⟨#[]⟩ <;> by_cases a3 : t.names = [] <;> by_cases a4 : t.items = [] <;> simp_all <;> omega) hB ha_)
  ·
   refine Of rfl (Of rfl (Of rfl (Pu rfl (Pu rfl (Of rfl (Of rfl (Of rfl ?_)))))))
   refine Pu rfl (Pu rfl (Ni (hK51 ?_)))
   exact WC.ret fun a_ ha_ => hQ (cv_ret1 rfl (.tmp rfl) (by rw [right_leaf (by first | (rw [hkt]; decide) | omega) (by first | (rw [hkt]; decide) | omega), leaf_er]; (try unfold plainT at *); by_cases a1 : t.num = 0 <;> by_cases a2 : t.text = ⟨#[]⟩ <;> by_cases a3 : t.names = [] <;> by_cases a4 : t.items = [] <;> simp_all <;> omega) hB ha_)
 ·
  refine Rg ?_
  refine Ge (dx_box rfl rfl rfl) rfl rfl ?_
  rintro _ W56 ⟨rfl, k57, b58, z59⟩
  have l60 := hB.size
  replace hnt := hnt.more b58 (Nat.le_refl _)
  replace hit := hit.more b58 (Nat.le_refl _)
  replace hct := hct.more b58 (Nat.le_refl _)
  replace hB := below_then hB b58
  replace hL := LL.more hL z59
  refine Pu rfl (Ni (hK1 (Sq fun K61 hK61 => (Sq fun K62 hK62 => (Rg (Va (dx_fld (o1 := 0) rfl ty_fld_26_0_0 rfl rfl) rfl rfl (Va ((hkt ▸ dx_load rfl ty_one_3 rfl (k57.cell (k := 0) rfl))) rfl rfl ?_)))))))
  refine Ni (hK62 (WC.block (Sq fun K63 hK63 => (Sq fun K64 hK64 => (Rg (Va (dx_eql rfl rfl rfl) rfl rfl (Pu rfl ?_)))))))
  refine Ni (hK64 (WC.condF rfl (Sq fun K65 hK65 => (Rg (Va (dx_eql rfl rfl rfl) rfl rfl (Pu rfl (Ni ?_)))))))
  refine hK65 (WC.condF rfl (Rg (Va (dx_eql rfl rfl rfl) rfl rfl (Pu rfl (Ni (hK63 (WC.condF rfl ?_)))))))
  refine Sq fun K66 hK66 => (Rg (Va (dx_eql rfl rfl rfl) rfl rfl (Pu rfl (Ni (hK66 (WC.condF rfl (Sq fun K67 hK67 => ?_)))))))
  refine Rg (Va (dx_eql rfl rfl rfl) rfl rfl (Pu rfl (Ni (hK67 (WC.condT rfl (Sq fun K68 hK68 => (Rg ?_)))))))
  refine Va (dx_loadN rfl ty_agg_26_5 rfl k57.range rfl) rfl rfl ?_
  refine Ge (dx_cv rfl Try.func72 rfl rfl rfl (plainFTFF_v n t W56 _ hL (show RdT (n + 1) (w.heap.size :: L) W56 t from ⟨hnt, hit, hct⟩))) rfl rfl ?_
  rintro _ W70 ⟨rfl, b69⟩
  replace k57 := k57.below b69
  replace hB := below_then hB b69
  replace hL := LL.below hL b69
  refine Pu rfl ?_
  refine WL.split 33 rfl (fun g71 => ?_) (fun g71 => ?_)
  ·
   refine Va (dx_fld (o1 := 2) rfl ty_fld_26_2_2 rfl rfl) rfl rfl (Va (dx_load rfl ty_one_9 rfl (k57.cell (k := 2) rfl)) rfl rfl ?_)
   refine Ge (dx_sb (L := w.heap.size :: L) rfl Try.underlying9 Try.underlying50 Try.underlying5 rfl hL (by unfold maxLen; omega)) rfl rfl ?_
   rintro u72 W73 ⟨k74, b75⟩
   replace hB := below_then hB b75
   replace hL := LL.below hL b75
   refine Ge (dx_cv rfl Try.func36 rfl rfl rfl (refUp_v t.text _ W73 _ hL k74 (by omega))) rfl rfl ?_
   rintro _ W77 ⟨rfl, b76⟩
   replace hB := below_then hB b76
   refine Pu rfl (Pu rfl (Ni (hK68 ?_)))
   exact WC.ret fun a_ ha_ => hQ (cv_ret1 rfl (.tmp rfl) (by rw [right_leaf (by first | (rw [hkt]; decide) | omega) (by first | (rw [hkt]; decide) | omega), leaf_er]; (try unfold plainT at *); by_cases a1 : t.num = 0 <;> by_cases a2 : t.text = ⟨#[]⟩ <;> by_cases a3 : t.names = [] <;> by_cases a4 : t.items = [] <;> simp_all <;> omega) hB ha_)
  ·
   refine Of rfl (Of rfl (Of rfl (Of rfl (Pu rfl (Pu rfl (Ni (hK68 ?_)))))))
   exact WC.ret fun a_ ha_ => hQ (cv_ret1 rfl (.tmp rfl) (by rw [right_leaf (by first | (rw [hkt]; decide) | omega) (by first | (rw [hkt]; decide) | omega), leaf_er]; (try unfold plainT at *); by_cases a1 : t.num = 0 <;> by_cases a2 : t.text = ⟨#[]⟩ <;> by_cases a3 : t.names = [] <;> by_cases a4 : t.items = [] <;> simp_all <;> omega) hB ha_)
 ·
  refine Rg ?_
  refine Ge (dx_box rfl rfl rfl) rfl rfl ?_
  rintro _ W78 ⟨rfl, k79, b80, z81⟩
  have l82 := hB.size
  replace hnt := hnt.more b80 (Nat.le_refl _)
  replace hit := hit.more b80 (Nat.le_refl _)
  replace hct := hct.more b80 (Nat.le_refl _)
  replace hB := below_then hB b80
  replace hL := LL.more hL z81
  refine Pu rfl (Ni (hK1 (Sq fun K83 hK83 => (Sq fun K84 hK84 => (Rg (Va (dx_fld (o1 := 0) rfl ty_fld_26_0_0 rfl rfl) rfl rfl (Va ((hkt ▸ dx_load rfl ty_one_3 rfl (k79.cell (k := 0) rfl))) rfl rfl ?_)))))))
  refine Ni (hK84 (WC.block (Sq fun K85 hK85 => (Sq fun K86 hK86 => (Rg (Va (dx_eql rfl rfl rfl) rfl rfl (Pu rfl ?_)))))))
  refine Ni (hK86 (WC.condF rfl (Sq fun K87 hK87 => (Rg (Va (dx_eql rfl rfl rfl) rfl rfl (Pu rfl (Ni ?_)))))))
  refine hK87 (WC.condF rfl (Rg (Va (dx_eql rfl rfl rfl) rfl rfl (Pu rfl (Ni (hK85 (WC.condF rfl ?_)))))))
  refine Sq fun K88 hK88 => (Rg (Va (dx_eql rfl rfl rfl) rfl rfl (Pu rfl (Ni (hK88 (WC.condF rfl (Sq fun K89 hK89 => ?_)))))))
  refine Rg (Va (dx_eql rfl rfl rfl) rfl rfl (Pu rfl (Ni (hK89 (WC.condF rfl (Sq fun K90 hK90 => (Rg ?_)))))))
  refine Va (dx_eql rfl rfl rfl) rfl rfl (Pu rfl (Ni (hK90 (WC.condT rfl (Sq fun K91 hK91 => (Rg (Va (dx_loadN rfl ty_agg_26_5 rfl k79.range rfl) rfl rfl ?_)))))))
  refine Ge (dx_cv rfl Try.func72 rfl rfl rfl (plainFFFT_v n t W78 _ hL (show RdT (n + 1) (w.heap.size :: L) W78 t from ⟨hnt, hit, hct⟩))) rfl rfl ?_
  rintro _ W93 ⟨rfl, b92⟩
  replace hnt := hnt.below b92
  replace hit := hit.below b92
  replace hct := hct.below b92
  replace k79 := k79.below b92
  replace hB := below_then hB b92
  replace hL := LL.below hL b92
  refine Va (dx_not rfl rfl) rfl rfl (Ni (hK91 ?_))
  refine WC.cond rfl (fun c94 => ?_) (fun c94 => ?_)
  ·
   replace c94 := bnot_t c94
   refine Sq fun K95 hK95 => (Rg (Pu rfl (Ni (hK95 ?_))))
   exact WC.ret fun a_ ha_ => hQ (cv_ret1 rfl (.tmp rfl) (by rw [right_node (by first | exact .inl hkt | exact .inr hkt)]; cases room with | zero => rfl | succ m => (have hne : nodeJ upB t.er = false := (by rw [node_er]; first | (have hp : plainT _ _ _ _ t = false := (by assumption); unfold plainT at hp; simp_all; done) | (have hlq : ¬ t.names.length = t.items.length := (by omega); simp [hkt, hlq])); show _ = Value.bool (_ && _); rw [hne, Bool.false_and])) hB ha_)
  ·
   replace c94 := bnot_f c94
   refine WC.skip (hK83 (Sq fun K96 hK96 => (Sq fun K97 hK97 => ?_)))
   cases room with
   | zero =>
    refine Rg (Pu rfl (Va (dv_T (dx_geq rfl rfl rfl) (by omega)) rfl rfl (Ni (hK97 (WC.condT rfl (Sq fun K98 hK98 => (Rg ?_)))))))
    refine Pu rfl (Ni (hK98 ?_))
    exact WC.ret fun a_ ha_ => hQ (cv_ret1 rfl (.tmp rfl) (by rw [right_node (by first | exact .inl hkt | exact .inr hkt)]) hB ha_)
   | succ m =>
    refine Rg (Pu rfl (Va (dv_N (dx_geq rfl rfl rfl) (by omega)) rfl rfl (Ni (hK97 (WC.condF rfl (WC.skip (hK96 ?_)))))))
    refine Sq fun K99 hK99 => (Sq fun K100 hK100 => ?_)
    obtain ⟨w1, w2, w3, w4⟩ := plain_leaf ‹plainT _ _ _ _ t = true›
    have hnode : nodeJ upB t.er = true := by rw [node_er, w1 rfl, w2 rfl, hkt]; rw [w3 rfl]; rfl
    refine Rg (Pu rfl (Ni (hK100 (WC.block ?_))))
    refine WC.loop (fun (i : Nat) => [(1, .int .i64 (12 - ((m + 1 : Nat) : Int))), (2, .pointer (some ⟨w.heap.size, 0, none⟩)), (6, .int .i64 (i : Int))]) (fun (i : Nat) W => i ≤ t.items.length ∧ (∀ k c, k < i → t.items[k]? = some c → rightJ upB m c.er = true) ∧ Below w.heap.size w W ∧ LL (w.heap.size :: L) W ∧ RdF 1 (w.heap.size :: L) W t.nv (t.names.map eS) ∧ RdF 5 (w.heap.size :: L) W t.iv (t.items.map encT) ∧ RdTs n (w.heap.size :: L) W t.items ∧ Blk W w.heap.size [.int .i64 t.kind, .int .i64 t.num, .string t.text, t.nv, t.iv]) (fun (i : Nat) => t.items.length - i) 0 (by repeat first | exact trivial | exact And.intro rfl trivial | refine And.intro rfl ?_ | refine And.intro (congrArg (fun z : Int => some (Value.int .i64 z)) (by omega)) ?_) ⟨Nat.zero_le _, (fun k c hk => by omega), hB, hL, hnt, hit, hct, k79⟩ ?_
    clear hnt hit hct k79 hB hL
    rintro K101 i W102 ⟨hi, hv, hB, hL, hnt, hit, hct, k79⟩ hK101
    refine Sq fun K103 hK103 => (Sq fun K104 hK104 => (Rg (Pu rfl (Va (dx_fld (o1 := 4) rfl ty_fld_26_4_4 rfl rfl) rfl rfl (Va (dx_load rfl ty_one_24 rfl (k79.cell (k := 4) rfl)) rfl rfl (Va (dx_lenFM rfl ty_slice_24 rfl hit) rfl rfl (Va (dx_lss rfl rfl rfl) rfl rfl ?_)))))))
    refine Ni (hK104 ?_)
    refine WC.cond rfl (fun c105 => ?_) (fun c105 => ?_)
    ·
     replace c105 := dT c105
     refine WC.skip (hK103 (Sq fun K106 hK106 => (WC.block (Sq fun K107 hK107 => (Rg (Va (dx_fld (o1 := 4) rfl ty_fld_26_4_4 rfl rfl) rfl rfl (Va (dx_load rfl ty_one_24 rfl (k79.cell (k := 4) rfl)) rfl rfl ?_)))))))
     refine Pu rfl ?_
     obtain ⟨r108, e109⟩ : ∃ x, t.items[i]? = some x := ⟨_, List.getElem?_eq_getElem (by omega)⟩
     refine Ge (dx_idxF i rfl ty_slice_24 rfl rfl hit (by omega) (at_mapX e109)) rfl rfl ?_
     rintro u110 _ ⟨rfl, p111⟩
     refine Va (dx_loadPN rfl ty_agg_26_5 rfl p111 rfl) rfl rfl (Pu rfl (Va (dx_add (r := 12 - (m : Int)) rfl rfl rfl (by rw [wrap64_id (by omega)]; omega)) rfl rfl ?_))
     refine Ge (dx_cv rfl Try.func42 rfl rfl rfl (ih r108 m W102 _ hL (hct r108 (List.mem_of_getElem? e109)) (hz5 r108 (List.mem_of_getElem? e109)) (by omega))) rfl rfl ?_
     rintro _ W113 ⟨rfl, b112⟩
     replace hnt := hnt.below b112
     replace hit := hit.below b112
     replace hct := hct.below b112
     replace k79 := k79.below b112
     replace hB := below_then hB b112
     replace hL := LL.below hL b112
     refine Va (dx_not rfl rfl) rfl rfl (Ni (hK107 ?_))
     refine WC.cond rfl (fun c114 => ?_) (fun c114 => ?_)
     ·
      replace c114 := bnot_t c114
      refine Sq fun K115 hK115 => (Rg (Pu rfl (Ni (hK115 ?_))))
      exact WC.ret fun a_ ha_ => hQ (cv_ret1 rfl (.tmp rfl) (by rw [right_node (by first | exact .inl hkt | exact .inr hkt)]; show _ = Value.bool (_ && _); rw [er_items, items_f e109 (by first | assumption | simp_all), Bool.and_false]) hB ha_)
     ·
      replace c114 := bnot_f c114
      refine WC.skip (hK106 (Rg (Pu rfl (Va (dx_add (r := (i : Int) + 1) rfl rfl rfl (wrap64_id (by omega))) rfl rfl (Pu rfl (Ni ?_))))))
      exact hK101 (i + 1) ⟨(by omega), (fun k c hk hc_ => by rcases Nat.lt_or_ge k i with hl | hl; exact hv k c hl hc_; obtain rfl : k = i := (by omega); rw [e109] at hc_; cases hc_; first | assumption | simp_all), hB, hL, hnt, hit, hct, k79⟩ (by omega) (by repeat first | exact trivial | exact And.intro rfl trivial | refine And.intro rfl ?_ | refine And.intro (congrArg (fun z : Int => some (Value.int .i64 z)) (by omega)) ?_)
    ·
     replace c105 := dF c105
     refine WC.exit ?_
     refine hK99 (Sq fun K116 hK116 => (Rg (Pu rfl (Ni (hK116 ?_)))))
     exact WC.ret fun a_ ha_ => hQ (cv_ret1 rfl (.tmp rfl) (by rw [right_node (by first | exact .inl hkt | exact .inr hkt)]; show _ = Value.bool (_ && _); rw [hnode, er_items, items_t (fun k c hk hc_ => hv k c (by omega) hc_)]; rfl) hB ha_)
 ·
  refine Rg ?_
  refine Ge (dx_box rfl rfl rfl) rfl rfl ?_
  rintro _ W117 ⟨rfl, k118, b119, z120⟩
  have l121 := hB.size
  replace hnt := hnt.more b119 (Nat.le_refl _)
  replace hit := hit.more b119 (Nat.le_refl _)
  replace hct := hct.more b119 (Nat.le_refl _)
  replace hB := below_then hB b119
  replace hL := LL.more hL z120
  refine Pu rfl (Ni (hK1 (Sq fun K122 hK122 => (Sq fun K123 hK123 => (Rg (Va (dx_fld (o1 := 0) rfl ty_fld_26_0_0 rfl rfl) rfl rfl (Va ((hkt ▸ dx_load rfl ty_one_3 rfl (k118.cell (k := 0) rfl))) rfl rfl ?_)))))))
  refine Ni (hK123 (WC.block (Sq fun K124 hK124 => (Sq fun K125 hK125 => (Rg (Va (dx_eql rfl rfl rfl) rfl rfl (Pu rfl ?_)))))))
  refine Ni (hK125 (WC.condF rfl (Sq fun K126 hK126 => (Rg (Va (dx_eql rfl rfl rfl) rfl rfl (Pu rfl (Ni ?_)))))))
  refine hK126 (WC.condF rfl (Rg (Va (dx_eql rfl rfl rfl) rfl rfl (Pu rfl (Ni (hK124 (WC.condF rfl ?_)))))))
  refine Sq fun K127 hK127 => (Rg (Va (dx_eql rfl rfl rfl) rfl rfl (Pu rfl (Ni (hK127 (WC.condF rfl (Sq fun K128 hK128 => ?_)))))))
  refine Rg (Va (dx_eql rfl rfl rfl) rfl rfl (Pu rfl (Ni (hK128 (WC.condF rfl (Sq fun K129 hK129 => (Rg ?_)))))))
  refine Va (dx_eql rfl rfl rfl) rfl rfl (Pu rfl (Ni (hK129 (WC.condF rfl (Sq fun K130 hK130 => (Rg (Va (dx_eql rfl rfl rfl) rfl rfl ?_)))))))
  refine Pu rfl (Ni (hK130 (WC.condT rfl (Sq fun K131 hK131 => (Sq fun K132 hK132 => (Rg (Va (dx_loadN rfl ty_agg_26_5 rfl k118.range rfl) rfl rfl ?_)))))))
  refine Ge (dx_cv rfl Try.func72 rfl rfl rfl (plainFFTT_v n t W117 _ hL (show RdT (n + 1) (w.heap.size :: L) W117 t from ⟨hnt, hit, hct⟩))) rfl rfl ?_
  rintro _ W134 ⟨rfl, b133⟩
  replace hnt := hnt.below b133
  replace hit := hit.below b133
  replace hct := hct.below b133
  replace k118 := k118.below b133
  replace hB := below_then hB b133
  replace hL := LL.below hL b133
  refine Va (dx_not rfl rfl) rfl rfl (Pu rfl ?_)
  refine WL.split 49 rfl (fun g135 => ?_) (fun g135 => ?_)
  ·
   replace g135 := bnot_t g135
   refine Of rfl (Of rfl (Of rfl (Of rfl (Of rfl (Of rfl (Of rfl (Pu rfl ?_)))))))
   refine Ni (hK132 (WC.condT rfl (Sq fun K136 hK136 => (Rg (Pu rfl (Ni (hK136 ?_)))))))
   exact WC.ret fun a_ ha_ => hQ (cv_ret1 rfl (.tmp rfl) (by rw [right_node (by first | exact .inl hkt | exact .inr hkt)]; cases room with | zero => rfl | succ m => (have hne : nodeJ upB t.er = false := (by rw [node_er]; first | (have hp : plainT _ _ _ _ t = false := (by assumption); unfold plainT at hp; simp_all; done) | (have hlq : ¬ t.names.length = t.items.length := (by omega); simp [hkt, hlq])); show _ = Value.bool (_ && _); rw [hne, Bool.false_and])) hB ha_)
  ·
   replace g135 := bnot_f g135
   refine Va (dx_fld (o1 := 3) rfl ty_fld_26_3_3 rfl rfl) rfl rfl (Va (dx_load rfl ty_one_23 rfl (k118.cell (k := 3) rfl)) rfl rfl (Va (dx_lenFM rfl ty_slice_23 rfl hnt) rfl rfl (Va (dx_fld (o1 := 4) rfl ty_fld_26_4_4 rfl rfl) rfl rfl (Va (dx_load rfl ty_one_24 rfl (k118.cell (k := 4) rfl)) rfl rfl (Va (dx_lenFM rfl ty_slice_24 rfl hit) rfl rfl (Va (dx_neq rfl rfl rfl) rfl rfl (Pu rfl ?_)))))))
   refine Ni (hK132 ?_)
   refine WC.cond rfl (fun c137 => ?_) (fun c137 => ?_)
   ·
    replace c137 := bnot_t c137
    replace c137 := dF c137
    refine Sq fun K138 hK138 => (Rg (Pu rfl (Ni (hK138 ?_))))
    exact WC.ret fun a_ ha_ => hQ (cv_ret1 rfl (.tmp rfl) (by rw [right_node (by first | exact .inl hkt | exact .inr hkt)]; cases room with | zero => rfl | succ m => (have hne : nodeJ upB t.er = false := (by rw [node_er]; first | (have hp : plainT _ _ _ _ t = false := (by assumption); unfold plainT at hp; simp_all; done) | (have hlq : ¬ t.names.length = t.items.length := (by omega); simp [hkt, hlq])); show _ = Value.bool (_ && _); rw [hne, Bool.false_and])) hB ha_)
   ·
    replace c137 := bnot_f c137
    replace c137 := dT c137
    refine WC.skip (hK131 (Sq fun K139 hK139 => (Rg (Pu rfl (Ni (hK139 (WC.block ?_)))))))
    refine WC.loop (fun (i : Nat) => [(1, .int .i64 (12 - (room : Int))), (2, .pointer (some ⟨w.heap.size, 0, none⟩)), (5, .int .i64 (i : Int))]) (fun (i : Nat) W => i ≤ t.names.length ∧ (∀ k a, k < i → t.names[k]? = some a → upB a = true) ∧ (∀ k a b, k + 1 < i → t.names[k]? = some a → t.names[k + 1]? = some b → sless a b = true) ∧ Below w.heap.size w W ∧ LL (w.heap.size :: L) W ∧ RdF 1 (w.heap.size :: L) W t.nv (t.names.map eS) ∧ RdF 5 (w.heap.size :: L) W t.iv (t.items.map encT) ∧ RdTs n (w.heap.size :: L) W t.items ∧ Blk W w.heap.size [.int .i64 t.kind, .int .i64 t.num, .string t.text, t.nv, t.iv]) (fun (i : Nat) => t.names.length - i) 0 (by repeat first | exact trivial | exact And.intro rfl trivial | refine And.intro rfl ?_ | refine And.intro (congrArg (fun z : Int => some (Value.int .i64 z)) (by omega)) ?_) ⟨Nat.zero_le _, (fun k a hk => by omega), (fun k a b hk => by omega), hB, hL, hnt, hit, hct, k118⟩ ?_
    clear hnt hit hct k118 hB hL
    rintro K140 i W141 ⟨hi, hv, hs, hB, hL, hnt, hit, hct, k118⟩ hK140
    refine Sq fun K142 hK142 => (Sq fun K143 hK143 => (Rg (Pu rfl (Va (dx_fld (o1 := 3) rfl ty_fld_26_3_3 rfl rfl) rfl rfl (Va (dx_load rfl ty_one_23 rfl (k118.cell (k := 3) rfl)) rfl rfl (Va (dx_lenFM rfl ty_slice_23 rfl hnt) rfl rfl (Va (dx_lss rfl rfl rfl) rfl rfl ?_)))))))
    refine Ni (hK143 ?_)
    refine WC.cond rfl (fun c144 => ?_) (fun c144 => ?_)
    ·
     replace c144 := dT c144
     refine WC.skip (hK142 (Sq fun K145 hK145 => (WC.block (Sq fun K146 hK146 => ?_))))
     obtain ⟨r147, e148⟩ : ∃ x, t.names[i]? = some x := ⟨_, List.getElem?_eq_getElem (by omega)⟩
     have hsz := hz4 r147 (List.mem_of_getElem? e148)
     obtain ⟨b149, hb149⟩ : ∃ b, b = (!(upB r147)) := ⟨_, rfl⟩
     obtain ⟨b150, hb150⟩ : ∃ b, b = ((!b149) && (decide (0 < (i : Int)))) := ⟨_, rfl⟩
     obtain ⟨r151, e152⟩ : ∃ x, t.names[(i - 1)]? = some x := ⟨_, List.getElem?_eq_getElem (by omega)⟩
     refine WC.drawM 26 [(some 65, .is (.pointer (some ⟨w.heap.size, 3, none⟩))), (some 66, .is (t.nv)), (some 67, .is (.int .i64 (i : Int))), (some 68, .by fun u W => PtR (w.heap.size :: L) W u [.string r147]), (some 69, .is (.string r147)), (some 70, .by fun u W => RdF 1 (w.heap.size :: L) W u ((sb r147).map e8)), (some 71, .is (.bool (upB r147))), (some 72, .is (.bool (!(upB r147)))), (some 73, .is (.bool b149)), (some 74, .is (bif b149 then undef else .int .i64 (i : Int))), (some 75, .is (bif b149 then undef else .bool (decide (0 < (i : Int))))), (some 76, .is (bif b149 then undef else .bool b150)), (some 77, .is (bif b150 then .pointer (some ⟨w.heap.size, 3, none⟩) else undef)), (some 78, .is (bif b150 then t.nv else undef)), (some 79, .is (bif b150 then .int .i64 (i : Int) else undef)), (some 80, .is (bif b150 then .int .i64 ((i : Int) - 1) else undef)), (some 81, .by fun u W => b150 = true → PtR (w.heap.size :: L) W u [.string r151]), (some 82, .is (bif b150 then .string r151 else undef)), (some 83, .is (bif b150 then .pointer (some ⟨w.heap.size, 3, none⟩) else undef)), (some 84, .is (bif b150 then t.nv else undef)), (some 85, .is (bif b150 then .int .i64 (i : Int) else undef)), (some 86, .by fun u W => b150 = true → PtR (w.heap.size :: L) W u [.string r147]), (some 87, .is (bif b150 then .string r147 else undef)), (some 88, .is (bif b150 then .bool (!(sless r151 r147)) else undef)), (some 89, .is (bif b149 then undef else .bool (b150 && (!(sless r151 r147))))), (some 90, .is (.bool (b149 || (b150 && (!(sless r151 r147))))))] [[], [0], [], [1, 2], [3], [4], [5], [6], [7, 6], [8], [9, 8], [10, 8, 8], [11], [12, 11], [11], [14, 11], [13, 15, 11], [16, 11], [11], [18, 11], [11], [19, 20, 11], [21, 11], [17, 22, 11], [11, 23, 8], [8, 24]] (by kernel_rfl) (by kernel_rfl) (by kernel_rfl) (by kernel_rfl) (by kernel_rfl) (by kernel_rfl) (by kernel_rfl) ⟨fun _ _ _ hb h => h.below hb, fun _ _ _ hb h => h.below hb, fun _ _ _ hb h g => (h g).below hb, fun _ _ _ hb h g => (h g).below hb, trivial⟩ ?_ ?_
     ·
      refine Dc (fun Wd hd => ?_) ?_
      ·
       exact Dd (dx_fld (o1 := 3) rfl ty_fld_26_3_3 rfl rfl) rfl
      refine Dc (fun Wd hd => ?_) ?_
      ·
       have k118 := k118.below hd
       exact Dd (dx_load rfl ty_one_23 rfl (k118.cell (k := 3) rfl)) rfl
      refine Dc (fun Wd hd => ?_) ?_
      ·
       exact Dd (dx_move rfl rfl) rfl
      refine Dc (fun Wd hd => ?_) ?_
      ·
       have hnt := hnt.below hd
       exact (dx_idxF i rfl ty_slice_23 rfl rfl hnt (by omega) (at_mapX e148)).mono (fun v W' h => ⟨by rw [← h.1]; exact Below.refl _ _, by rw [← h.1]; exact h.2⟩)
      refine Dc (fun Wd hd => ?_) ?_
      ·
       intro u20_3 p20_3
       exact Dd (dx_loadP rfl ty_one_9 rfl p20_3) rfl
      refine Dc (fun Wd hd => ?_) ?_
      ·
       exact (dx_sb (L := w.heap.size :: L) rfl Try.underlying9 Try.underlying50 Try.underlying5 rfl (LL.below hL hd) (by unfold maxLen; omega)).mono (fun v W' h => ⟨h.2, h.1⟩)
      refine Dc (fun Wd hd => ?_) ?_
      ·
       intro u20_5 p20_5
       exact DR.mono (dx_cv rfl Try.func36 rfl rfl rfl (refUp_v r147 _ Wd _ (LL.below hL hd) p20_5 (by omega))) (fun v W' ⟨h, hb⟩ => ⟨hb, (by rw [h]; exact rfl)⟩)
      refine Dc (fun Wd hd => ?_) ?_
      ·
       exact Dd (dx_not rfl rfl) rfl
      refine Dc (fun Wd hd => ?_) ?_
      ·
       exact DV.dr (dx_move rfl rfl) ⟨Below.refl _ _, by rw [hb149]; rfl⟩
      refine Dc (fun Wd hd => ?_) ?_
      ·
       cases b149
       ·
        exact Dd (dx_move rfl rfl) rfl
       ·
        exact Dd (dv_off rfl) rfl
      refine Dc (fun Wd hd => ?_) ?_
      ·
       cases b149
       ·
        exact Dd (dx_gtr rfl rfl rfl) rfl
       ·
        exact Dd (dv_off rfl) rfl
      refine Dc (fun Wd hd => ?_) ?_
      ·
       cases b149
       ·
        exact DV.dr (dx_move rfl rfl) ⟨Below.refl _ _, by rw [hb150]; rfl⟩
       ·
        exact DV.dr (dv_off rfl) ⟨Below.refl _ _, by rw [hb150]; rfl⟩
      refine Dc (fun Wd hd => ?_) ?_
      ·
       cases b149
       ·
        cases b150
        ·
         exact Dd (dv_off rfl) rfl
        ·
         exact Dd (dx_fld (o1 := 3) rfl ty_fld_26_3_3 rfl rfl) rfl
       ·
        cases b150
        ·
         exact Dd (dv_off rfl) rfl
        ·
         exact absurd hb150 (by simp)
      refine Dc (fun Wd hd => ?_) ?_
      ·
       cases b149
       ·
        cases b150
        ·
         exact Dd (dv_off rfl) rfl
        ·
         have k118 := k118.below hd
         exact Dd (dx_load rfl ty_one_23 rfl (k118.cell (k := 3) rfl)) rfl
       ·
        cases b150
        ·
         exact Dd (dv_off rfl) rfl
        ·
         exact absurd hb150 (by simp)
      refine Dc (fun Wd hd => ?_) ?_
      ·
       cases b149
       ·
        cases b150
        ·
         exact Dd (dv_off rfl) rfl
        ·
         exact Dd (dx_move rfl rfl) rfl
       ·
        cases b150
        ·
         exact Dd (dv_off rfl) rfl
        ·
         exact absurd hb150 (by simp)
      refine Dc (fun Wd hd => ?_) ?_
      ·
       cases b149
       ·
        cases b150
        ·
         exact Dd (dv_off rfl) rfl
        ·
         exact Dd (dx_sub (r := (i : Int) - 1) rfl rfl rfl (wrap64_id (by omega))) rfl
       ·
        cases b150
        ·
         exact Dd (dv_off rfl) rfl
        ·
         exact absurd hb150 (by simp)
      refine Dc (fun Wd hd => ?_) ?_
      ·
       cases b149
       ·
        cases b150
        ·
         exact DV.dr (dv_off rfl) ⟨Below.refl _ _, fun h => by cases h⟩
        ·
         have hnt := hnt.below hd
         exact (dx_idxF (i - 1) rfl ty_slice_23 rfl rfl hnt (by first | omega | (have hq_ := of_decide_eq_true hb150.symm; omega)) (at_mapX e152)).mono (fun v W' h => ⟨by rw [← h.1]; exact Below.refl _ _, fun _ => by rw [← h.1]; exact h.2⟩)
       ·
        cases b150
        ·
         exact DV.dr (dv_off rfl) ⟨Below.refl _ _, fun h => by cases h⟩
        ·
         exact absurd hb150 (by simp)
      refine Dc (fun Wd hd => ?_) ?_
      ·
       intro u20_16 p20_16
       cases b149
       ·
        cases b150
        ·
         exact Dd (dv_off rfl) rfl
        ·
         replace p20_16 := p20_16 rfl
         exact Dd (dx_loadP rfl ty_one_9 rfl p20_16) rfl
       ·
        cases b150
        ·
         exact Dd (dv_off rfl) rfl
        ·
         replace p20_16 := p20_16 rfl
         exact absurd hb150 (by simp)
      refine Dc (fun Wd hd => ?_) ?_
      ·
       cases b149
       ·
        cases b150
        ·
         exact Dd (dv_off rfl) rfl
        ·
         exact Dd (dx_fld (o1 := 3) rfl ty_fld_26_3_3 rfl rfl) rfl
       ·
        cases b150
        ·
         exact Dd (dv_off rfl) rfl
        ·
         exact absurd hb150 (by simp)
      refine Dc (fun Wd hd => ?_) ?_
      ·
       cases b149
       ·
        cases b150
        ·
         exact Dd (dv_off rfl) rfl
        ·
         have k118 := k118.below hd
         exact Dd (dx_load rfl ty_one_23 rfl (k118.cell (k := 3) rfl)) rfl
       ·
        cases b150
        ·
         exact Dd (dv_off rfl) rfl
        ·
         exact absurd hb150 (by simp)
      refine Dc (fun Wd hd => ?_) ?_
      ·
       cases b149
       ·
        cases b150
        ·
         exact Dd (dv_off rfl) rfl
        ·
         exact Dd (dx_move rfl rfl) rfl
       ·
        cases b150
        ·
         exact Dd (dv_off rfl) rfl
        ·
         exact absurd hb150 (by simp)
      refine Dc (fun Wd hd => ?_) ?_
      ·
       cases b149
       ·
        cases b150
        ·
         exact DV.dr (dv_off rfl) ⟨Below.refl _ _, fun h => by cases h⟩
        ·
         have hnt := hnt.below hd
         exact (dx_idxF i rfl ty_slice_23 rfl rfl hnt (by first | omega | (have hq_ := of_decide_eq_true hb150.symm; omega)) (at_mapX e148)).mono (fun v W' h => ⟨by rw [← h.1]; exact Below.refl _ _, fun _ => by rw [← h.1]; exact h.2⟩)
       ·
        cases b150
        ·
         exact DV.dr (dv_off rfl) ⟨Below.refl _ _, fun h => by cases h⟩
        ·
         exact absurd hb150 (by simp)
      refine Dc (fun Wd hd => ?_) ?_
      ·
       intro u20_21 p20_21
       cases b149
       ·
        cases b150
        ·
         exact Dd (dv_off rfl) rfl
        ·
         replace p20_21 := p20_21 rfl
         exact Dd (dx_loadP rfl ty_one_9 rfl p20_21) rfl
       ·
        cases b150
        ·
         exact Dd (dv_off rfl) rfl
        ·
         replace p20_21 := p20_21 rfl
         exact absurd hb150 (by simp)
      refine Dc (fun Wd hd => ?_) ?_
      ·
       cases b149
       ·
        cases b150
        ·
         exact Dd (dv_off rfl) rfl
        ·
         exact Dd (dx_geqT rfl rfl rfl) rfl
       ·
        cases b150
        ·
         exact Dd (dv_off rfl) rfl
        ·
         exact absurd hb150 (by simp)
      refine Dc (fun Wd hd => ?_) ?_
      ·
       cases b149
       ·
        cases b150
        ·
         exact Dd (dx_pick rfl rfl rfl) rfl
        ·
         exact Dd (dx_pick rfl rfl rfl) rfl
       ·
        cases b150
        ·
         exact Dd (dv_off rfl) rfl
        ·
         exact absurd hb150 (by simp)
      refine Dc (fun Wd hd => ?_) ?_
      ·
       cases b149
       ·
        exact Dd (dx_pick rfl rfl rfl) rfl
       ·
        exact Dd (dx_pick rfl rfl rfl) rfl
      exact trivial
     ·
      intro W153 b154
      intro u20_3 p20_3
      intro u20_5 p20_5
      intro _ _
      intro _ _
      replace hnt := hnt.below b154
      replace hit := hit.below b154
      replace hct := hct.below b154
      replace k118 := k118.below b154
      replace hB := below_then hB b154
      replace hL := LL.below hL b154
      refine Ni (hK146 ?_)
      refine WC.cond rfl (fun c155 => ?_) (fun c155 => ?_)
      ·
       refine Sq fun K156 hK156 => (Rg (Pu rfl (Ni (hK156 ?_))))
       exact WC.ret fun a_ ha_ => hQ (cv_ret1 rfl (.tmp rfl) (by rw [right_node (by first | exact .inl hkt | exact .inr hkt)]; cases room with | zero => rfl | succ m => (show _ = Value.bool (_ && _); rw [node_er, show (risesJ t.names && t.names.all upB) = false from (by cases hu_ : upB r147 <;> first | exact names_f1 e148 hu_ | (have hi0 : 0 < i := (by rcases Nat.eq_zero_or_pos i with h0_ | h0_; exfalso; simp_all; exact h0_); exact names_f2 hi0 e152 e148 (by cases hs_ : sless r151 r147; rfl; exfalso; simp_all)))]; simp [hkt])) hB ha_)
      ·
       obtain ⟨g157, g158⟩ := bor_f c155
       replace g157 := bvar_f g157
       refine WC.skip (hK145 (Rg (Pu rfl (Va (dx_add (r := (i : Int) + 1) rfl rfl rfl (wrap64_id (by omega))) rfl rfl (Pu rfl (Ni ?_))))))
       exact hK140 (i + 1) ⟨(by omega), (fun k a hk ha => by rcases Nat.lt_or_ge k i with hl | hl; exact hv k a hl ha; obtain rfl : k = i := (by omega); rw [e148] at ha; cases ha; first | assumption | simp_all), (fun k a b hk ha hb => by rcases Nat.lt_or_ge (k + 1) i with hl | hl; exact hs k a b hl ha hb; obtain rfl : k = i - 1 := (by omega); rw [e152] at ha; rw [show i - 1 + 1 = i by omega, e148] at hb; cases ha; cases hb; cases hs_ : sless r151 r147 with | true => rfl | false => exfalso; have hi0 : (0 : Int) < (i : Int) := (by omega); simp_all), hB, hL, hnt, hit, hct, k118⟩ (by omega) (by repeat first | exact trivial | exact And.intro rfl trivial | refine And.intro rfl ?_ | refine And.intro (congrArg (fun z : Int => some (Value.int .i64 z)) (by omega)) ?_)
    ·
     replace c144 := dF c144
     refine WC.exit ?_
     refine hK122 (Sq fun K159 hK159 => (Sq fun K160 hK160 => ?_))
     cases room with
     | zero =>
      refine Rg (Pu rfl (Va (dv_T (dx_geq rfl rfl rfl) (by omega)) rfl rfl (Ni (hK160 (WC.condT rfl (Sq fun K161 hK161 => (Rg ?_)))))))
      refine Pu rfl (Ni (hK161 ?_))
      exact WC.ret fun a_ ha_ => hQ (cv_ret1 rfl (.tmp rfl) (by rw [right_node (by first | exact .inl hkt | exact .inr hkt)]) hB ha_)
     | succ m =>
      refine Rg (Pu rfl (Va (dv_N (dx_geq rfl rfl rfl) (by omega)) rfl rfl (Ni (hK160 (WC.condF rfl (WC.skip (hK159 ?_)))))))
      refine Sq fun K162 hK162 => (Sq fun K163 hK163 => ?_)
      obtain ⟨w1, w2, w3, w4⟩ := plain_leaf ‹plainT _ _ _ _ t = true›
      have hnm := names_t (up := upB) (l := t.names) (fun k a hk ha => hv k a (by omega) ha) (fun k a b hk ha hb => hs k a b (by omega) ha hb)
      have hln : t.names.length = t.items.length := by omega
      have hnode : nodeJ upB t.er = true := by rw [node_er, w1 rfl, w2 rfl, hkt]; rw [hnm, decide_eq_true hln]; rfl
      refine Rg (Pu rfl (Ni (hK163 (WC.block ?_))))
      refine WC.loop (fun (i : Nat) => [(1, .int .i64 (12 - ((m + 1 : Nat) : Int))), (2, .pointer (some ⟨w.heap.size, 0, none⟩)), (6, .int .i64 (i : Int))]) (fun (i : Nat) W => i ≤ t.items.length ∧ (∀ k c, k < i → t.items[k]? = some c → rightJ upB m c.er = true) ∧ Below w.heap.size w W ∧ LL (w.heap.size :: L) W ∧ RdF 1 (w.heap.size :: L) W t.nv (t.names.map eS) ∧ RdF 5 (w.heap.size :: L) W t.iv (t.items.map encT) ∧ RdTs n (w.heap.size :: L) W t.items ∧ Blk W w.heap.size [.int .i64 t.kind, .int .i64 t.num, .string t.text, t.nv, t.iv]) (fun (i : Nat) => t.items.length - i) 0 (by repeat first | exact trivial | exact And.intro rfl trivial | refine And.intro rfl ?_ | refine And.intro (congrArg (fun z : Int => some (Value.int .i64 z)) (by omega)) ?_) ⟨Nat.zero_le _, (fun k c hk => by omega), hB, hL, hnt, hit, hct, k118⟩ ?_
      clear hnt hit hct k118 hB hL
      rintro K164 i W165 ⟨hi, hv, hB, hL, hnt, hit, hct, k118⟩ hK164
      refine Sq fun K166 hK166 => (Sq fun K167 hK167 => (Rg (Pu rfl (Va (dx_fld (o1 := 4) rfl ty_fld_26_4_4 rfl rfl) rfl rfl (Va (dx_load rfl ty_one_24 rfl (k118.cell (k := 4) rfl)) rfl rfl (Va (dx_lenFM rfl ty_slice_24 rfl hit) rfl rfl (Va (dx_lss rfl rfl rfl) rfl rfl ?_)))))))
      refine Ni (hK167 ?_)
      refine WC.cond rfl (fun c168 => ?_) (fun c168 => ?_)
      ·
       replace c168 := dT c168
       refine WC.skip (hK166 (Sq fun K169 hK169 => (WC.block (Sq fun K170 hK170 => (Rg (Va (dx_fld (o1 := 4) rfl ty_fld_26_4_4 rfl rfl) rfl rfl (Va (dx_load rfl ty_one_24 rfl (k118.cell (k := 4) rfl)) rfl rfl ?_)))))))
       refine Pu rfl ?_
       obtain ⟨r171, e172⟩ : ∃ x, t.items[i]? = some x := ⟨_, List.getElem?_eq_getElem (by omega)⟩
       refine Ge (dx_idxF i rfl ty_slice_24 rfl rfl hit (by omega) (at_mapX e172)) rfl rfl ?_
       rintro u173 _ ⟨rfl, p174⟩
       refine Va (dx_loadPN rfl ty_agg_26_5 rfl p174 rfl) rfl rfl (Pu rfl (Va (dx_add (r := 12 - (m : Int)) rfl rfl rfl (by rw [wrap64_id (by omega)]; omega)) rfl rfl ?_))
       refine Ge (dx_cv rfl Try.func42 rfl rfl rfl (ih r171 m W165 _ hL (hct r171 (List.mem_of_getElem? e172)) (hz5 r171 (List.mem_of_getElem? e172)) (by omega))) rfl rfl ?_
       rintro _ W176 ⟨rfl, b175⟩
       replace hnt := hnt.below b175
       replace hit := hit.below b175
       replace hct := hct.below b175
       replace k118 := k118.below b175
       replace hB := below_then hB b175
       replace hL := LL.below hL b175
       refine Va (dx_not rfl rfl) rfl rfl (Ni (hK170 ?_))
       refine WC.cond rfl (fun c177 => ?_) (fun c177 => ?_)
       ·
        replace c177 := bnot_t c177
        refine Sq fun K178 hK178 => (Rg (Pu rfl (Ni (hK178 ?_))))
        exact WC.ret fun a_ ha_ => hQ (cv_ret1 rfl (.tmp rfl) (by rw [right_node (by first | exact .inl hkt | exact .inr hkt)]; show _ = Value.bool (_ && _); rw [er_items, items_f e172 (by first | assumption | simp_all), Bool.and_false]) hB ha_)
       ·
        replace c177 := bnot_f c177
        refine WC.skip (hK169 (Rg (Pu rfl (Va (dx_add (r := (i : Int) + 1) rfl rfl rfl (wrap64_id (by omega))) rfl rfl (Pu rfl (Ni ?_))))))
        exact hK164 (i + 1) ⟨(by omega), (fun k c hk hc_ => by rcases Nat.lt_or_ge k i with hl | hl; exact hv k c hl hc_; obtain rfl : k = i := (by omega); rw [e172] at hc_; cases hc_; first | assumption | simp_all), hB, hL, hnt, hit, hct, k118⟩ (by omega) (by repeat first | exact trivial | exact And.intro rfl trivial | refine And.intro rfl ?_ | refine And.intro (congrArg (fun z : Int => some (Value.int .i64 z)) (by omega)) ?_)
      ·
       replace c168 := dF c168
       refine WC.exit ?_
       refine hK162 (Sq fun K179 hK179 => (Rg (Pu rfl (Ni (hK179 ?_)))))
       exact WC.ret fun a_ ha_ => hQ (cv_ret1 rfl (.tmp rfl) (by rw [right_node (by first | exact .inl hkt | exact .inr hkt)]; show _ = Value.bool (_ && _); rw [hnode, er_items, items_t (fun k c hk hc_ => hv k c (by omega) hc_)]; rfl) hB ha_)
 ·
  refine Rg ?_
  refine Ge (dx_box rfl rfl rfl) rfl rfl ?_
  rintro _ W180 ⟨rfl, k181, b182, z183⟩
  have l184 := hB.size
  replace hB := below_then hB b182
  refine Pu rfl (Ni (hK1 (Sq fun K185 hK185 => (Sq fun K186 hK186 => (Rg (Va (dx_fld (o1 := 0) rfl ty_fld_26_0_0 rfl rfl) rfl rfl (Va (dx_load rfl ty_one_3 rfl (k181.cell (k := 0) rfl)) rfl rfl ?_)))))))
  refine Ni (hK186 (WC.block (Sq fun K187 hK187 => (Sq fun K188 hK188 => (Rg (Va (dv_N (dx_eql rfl rfl rfl) (by omega)) rfl rfl (Pu rfl ?_)))))))
  refine Ni (hK188 (WC.condF rfl (Sq fun K189 hK189 => (Rg (Va (dv_N (dx_eql rfl rfl rfl) (by omega)) rfl rfl (Pu rfl (Ni ?_)))))))
  refine hK189 (WC.condF rfl (Rg (Va (dv_N (dx_eql rfl rfl rfl) (by omega)) rfl rfl (Pu rfl (Ni (hK187 (WC.condF rfl ?_)))))))
  refine Sq fun K190 hK190 => (Rg (Va (dv_N (dx_eql rfl rfl rfl) (by omega)) rfl rfl (Pu rfl (Ni (hK190 (WC.condF rfl (Sq fun K191 hK191 => ?_)))))))
  refine Rg (Va (dv_N (dx_eql rfl rfl rfl) (by omega)) rfl rfl (Pu rfl (Ni (hK191 (WC.condF rfl (Sq fun K192 hK192 => (Rg ?_)))))))
  refine Va (dv_N (dx_eql rfl rfl rfl) (by omega)) rfl rfl (Pu rfl (Ni (hK192 (WC.condF rfl (Sq fun K193 hK193 => (Rg (Va (dv_N (dx_eql rfl rfl rfl) (by omega)) rfl rfl ?_)))))))
  refine Pu rfl (Ni (hK193 (WC.condF rfl (Sq fun K194 hK194 => (Rg (Pu rfl (Ni ?_)))))))
  refine hK194 ?_
  exact WC.ret fun a_ ha_ => hQ (cv_ret1 rfl (.tmp rfl) (by rw [right_leaf (by first | (rw [hkt]; decide) | omega) (by first | (rw [hkt]; decide) | omega), leaf_er]; (try unfold plainT at *); by_cases a1 : t.num = 0 <;> by_cases a2 : t.text = ⟨#[]⟩ <;> by_cases a3 : t.names = [] <;> by_cases a4 : t.items = [] <;> simp_all <;> omega) hB ha_)

theorem refRight_all : ∀ n, RefRightAt n
 | 0 => fun t _ _ _ _ h => h.elim
 | n + 1 => fun t room w L hL ht hz hr => refRight_step n (refRight_all n) t room w L hL ht hz hr
set_option maxHeartbeats 1000000 in
theorem rRight_v (n : Nat) (t : Tr) (w : World) (L : List Nat) (hL : LL L w) (ht : RdT (n + 1) L w t)  (hz : SzT 1000000 (n + 1) t) : CV Try.prog 19 [.agg #[.int .i64 t.kind, .int .i64 t.num, .string t.text, t.nv, t.iv]] w fun v W => v = .bool (rightJ upB 12 t.er) := by
 refine cv_enter (N := 5) (f := [(0, .agg #[.int .i64 t.kind, .int .i64 t.num, .string t.text, t.nv, t.iv])]) Try.func19 rfl rfl rfl rfl fun Q hQ hE => ?_
 have hB := Below.refl w.heap.size w
 refine Sq fun K1 hK1 => ?_
 obtain ⟨hnt, hit, hct⟩ := ht
 replace hct : RdTs n (L) w t.items := hct
 refine Rg ?_
 refine Ge (dx_box rfl rfl rfl) rfl rfl ?_
 rintro _ W2 ⟨rfl, k3, b4, z5⟩
 have l6 := hB.size
 replace hnt := hnt.more b4 (Nat.le_refl _)
 replace hit := hit.more b4 (Nat.le_refl _)
 replace hct := hct.more b4 (Nat.le_refl _)
 replace hB := below_then hB b4
 replace hL := LL.more hL z5
 refine Pu rfl (Ni (hK1 (Sq fun K7 hK7 => (Rg (Va (dx_loadN rfl ty_agg_26_5 rfl k3.range rfl) rfl rfl ?_)))))
 refine Ge (dx_cv rfl Try.func42 rfl rfl rfl ((show CV _ _ [_, .int .i64 0] _ _ from refRight_all (n + 1) t 12 W2 _ hL (show RdT (n + 1) (w.heap.size :: L) W2 t from ⟨hnt, hit, hct⟩) hz (by decide)))) rfl rfl ?_
 rintro _ W9 ⟨rfl, b8⟩
 replace hB := below_then hB b8
 refine Pu rfl (Ni (hK7 ?_))
 exact WC.ret fun a_ ha_ => hQ (cv_ret1 rfl (.tmp rfl) rfl hB ha_)

abbrev RefDeepAt (n : Nat) : Prop := ∀ (t : Tr) (most : Nat) (w : World) (L : List Nat), LL L w → RdT n L w t → most ≤ 100 → CV Try.prog 44 [.agg #[.int .i64 t.kind, .int .i64 t.num, .string t.text, t.nv, t.iv], .int .i64 (most : Int)] w fun v W => v = .int .i64 (deepJ most t.er : Nat)
set_option maxHeartbeats 1000000 in
theorem refDeep_step (n : Nat) (ih : RefDeepAt n) (t : Tr) (most : Nat) (w : World) (L : List Nat) (hL : LL L w) (ht : RdT (n + 1) L w t)  (hrm : most ≤ 100) : CV Try.prog 44 [.agg #[.int .i64 t.kind, .int .i64 t.num, .string t.text, t.nv, t.iv], .int .i64 (most : Int)] w fun v W => v = .int .i64 (deepJ most t.er : Nat) := by
 refine cv_enter (N := 38) (f := [(0, .agg #[.int .i64 t.kind, .int .i64 t.num, .string t.text, t.nv, t.iv]), (1, .int .i64 (most : Int))]) Try.func44 rfl rfl rfl rfl fun Q hQ hE => ?_
 have hB := Below.refl w.heap.size w
 refine Sq fun K1 hK1 => ?_
 obtain ⟨hnt, hit, hct⟩ := ht
 replace hct : RdTs n (L) w t.items := hct
 have hil0 := hit.len
 rw [List.length_map] at hil0
 unfold maxLen at hil0
 rcases (show t.kind = 5 ∨ t.kind = 6 ∨ (t.kind ≠ 5 ∧ t.kind ≠ 6) by omega) with hkt | hkt | hkt
 ·
  refine Rg ?_
  refine Ge (dx_box rfl rfl rfl) rfl rfl ?_
  rintro _ W2 ⟨rfl, k3, b4, z5⟩
  have l6 := hB.size
  replace hnt := hnt.more b4 (Nat.le_refl _)
  replace hit := hit.more b4 (Nat.le_refl _)
  replace hct := hct.more b4 (Nat.le_refl _)
  replace hB := below_then hB b4
  replace hL := LL.more hL z5
  refine Pu rfl (Ni (hK1 (Sq fun K7 hK7 => (Sq fun K8 hK8 => ?_))))
  cases most with
  | zero =>
   refine Rg (Va (dx_fld (o1 := 0) rfl ty_fld_26_0_0 rfl rfl) rfl rfl (Va ((hkt ▸ dx_load rfl ty_one_3 rfl (k3.cell (k := 0) rfl))) rfl rfl (Va (dx_neq rfl rfl rfl) rfl rfl (Pu rfl (Of rfl (Of rfl (Of rfl ?_)))))))
   refine Pu rfl (Pu rfl (Pu rfl (Va (dv_T (dx_eql rfl rfl rfl) (by omega)) rfl rfl (Pu rfl (Ni (hK8 (WC.condT rfl ?_)))))))
   refine Sq fun K9 hK9 => (Rg (Pu rfl (Ni (hK9 ?_))))
   exact WC.ret fun a_ ha_ => hQ (cv_ret1 rfl (.tmp rfl) rfl hB ha_)
  | succ m =>
   refine Rg (Va (dx_fld (o1 := 0) rfl ty_fld_26_0_0 rfl rfl) rfl rfl (Va ((hkt ▸ dx_load rfl ty_one_3 rfl (k3.cell (k := 0) rfl))) rfl rfl (Va (dx_neq rfl rfl rfl) rfl rfl (Pu rfl (Of rfl (Of rfl (Of rfl ?_)))))))
   refine Pu rfl (Pu rfl (Pu rfl (Va (dv_N (dx_eql rfl rfl rfl) (by omega)) rfl rfl (Pu rfl (Ni (hK8 (WC.condF rfl ?_)))))))
   refine WC.skip (hK7 (Sq fun K10 hK10 => (Rg (Pu rfl (Ni (hK10 (Sq fun K11 hK11 => ?_)))))))
   refine Sq fun K12 hK12 => (Rg (Pu rfl (Ni (hK12 (WC.block ?_)))))
   refine WC.loop2 (fun (i : Nat) (b : Nat) => [(1, .int .i64 ((m + 1 : Nat) : Int)), (2, .pointer (some ⟨w.heap.size, 0, none⟩)), (6, .int .i64 (i : Int)), (5, .int .i64 (b : Int))]) (fun (i : Nat) (b : Nat) W => i ≤ t.items.length ∧ b = maxJ (deepJ m) ((t.items.take i).map Tr.er) ∧ b ≤ m ∧ Below w.heap.size w W ∧ LL (w.heap.size :: L) W ∧ RdF 1 (w.heap.size :: L) W t.nv (t.names.map eS) ∧ RdF 5 (w.heap.size :: L) W t.iv (t.items.map encT) ∧ RdTs n (w.heap.size :: L) W t.items ∧ Blk W w.heap.size [.int .i64 t.kind, .int .i64 t.num, .string t.text, t.nv, t.iv]) (fun (i : Nat) (b : Nat) => t.items.length - i) 0 0 (by repeat first | exact trivial | exact And.intro rfl trivial | refine And.intro rfl ?_ | refine And.intro (congrArg (fun z : Int => some (Value.int .i64 z)) (by omega)) ?_) ⟨Nat.zero_le _, rfl, Nat.zero_le _, hB, hL, hnt, hit, hct, k3⟩ ?_
   clear hnt hit hct k3 hB hL
   rintro K13 i b W14 ⟨hi, hb, hbm, hB, hL, hnt, hit, hct, k3⟩ hK13
   refine Sq fun K15 hK15 => (Sq fun K16 hK16 => (Rg (Pu rfl (Va (dx_fld (o1 := 4) rfl ty_fld_26_4_4 rfl rfl) rfl rfl (Va (dx_load rfl ty_one_24 rfl (k3.cell (k := 4) rfl)) rfl rfl (Va (dx_lenFM rfl ty_slice_24 rfl hit) rfl rfl (Va (dx_lss rfl rfl rfl) rfl rfl ?_)))))))
   refine Ni (hK16 ?_)
   refine WC.cond rfl (fun c17 => ?_) (fun c17 => ?_)
   ·
    replace c17 := dT c17
    refine WC.skip (hK15 (Sq fun K18 hK18 => (WC.block (Rg (Pu rfl (Va (dx_fld (o1 := 4) rfl ty_fld_26_4_4 rfl rfl) rfl rfl (Va (dx_load rfl ty_one_24 rfl (k3.cell (k := 4) rfl)) rfl rfl ?_)))))))
    refine Pu rfl ?_
    obtain ⟨r19, e20⟩ : ∃ x, t.items[i]? = some x := ⟨_, List.getElem?_eq_getElem (by omega)⟩
    refine Ge (dx_idxF i rfl ty_slice_24 rfl rfl hit (by omega) (at_mapX e20)) rfl rfl ?_
    rintro u21 _ ⟨rfl, p22⟩
    refine Va (dx_loadPN rfl ty_agg_26_5 rfl p22 rfl) rfl rfl (Pu rfl (Va (dx_sub (r := (m : Int)) rfl rfl rfl (by rw [wrap64_id (by omega)]; omega)) rfl rfl ?_))
    have hdl := deepJ_le m r19.er
    have hdl := deepJ_le m r19.er
    have hdl := deepJ_le m r19.er
    have hdl := deepJ_le m r19.er
    refine Ge (dx_cv rfl Try.func44 rfl rfl rfl (ih r19 m W14 _ hL (hct r19 (List.mem_of_getElem? e20)) (by omega))) rfl rfl ?_
    rintro _ W24 ⟨rfl, b23⟩
    replace hnt := hnt.below b23
    replace hit := hit.below b23
    replace hct := hct.below b23
    replace k3 := k3.below b23
    replace hB := below_then hB b23
    replace hL := LL.below hL b23
    refine Va (dx_max rfl rfl rfl) rfl rfl (Pu rfl (Ni (hK18 (Rg (Pu rfl (Va (dx_add (r := (i : Int) + 1) rfl rfl rfl (wrap64_id (by omega))) rfl rfl (Pu rfl ?_)))))))
    refine Ni ?_
    have hdl := deepJ_le m r19.er
    exact hK13 (i + 1) (max b (deepJ m r19.er)) ⟨(by omega), (by rw [maxJ_step e20, ← hb]), (by omega), hB, hL, hnt, hit, hct, k3⟩ (by omega) (by repeat first | exact trivial | exact And.intro rfl trivial | refine And.intro rfl ?_ | refine And.intro (congrArg (fun z : Int => some (Value.int .i64 z)) (by omega)) ?_)
   ·
    replace c17 := dF c17
    refine WC.exit ?_
    refine hK11 (Sq fun K25 hK25 => (Rg (Pu rfl (Va (dx_add (r := (b : Int) + 1) rfl rfl rfl (wrap64_id (by omega))) rfl rfl (Pu rfl (Ni (hK25 ?_)))))))
    exact WC.ret fun a_ ha_ => hQ (cv_ret1 rfl (.tmp rfl) (by rw [deep_node (by first | exact .inl hkt | exact .inr hkt)]; have e4 : t.items.take i = t.items := List.take_of_length_le (by omega); rw [e4] at hb; exact congrArg (Value.int .i64) (by omega)) hB ha_)
 ·
  refine Rg ?_
  refine Ge (dx_box rfl rfl rfl) rfl rfl ?_
  rintro _ W26 ⟨rfl, k27, b28, z29⟩
  have l30 := hB.size
  replace hnt := hnt.more b28 (Nat.le_refl _)
  replace hit := hit.more b28 (Nat.le_refl _)
  replace hct := hct.more b28 (Nat.le_refl _)
  replace hB := below_then hB b28
  replace hL := LL.more hL z29
  refine Pu rfl (Ni (hK1 (Sq fun K31 hK31 => (Sq fun K32 hK32 => ?_))))
  cases most with
  | zero =>
   refine Rg (Va (dx_fld (o1 := 0) rfl ty_fld_26_0_0 rfl rfl) rfl rfl (Va ((hkt ▸ dx_load rfl ty_one_3 rfl (k27.cell (k := 0) rfl))) rfl rfl (Va (dx_neq rfl rfl rfl) rfl rfl (Pu rfl (Va (dx_fld (o1 := 0) rfl ty_fld_26_0_0 rfl rfl) rfl rfl (Va ((hkt ▸ dx_load rfl ty_one_3 rfl (k27.cell (k := 0) rfl))) rfl rfl (Va (dx_neq rfl rfl rfl) rfl rfl ?_)))))))
   refine Pu rfl (Pu rfl (Pu rfl (Va (dv_T (dx_eql rfl rfl rfl) (by omega)) rfl rfl (Pu rfl (Ni (hK32 (WC.condT rfl ?_)))))))
   refine Sq fun K33 hK33 => (Rg (Pu rfl (Ni (hK33 ?_))))
   exact WC.ret fun a_ ha_ => hQ (cv_ret1 rfl (.tmp rfl) rfl hB ha_)
  | succ m =>
   refine Rg (Va (dx_fld (o1 := 0) rfl ty_fld_26_0_0 rfl rfl) rfl rfl (Va ((hkt ▸ dx_load rfl ty_one_3 rfl (k27.cell (k := 0) rfl))) rfl rfl (Va (dx_neq rfl rfl rfl) rfl rfl (Pu rfl (Va (dx_fld (o1 := 0) rfl ty_fld_26_0_0 rfl rfl) rfl rfl (Va ((hkt ▸ dx_load rfl ty_one_3 rfl (k27.cell (k := 0) rfl))) rfl rfl (Va (dx_neq rfl rfl rfl) rfl rfl ?_)))))))
   refine Pu rfl (Pu rfl (Pu rfl (Va (dv_N (dx_eql rfl rfl rfl) (by omega)) rfl rfl (Pu rfl (Ni (hK32 (WC.condF rfl ?_)))))))
   refine WC.skip (hK31 (Sq fun K34 hK34 => (Rg (Pu rfl (Ni (hK34 (Sq fun K35 hK35 => ?_)))))))
   refine Sq fun K36 hK36 => (Rg (Pu rfl (Ni (hK36 (WC.block ?_)))))
   refine WC.loop2 (fun (i : Nat) (b : Nat) => [(1, .int .i64 ((m + 1 : Nat) : Int)), (2, .pointer (some ⟨w.heap.size, 0, none⟩)), (6, .int .i64 (i : Int)), (5, .int .i64 (b : Int))]) (fun (i : Nat) (b : Nat) W => i ≤ t.items.length ∧ b = maxJ (deepJ m) ((t.items.take i).map Tr.er) ∧ b ≤ m ∧ Below w.heap.size w W ∧ LL (w.heap.size :: L) W ∧ RdF 1 (w.heap.size :: L) W t.nv (t.names.map eS) ∧ RdF 5 (w.heap.size :: L) W t.iv (t.items.map encT) ∧ RdTs n (w.heap.size :: L) W t.items ∧ Blk W w.heap.size [.int .i64 t.kind, .int .i64 t.num, .string t.text, t.nv, t.iv]) (fun (i : Nat) (b : Nat) => t.items.length - i) 0 0 (by repeat first | exact trivial | exact And.intro rfl trivial | refine And.intro rfl ?_ | refine And.intro (congrArg (fun z : Int => some (Value.int .i64 z)) (by omega)) ?_) ⟨Nat.zero_le _, rfl, Nat.zero_le _, hB, hL, hnt, hit, hct, k27⟩ ?_
   clear hnt hit hct k27 hB hL
   rintro K37 i b W38 ⟨hi, hb, hbm, hB, hL, hnt, hit, hct, k27⟩ hK37
   refine Sq fun K39 hK39 => (Sq fun K40 hK40 => (Rg (Pu rfl (Va (dx_fld (o1 := 4) rfl ty_fld_26_4_4 rfl rfl) rfl rfl (Va (dx_load rfl ty_one_24 rfl (k27.cell (k := 4) rfl)) rfl rfl (Va (dx_lenFM rfl ty_slice_24 rfl hit) rfl rfl (Va (dx_lss rfl rfl rfl) rfl rfl ?_)))))))
   refine Ni (hK40 ?_)
   refine WC.cond rfl (fun c41 => ?_) (fun c41 => ?_)
   ·
    replace c41 := dT c41
    refine WC.skip (hK39 (Sq fun K42 hK42 => (WC.block (Rg (Pu rfl (Va (dx_fld (o1 := 4) rfl ty_fld_26_4_4 rfl rfl) rfl rfl (Va (dx_load rfl ty_one_24 rfl (k27.cell (k := 4) rfl)) rfl rfl ?_)))))))
    refine Pu rfl ?_
    obtain ⟨r43, e44⟩ : ∃ x, t.items[i]? = some x := ⟨_, List.getElem?_eq_getElem (by omega)⟩
    refine Ge (dx_idxF i rfl ty_slice_24 rfl rfl hit (by omega) (at_mapX e44)) rfl rfl ?_
    rintro u45 _ ⟨rfl, p46⟩
    refine Va (dx_loadPN rfl ty_agg_26_5 rfl p46 rfl) rfl rfl (Pu rfl (Va (dx_sub (r := (m : Int)) rfl rfl rfl (by rw [wrap64_id (by omega)]; omega)) rfl rfl ?_))
    have hdl := deepJ_le m r43.er
    have hdl := deepJ_le m r43.er
    have hdl := deepJ_le m r43.er
    have hdl := deepJ_le m r43.er
    refine Ge (dx_cv rfl Try.func44 rfl rfl rfl (ih r43 m W38 _ hL (hct r43 (List.mem_of_getElem? e44)) (by omega))) rfl rfl ?_
    rintro _ W48 ⟨rfl, b47⟩
    replace hnt := hnt.below b47
    replace hit := hit.below b47
    replace hct := hct.below b47
    replace k27 := k27.below b47
    replace hB := below_then hB b47
    replace hL := LL.below hL b47
    refine Va (dx_max rfl rfl rfl) rfl rfl (Pu rfl (Ni (hK42 (Rg (Pu rfl (Va (dx_add (r := (i : Int) + 1) rfl rfl rfl (wrap64_id (by omega))) rfl rfl (Pu rfl ?_)))))))
    refine Ni ?_
    have hdl := deepJ_le m r43.er
    exact hK37 (i + 1) (max b (deepJ m r43.er)) ⟨(by omega), (by rw [maxJ_step e44, ← hb]), (by omega), hB, hL, hnt, hit, hct, k27⟩ (by omega) (by repeat first | exact trivial | exact And.intro rfl trivial | refine And.intro rfl ?_ | refine And.intro (congrArg (fun z : Int => some (Value.int .i64 z)) (by omega)) ?_)
   ·
    replace c41 := dF c41
    refine WC.exit ?_
    refine hK35 (Sq fun K49 hK49 => (Rg (Pu rfl (Va (dx_add (r := (b : Int) + 1) rfl rfl rfl (wrap64_id (by omega))) rfl rfl (Pu rfl (Ni (hK49 ?_)))))))
    exact WC.ret fun a_ ha_ => hQ (cv_ret1 rfl (.tmp rfl) (by rw [deep_node (by first | exact .inl hkt | exact .inr hkt)]; have e4 : t.items.take i = t.items := List.take_of_length_le (by omega); rw [e4] at hb; exact congrArg (Value.int .i64) (by omega)) hB ha_)
 ·
  refine Rg ?_
  refine Ge (dx_box rfl rfl rfl) rfl rfl ?_
  rintro _ W50 ⟨rfl, k51, b52, z53⟩
  have l54 := hB.size
  replace hB := below_then hB b52
  refine Pu rfl (Ni (hK1 (Sq fun K55 hK55 => (Sq fun K56 hK56 => ?_))))
  cases most with
  | zero =>
   refine Rg (Va (dx_fld (o1 := 0) rfl ty_fld_26_0_0 rfl rfl) rfl rfl (Va (dx_load rfl ty_one_3 rfl (k51.cell (k := 0) rfl)) rfl rfl (Va (dv_NT (dx_neq rfl rfl rfl) (by omega)) rfl rfl (Pu rfl (Va (dx_fld (o1 := 0) rfl ty_fld_26_0_0 rfl rfl) rfl rfl (Va (dx_load rfl ty_one_3 rfl (k51.cell (k := 0) rfl)) rfl rfl (Va (dv_NT (dx_neq rfl rfl rfl) (by omega)) rfl rfl ?_)))))))
   refine Pu rfl (Pu rfl (Of rfl (Of rfl (Pu rfl (Ni (hK56 (WC.condT rfl ?_)))))))
   refine Sq fun K57 hK57 => (Rg (Pu rfl (Ni (hK57 ?_))))
   exact WC.ret fun a_ ha_ => hQ (cv_ret1 rfl (.tmp rfl) (by rw [deep_leaf (by omega) (by omega)]; rfl) hB ha_)
  | succ m =>
   refine Rg (Va (dx_fld (o1 := 0) rfl ty_fld_26_0_0 rfl rfl) rfl rfl (Va (dx_load rfl ty_one_3 rfl (k51.cell (k := 0) rfl)) rfl rfl (Va (dv_NT (dx_neq rfl rfl rfl) (by omega)) rfl rfl (Pu rfl (Va (dx_fld (o1 := 0) rfl ty_fld_26_0_0 rfl rfl) rfl rfl (Va (dx_load rfl ty_one_3 rfl (k51.cell (k := 0) rfl)) rfl rfl (Va (dv_NT (dx_neq rfl rfl rfl) (by omega)) rfl rfl ?_)))))))
   refine Pu rfl (Pu rfl (Of rfl (Of rfl (Pu rfl (Ni (hK56 (WC.condT rfl ?_)))))))
   refine Sq fun K58 hK58 => (Rg (Pu rfl (Ni (hK58 ?_))))
   exact WC.ret fun a_ ha_ => hQ (cv_ret1 rfl (.tmp rfl) (by rw [deep_leaf (by omega) (by omega)]; rfl) hB ha_)

theorem refDeep_all : ∀ n, RefDeepAt n
 | 0 => fun t _ _ _ _ h => h.elim
 | n + 1 => fun t most w L hL ht hr => refDeep_step n (refDeep_all n) t most w L hL ht hr
set_option maxHeartbeats 1000000 in
theorem rDeep_v (n : Nat) (t : Tr) (w : World) (L : List Nat) (hL : LL L w) (ht : RdT (n + 1) L w t) : CV Try.prog 21 [.agg #[.int .i64 t.kind, .int .i64 t.num, .string t.text, t.nv, t.iv]] w fun v W => v = .int .i64 (deepJ 13 t.er : Nat) := by
 refine cv_enter (N := 5) (f := [(0, .agg #[.int .i64 t.kind, .int .i64 t.num, .string t.text, t.nv, t.iv])]) Try.func21 rfl rfl rfl rfl fun Q hQ hE => ?_
 have hB := Below.refl w.heap.size w
 refine Sq fun K1 hK1 => ?_
 obtain ⟨hnt, hit, hct⟩ := ht
 replace hct : RdTs n (L) w t.items := hct
 refine Rg ?_
 refine Ge (dx_box rfl rfl rfl) rfl rfl ?_
 rintro _ W2 ⟨rfl, k3, b4, z5⟩
 have l6 := hB.size
 replace hnt := hnt.more b4 (Nat.le_refl _)
 replace hit := hit.more b4 (Nat.le_refl _)
 replace hct := hct.more b4 (Nat.le_refl _)
 replace hB := below_then hB b4
 replace hL := LL.more hL z5
 refine Pu rfl (Ni (hK1 (Sq fun K7 hK7 => (Rg (Va (dx_loadN rfl ty_agg_26_5 rfl k3.range rfl) rfl rfl ?_)))))
 refine Ge (dx_cv rfl Try.func44 rfl rfl rfl (refDeep_all (n + 1) t 13 W2 _ hL (show RdT (n + 1) (w.heap.size :: L) W2 t from ⟨hnt, hit, hct⟩) (by decide))) rfl rfl ?_
 rintro _ W9 ⟨rfl, b8⟩
 replace hB := below_then hB b8
 refine Pu rfl (Ni (hK7 ?_))
 exact WC.ret fun a_ ha_ => hQ (cv_ret1 rfl (.tmp rfl) rfl hB ha_)

theorem idxX_ge {α : Type} {p : α → Bool} : ∀ (xs : List α) (i : Nat), idxX p (xs.drop i) i = -1 ∨ (i : Int) ≤ idxX p (xs.drop i) i := fun xs i => by
  have h := idxX_lt (p := p) (xs.drop i) i
  rcases Int.lt_or_le (idxX p (xs.drop i) i) 0 with h1 | h1
  · left
    omega
  · right
    obtain ⟨k, a, e, _⟩ := idxX_is (p := p) (xs.drop i) i (by omega) h1
    omega
set_option maxHeartbeats 1000000 in
theorem rGet_v (n : Nat) (t : Tr) (name : ByteArray) (w : World) (L : List Nat) (hL : LL L w) (ht : RdT (n + 1) L w t) : CV Try.prog 18 [.agg #[.int .i64 t.kind, .int .i64 t.num, .string t.text, t.nv, t.iv], .string name] w fun v W => v = .tuple #[.agg (encT (getT t name).1).toArray, .bool (getT t name).2] := by
 refine cv_enter (N := 39) (f := [(0, .agg #[.int .i64 t.kind, .int .i64 t.num, .string t.text, t.nv, t.iv]), (1, .string name)]) Try.func18 rfl rfl rfl rfl fun Q hQ hE => ?_
 have hB := Below.refl w.heap.size w
 refine Sq fun K1 hK1 => ?_
 obtain ⟨hnt, hit, hct⟩ := ht
 replace hct : RdTs n (L) w t.items := hct
 have hil0 := hit.len
 rw [List.length_map] at hil0
 unfold maxLen at hil0
 refine Rg ?_
 refine Ge (dx_box rfl rfl rfl) rfl rfl ?_
 rintro _ W2 ⟨rfl, k3, b4, z5⟩
 have l6 := hB.size
 replace hnt := hnt.more b4 (Nat.le_refl _)
 replace hit := hit.more b4 (Nat.le_refl _)
 replace hct := hct.more b4 (Nat.le_refl _)
 replace hB := below_then hB b4
 replace hL := LL.more hL z5
 refine Ge (dx_alloc rfl ty_zero_26 rfl) rfl rfl ?_
 rintro _ W7 ⟨rfl, k8, b9, z10⟩
 have l12 := hB.size
 replace hnt := hnt.more b9 (Nat.le_refl _)
 replace hit := hit.more b9 (Nat.le_refl _)
 replace hct := hct.more b9 (Nat.le_refl _)
 replace k3 := k3.below b9
 replace hB := below_then hB b9
 replace hL := LL.more hL z10
 refine Pu rfl (Ni (hK1 (Sq fun K13 hK13 => (Sq fun K14 hK14 => (Rg (Pu rfl (Ni ?_)))))))
 refine hK14 (WC.block ?_)
 refine WC.loop (fun (i : Nat) => [(1, .string name), (2, .pointer (some ⟨w.heap.size, 0, none⟩)), (4, .pointer (some ⟨W2.heap.size, 0, none⟩)), (6, .int .i64 (i : Int))]) (fun (i : Nat) W => i ≤ t.names.length ∧ idxX (fun x => decide (name = x)) t.names 0 = idxX (fun x => decide (name = x)) (t.names.drop i) i ∧ Below w.heap.size w W ∧ LL (W2.heap.size :: w.heap.size :: L) W ∧ RdF 1 (W2.heap.size :: w.heap.size :: L) W t.nv (t.names.map eS) ∧ RdF 5 (W2.heap.size :: w.heap.size :: L) W t.iv (t.items.map encT) ∧ RdTs n (W2.heap.size :: w.heap.size :: L) W t.items ∧ Blk W w.heap.size [.int .i64 t.kind, .int .i64 t.num, .string t.text, t.nv, t.iv] ∧ Blk W W2.heap.size [.int .i64 0, .int .i64 0, .string ⟨#[]⟩, .slice none 0 0, .slice none 0 0]) (fun (i : Nat) => t.names.length - i) 0 (by repeat first | exact trivial | exact And.intro rfl trivial | refine And.intro rfl ?_ | refine And.intro (congrArg (fun z : Int => some (Value.int .i64 z)) (by omega)) ?_) ⟨Nat.zero_le _, rfl, hB, hL, hnt, hit, hct, k3, k8⟩ ?_
 clear hnt hit hct k3 k8 hB hL
 rintro K15 i W16 ⟨hi, hv, hB, hL, hnt, hit, hct, k3, k8⟩ hK15
 refine Sq fun K17 hK17 => (Sq fun K18 hK18 => (Rg (Pu rfl (Va (dx_fld (o1 := 3) rfl ty_fld_26_3_3 rfl rfl) rfl rfl (Va (dx_load rfl ty_one_23 rfl (k3.cell (k := 3) rfl)) rfl rfl (Va (dx_lenFM rfl ty_slice_23 rfl hnt) rfl rfl (Va (dx_lss rfl rfl rfl) rfl rfl ?_)))))))
 refine Pu rfl ?_
 refine WL.split 12 rfl (fun g19 => ?_) (fun g19 => ?_)
 ·
  replace g19 := dT g19
  refine Pu rfl (Va (dx_fld (o1 := 4) rfl ty_fld_26_4_4 rfl rfl) rfl rfl (Va (dx_load rfl ty_one_24 rfl (k3.cell (k := 4) rfl)) rfl rfl (Va (dx_lenFM rfl ty_slice_24 rfl hit) rfl rfl (Va (dx_lss rfl rfl rfl) rfl rfl (Pu rfl (Pu rfl ?_))))))
  refine WL.split 19 rfl (fun g20 => ?_) (fun g20 => ?_)
  ·
   replace g20 := dT g20
   refine Va (dx_fld (o1 := 0) rfl ty_fld_26_0_0 rfl rfl) rfl rfl (Va (dx_load rfl ty_one_3 rfl (k3.cell (k := 0) rfl)) rfl rfl (Va (dx_eql rfl rfl rfl) rfl rfl (Pu rfl (Ni (hK18 ?_)))))
   refine WC.cond rfl (fun c21 => ?_) (fun c21 => ?_)
   ·
    replace c21 := dT c21
    refine WC.skip (hK17 (Sq fun K22 hK22 => (WC.block (Sq fun K23 hK23 => (Rg (Va (dx_fld (o1 := 3) rfl ty_fld_26_3_3 rfl rfl) rfl rfl (Va (dx_load rfl ty_one_23 rfl (k3.cell (k := 3) rfl)) rfl rfl ?_)))))))
    refine Pu rfl ?_
    obtain ⟨r24, e25⟩ : ∃ x, t.names[i]? = some x := ⟨_, List.getElem?_eq_getElem (by omega)⟩
    refine Ge (dx_idxF i rfl ty_slice_23 rfl rfl hnt (by omega) (at_mapX e25)) rfl rfl ?_
    rintro u26 _ ⟨rfl, p27⟩
    refine Va (dx_loadP rfl ty_one_9 rfl p27) rfl rfl (Pu rfl (Va (dx_eqlT rfl rfl rfl) rfl rfl (Ni (hK23 ?_))))
    refine WC.cond rfl (fun c28 => ?_) (fun c28 => ?_)
    ·
     replace c28 := dT c28
     refine Sq fun K29 hK29 => ?_
     obtain ⟨r30, e31⟩ : ∃ x, t.items[i]? = some x := ⟨_, List.getElem?_eq_getElem (by omega)⟩
     have hrr := hct r30 (List.mem_of_getElem? e31)
     refine Rg (Va (dx_fld (o1 := 4) rfl ty_fld_26_4_4 rfl rfl) rfl rfl (Va (dx_load rfl ty_one_24 rfl (k3.cell (k := 4) rfl)) rfl rfl (Pu rfl ?_)))
     refine Ge (dx_idxF i rfl ty_slice_24 rfl rfl hit (by omega) (at_mapX e31)) rfl rfl ?_
     rintro u32 _ ⟨rfl, p33⟩
     refine Va (dx_loadPN rfl ty_agg_26_5 rfl p33 rfl) rfl rfl ?_
     refine WL.do (dx_storeW (vs := encT r30) rfl ty_size_26_5 rfl rfl rfl hrr.oc k8 rfl rfl) rfl ?_
     rintro _ W34 ⟨k36, o35⟩
     clear k8
     replace hB := o35.below hB l12
     refine Pu rfl (Ni (hK29 ?_))
     exact WC.ret fun a_ ha_ => hQ (cv_ret2 rfl (.agg rfl ty_agg_26_5 k36.range rfl) (.tmp rfl) (by have hk0 : idxX (fun x => decide (name = x)) t.names 0 = (i : Int) := (by rw [hv]; exact idxX_here e25 (decide_eq_true (by first | (exact Eq.symm (by assumption)) | simp_all))); have e : getT t name = (r30, true) := (by unfold getT; rw [if_pos ⟨by assumption, by omega, by omega⟩, hk0, Int.toNat_natCast, e31]; rfl); rw [e] <;> rfl) hB ha_)
    ·
     replace c28 := dF c28
     refine WC.skip (hK22 (Rg (Pu rfl (Va (dx_add (r := (i : Int) + 1) rfl rfl rfl (wrap64_id (by omega))) rfl rfl (Pu rfl (Ni ?_))))))
     exact hK15 (i + 1) ⟨(by omega), (by rw [hv]; exact idxX_step e25 (decide_eq_false (fun e => by first | (exact absurd e.symm (by assumption)) | simp_all))), hB, hL, hnt, hit, hct, k3, k8⟩ (by omega) (by repeat first | exact trivial | exact And.intro rfl trivial | refine And.intro rfl ?_ | refine And.intro (congrArg (fun z : Int => some (Value.int .i64 z)) (by omega)) ?_)
   ·
    replace c21 := dF c21
    refine WC.exit ?_
    refine hK13 (Sq fun K37 hK37 => (Rg (Va (dx_build rfl rfl (built_of_O (cs := zV) (by kernel_rfl) oc_nil)) rfl rfl ?_)))
    refine WL.do (dx_store (cs' := zV) (vs := zV) rfl ty_size_26_5 rfl rfl rfl (oc_cons rfl (oc_cons rfl (oc_cons rfl (oc_cons rfl (oc_cons rfl oc_nil))))) k8 rfl (Nat.le_of_ble_eq_true rfl) rfl) rfl ?_
    rintro _ W38 ⟨k40, o39⟩
    clear k8
    replace hB := o39.below hB l12
    refine Pu rfl (Ni (hK37 ?_))
    exact WC.ret fun a_ ha_ => hQ (cv_ret2 rfl (.agg rfl ty_agg_26_5 k40.range rfl) (.tmp rfl) (by have e : getT t name = (noT, false) := (by unfold getT; rw [if_neg (by rintro ⟨q1, q2, q3⟩; have hge := idxX_ge (p := fun x => decide (name = x)) t.names i; rw [← hv] at hge; have hlt := idxX_lt (p := fun x => decide (name = x)) t.names 0; first | omega | (simp_all; done) | (simp_all <;> omega))]); rw [e] <;> rfl) hB ha_)
  ·
   replace g20 := dF g20
   refine Of rfl (Of rfl (Of rfl (Pu rfl (Ni (hK18 (WC.condF rfl ?_))))))
   refine WC.exit ?_
   refine hK13 (Sq fun K41 hK41 => (Rg (Va (dx_build rfl rfl (built_of_O (cs := zV) (by kernel_rfl) oc_nil)) rfl rfl ?_)))
   refine WL.do (dx_store (cs' := zV) (vs := zV) rfl ty_size_26_5 rfl rfl rfl (oc_cons rfl (oc_cons rfl (oc_cons rfl (oc_cons rfl (oc_cons rfl oc_nil))))) k8 rfl (Nat.le_of_ble_eq_true rfl) rfl) rfl ?_
   rintro _ W42 ⟨k44, o43⟩
   clear k8
   replace hB := o43.below hB l12
   refine Pu rfl (Ni (hK41 ?_))
   exact WC.ret fun a_ ha_ => hQ (cv_ret2 rfl (.agg rfl ty_agg_26_5 k44.range rfl) (.tmp rfl) (by have e : getT t name = (noT, false) := (by unfold getT; rw [if_neg (by rintro ⟨q1, q2, q3⟩; have hge := idxX_ge (p := fun x => decide (name = x)) t.names i; rw [← hv] at hge; have hlt := idxX_lt (p := fun x => decide (name = x)) t.names 0; first | omega | (simp_all; done) | (simp_all <;> omega))]); rw [e] <;> rfl) hB ha_)
 ·
  replace g19 := dF g19
  refine Of rfl (Of rfl (Of rfl (Of rfl (Of rfl (Pu rfl (Pu rfl (Of rfl ?_)))))))
  refine Of rfl (Of rfl (Pu rfl (Ni (hK18 (WC.condF rfl ?_)))))
  refine WC.exit ?_
  refine hK13 (Sq fun K45 hK45 => (Rg (Va (dx_build rfl rfl (built_of_O (cs := zV) (by kernel_rfl) oc_nil)) rfl rfl ?_)))
  refine WL.do (dx_store (cs' := zV) (vs := zV) rfl ty_size_26_5 rfl rfl rfl (oc_cons rfl (oc_cons rfl (oc_cons rfl (oc_cons rfl (oc_cons rfl oc_nil))))) k8 rfl (Nat.le_of_ble_eq_true rfl) rfl) rfl ?_
  rintro _ W46 ⟨k48, o47⟩
  clear k8
  replace hB := o47.below hB l12
  refine Pu rfl (Ni (hK45 ?_))
  exact WC.ret fun a_ ha_ => hQ (cv_ret2 rfl (.agg rfl ty_agg_26_5 k48.range rfl) (.tmp rfl) (by have e : getT t name = (noT, false) := (by unfold getT; rw [if_neg (by rintro ⟨q1, q2, q3⟩; have hge := idxX_ge (p := fun x => decide (name = x)) t.names i; rw [← hv] at hge; have hlt := idxX_lt (p := fun x => decide (name = x)) t.names 0; first | omega | (simp_all; done) | (simp_all <;> omega))]); rw [e] <;> rfl) hB ha_)

abbrev RefSameAt (n : Nat) : Prop := ∀ (p q : Tr) (w : World) (L : List Nat), LL L w → RdT n L w p → RdT n L w q → CV Try.prog 39 [.agg #[.int .i64 p.kind, .int .i64 p.num, .string p.text, p.nv, p.iv], .agg #[.int .i64 q.kind, .int .i64 q.num, .string q.text, q.nv, q.iv]] w fun x W => x = .bool (eqJ p.er q.er)
set_option maxHeartbeats 2000000 in
theorem refSame_step (n : Nat) (ih : RefSameAt n) (p q : Tr) (w : World) (L : List Nat) (hL : LL L w) (htp : RdT (n + 1) L w p) (htq : RdT (n + 1) L w q) : CV Try.prog 39 [.agg #[.int .i64 p.kind, .int .i64 p.num, .string p.text, p.nv, p.iv], .agg #[.int .i64 q.kind, .int .i64 q.num, .string q.text, q.nv, q.iv]] w fun v W => v = .bool (eqJ p.er q.er) := by
 refine cv_enter (N := 81) (f := [(0, .agg #[.int .i64 p.kind, .int .i64 p.num, .string p.text, p.nv, p.iv]), (1, .agg #[.int .i64 q.kind, .int .i64 q.num, .string q.text, q.nv, q.iv])]) Try.func39 rfl rfl rfl rfl fun Q hQ hE => ?_
 have hB := Below.refl w.heap.size w
 refine Sq fun K1 hK1 => ?_
 obtain ⟨hnp, hip, hcp⟩ := htp
 replace hcp : RdTs n (L) w p.items := hcp
 obtain ⟨hnq, hiq, hcq⟩ := htq
 replace hcq : RdTs n (L) w q.items := hcq
 have hil0 := hip.len
 rw [List.length_map] at hil0
 have hnl0 := hnp.len
 rw [List.length_map] at hnl0
 unfold maxLen at hil0 hnl0
 refine Rg ?_
 refine Ge (dx_box rfl rfl rfl) rfl rfl ?_
 rintro _ W2 ⟨rfl, k3, b4, z5⟩
 have l6 := hB.size
 replace hnp := hnp.more b4 (Nat.le_refl _)
 replace hip := hip.more b4 (Nat.le_refl _)
 replace hcp := hcp.more b4 (Nat.le_refl _)
 replace hnq := hnq.more b4 (Nat.le_refl _)
 replace hiq := hiq.more b4 (Nat.le_refl _)
 replace hcq := hcq.more b4 (Nat.le_refl _)
 replace hB := below_then hB b4
 replace hL := LL.more hL z5
 refine Ge (dx_box rfl rfl rfl) rfl rfl ?_
 rintro _ W7 ⟨rfl, k8, b9, z10⟩
 have l12 := hB.size
 replace hnp := hnp.more b9 (Nat.le_refl _)
 replace hip := hip.more b9 (Nat.le_refl _)
 replace hcp := hcp.more b9 (Nat.le_refl _)
 replace hnq := hnq.more b9 (Nat.le_refl _)
 replace hiq := hiq.more b9 (Nat.le_refl _)
 replace hcq := hcq.more b9 (Nat.le_refl _)
 replace k3 := k3.below b9
 replace hB := below_then hB b9
 replace hL := LL.more hL z10
 refine Pu rfl (Ni (hK1 (Sq fun K13 hK13 => (Sq fun K14 hK14 => (Rg (Va (dx_fld (o1 := 0) rfl ty_fld_26_0_0 rfl rfl) rfl rfl (Va (dx_load rfl ty_one_3 rfl (k3.cell (k := 0) rfl)) rfl rfl ?_)))))))
 refine Va (dx_fld (o1 := 0) rfl ty_fld_26_0_0 rfl rfl) rfl rfl (Va (dx_load rfl ty_one_3 rfl (k8.cell (k := 0) rfl)) rfl rfl (Va (dx_neq rfl rfl rfl) rfl rfl (Pu rfl ?_)))
 refine WL.split 12 rfl (fun g15 => ?_) (fun g15 => ?_)
 ·
  replace g15 := bnot_t g15
  replace g15 := dF g15
  refine Of rfl (Of rfl (Of rfl (Of rfl (Of rfl (Pu rfl (Pu rfl (Of rfl ?_)))))))
  refine Of rfl (Of rfl (Of rfl (Of rfl (Pu rfl (Pu rfl (Of rfl (Of rfl ?_)))))))
  refine Of rfl (Of rfl (Of rfl (Of rfl (Of rfl (Pu rfl (Pu rfl (Of rfl ?_)))))))
  refine Of rfl (Of rfl (Of rfl (Of rfl (Of rfl (Of rfl (Pu rfl (Ni ?_)))))))
  refine hK14 (WC.condT rfl (Sq fun K16 hK16 => (Rg (Pu rfl (Ni (hK16 ?_))))))
  exact WC.ret fun a_ ha_ => hQ (cv_ret1 rfl (.tmp rfl) (by rw [eqJ_f (fun e => by obtain ⟨e1, e2, e3, e4, _⟩ := er_parts e; have e5 := er_len e; have e6 := congrArg List.length e4; first | contradiction | (exact absurd e3 (by assumption)) | omega)]) hB ha_)
 ·
  replace g15 := bnot_f g15
  replace g15 := dT g15
  refine Va (dx_fld (o1 := 1) rfl ty_fld_26_1_1 rfl rfl) rfl rfl (Va (dx_load rfl ty_one_3 rfl (k3.cell (k := 1) rfl)) rfl rfl (Va (dx_fld (o1 := 1) rfl ty_fld_26_1_1 rfl rfl) rfl rfl (Va (dx_load rfl ty_one_3 rfl (k8.cell (k := 1) rfl)) rfl rfl (Va (dx_neq rfl rfl rfl) rfl rfl (Pu rfl (Pu rfl ?_))))))
  refine WL.split 19 rfl (fun g17 => ?_) (fun g17 => ?_)
  ·
   replace g17 := bnot_t g17
   replace g17 := dF g17
   refine Of rfl (Of rfl (Of rfl (Of rfl (Of rfl (Pu rfl (Pu rfl (Of rfl ?_)))))))
   refine Of rfl (Of rfl (Of rfl (Of rfl (Of rfl (Of rfl (Pu rfl (Pu rfl ?_)))))))
   refine Of rfl (Of rfl (Of rfl (Of rfl (Of rfl (Of rfl (Of rfl (Pu rfl ?_)))))))
   refine Ni (hK14 (WC.condT rfl (Sq fun K18 hK18 => (Rg (Pu rfl (Ni (hK18 ?_)))))))
   exact WC.ret fun a_ ha_ => hQ (cv_ret1 rfl (.tmp rfl) (by rw [eqJ_f (fun e => by obtain ⟨e1, e2, e3, e4, _⟩ := er_parts e; have e5 := er_len e; have e6 := congrArg List.length e4; first | contradiction | (exact absurd e3 (by assumption)) | omega)]) hB ha_)
  ·
   replace g17 := bnot_f g17
   replace g17 := dT g17
   refine Va (dx_fld (o1 := 2) rfl ty_fld_26_2_2 rfl rfl) rfl rfl (Va (dx_load rfl ty_one_9 rfl (k3.cell (k := 2) rfl)) rfl rfl (Va (dx_fld (o1 := 2) rfl ty_fld_26_2_2 rfl rfl) rfl rfl (Va (dx_load rfl ty_one_9 rfl (k8.cell (k := 2) rfl)) rfl rfl (Va (dx_neqT rfl rfl rfl) rfl rfl (Pu rfl (Pu rfl ?_))))))
   refine WL.split 26 rfl (fun g19 => ?_) (fun g19 => ?_)
   ·
    replace g19 := bnot_t g19
    replace g19 := dF g19
    refine Of rfl (Of rfl (Of rfl (Of rfl (Of rfl (Of rfl (Of rfl (Pu rfl ?_)))))))
    refine Pu rfl (Of rfl (Of rfl (Of rfl (Of rfl (Of rfl (Of rfl (Of rfl ?_)))))))
    refine Pu rfl (Ni (hK14 (WC.condT rfl (Sq fun K20 hK20 => (Rg (Pu rfl (Ni ?_)))))))
    refine hK20 ?_
    exact WC.ret fun a_ ha_ => hQ (cv_ret1 rfl (.tmp rfl) (by rw [eqJ_f (fun e => by obtain ⟨e1, e2, e3, e4, _⟩ := er_parts e; have e5 := er_len e; have e6 := congrArg List.length e4; first | contradiction | (exact absurd e3 (by assumption)) | omega)]) hB ha_)
   ·
    replace g19 := bnot_f g19
    replace g19 := dT g19
    refine Va (dx_fld (o1 := 3) rfl ty_fld_26_3_3 rfl rfl) rfl rfl (Va (dx_load rfl ty_one_23 rfl (k3.cell (k := 3) rfl)) rfl rfl (Va (dx_lenFM rfl ty_slice_23 rfl hnp) rfl rfl (Va (dx_fld (o1 := 3) rfl ty_fld_26_3_3 rfl rfl) rfl rfl (Va (dx_load rfl ty_one_23 rfl (k8.cell (k := 3) rfl)) rfl rfl (Va (dx_lenFM rfl ty_slice_23 rfl hnq) rfl rfl (Va (dx_neq rfl rfl rfl) rfl rfl (Pu rfl ?_)))))))
    refine Pu rfl ?_
    refine WL.split 35 rfl (fun g21 => ?_) (fun g21 => ?_)
    ·
     replace g21 := bnot_t g21
     replace g21 := dF g21
     refine Of rfl (Of rfl (Of rfl (Of rfl (Of rfl (Of rfl (Of rfl (Pu rfl ?_)))))))
     refine Ni (hK14 (WC.condT rfl (Sq fun K22 hK22 => (Rg (Pu rfl (Ni (hK22 ?_)))))))
     exact WC.ret fun a_ ha_ => hQ (cv_ret1 rfl (.tmp rfl) (by rw [eqJ_f (fun e => by obtain ⟨e1, e2, e3, e4, _⟩ := er_parts e; have e5 := er_len e; have e6 := congrArg List.length e4; first | contradiction | (exact absurd e3 (by assumption)) | omega)]) hB ha_)
    ·
     replace g21 := bnot_f g21
     replace g21 := dT g21
     refine Va (dx_fld (o1 := 4) rfl ty_fld_26_4_4 rfl rfl) rfl rfl (Va (dx_load rfl ty_one_24 rfl (k3.cell (k := 4) rfl)) rfl rfl (Va (dx_lenFM rfl ty_slice_24 rfl hip) rfl rfl (Va (dx_fld (o1 := 4) rfl ty_fld_26_4_4 rfl rfl) rfl rfl (Va (dx_load rfl ty_one_24 rfl (k8.cell (k := 4) rfl)) rfl rfl (Va (dx_lenFM rfl ty_slice_24 rfl hiq) rfl rfl (Va (dx_neq rfl rfl rfl) rfl rfl (Pu rfl ?_)))))))
     refine Ni (hK14 ?_)
     refine WC.cond rfl (fun c23 => ?_) (fun c23 => ?_)
     ·
      replace c23 := bnot_t c23
      replace c23 := dF c23
      refine Sq fun K24 hK24 => (Rg (Pu rfl (Ni (hK24 ?_))))
      exact WC.ret fun a_ ha_ => hQ (cv_ret1 rfl (.tmp rfl) (by rw [eqJ_f (fun e => by obtain ⟨e1, e2, e3, e4, _⟩ := er_parts e; have e5 := er_len e; have e6 := congrArg List.length e4; first | contradiction | (exact absurd e3 (by assumption)) | omega)]) hB ha_)
     ·
      replace c23 := bnot_f c23
      replace c23 := dT c23
      refine WC.skip (hK13 (Sq fun K25 hK25 => (Sq fun K26 hK26 => ?_)))
      have hln : p.items.length = q.items.length := by omega
      have hnn : p.names.length = q.names.length := by omega
      refine Rg (Pu rfl (Ni (hK26 (WC.block ?_))))
      refine WC.loop (fun (i : Nat) => [(2, .pointer (some ⟨w.heap.size, 0, none⟩)), (3, .pointer (some ⟨W2.heap.size, 0, none⟩)), (5, .int .i64 (i : Int))]) (fun (i : Nat) W => i ≤ p.names.length ∧ p.names.take i = q.names.take i ∧ Below w.heap.size w W ∧ LL (W2.heap.size :: w.heap.size :: L) W ∧ RdF 1 (W2.heap.size :: w.heap.size :: L) W p.nv (p.names.map eS) ∧ RdF 5 (W2.heap.size :: w.heap.size :: L) W p.iv (p.items.map encT) ∧ RdTs n (W2.heap.size :: w.heap.size :: L) W p.items ∧ RdF 1 (W2.heap.size :: w.heap.size :: L) W q.nv (q.names.map eS) ∧ RdF 5 (W2.heap.size :: w.heap.size :: L) W q.iv (q.items.map encT) ∧ RdTs n (W2.heap.size :: w.heap.size :: L) W q.items ∧ Blk W w.heap.size [.int .i64 p.kind, .int .i64 p.num, .string p.text, p.nv, p.iv] ∧ Blk W W2.heap.size [.int .i64 q.kind, .int .i64 q.num, .string q.text, q.nv, q.iv]) (fun (i : Nat) => p.names.length - i) 0 (by repeat first | exact trivial | exact And.intro rfl trivial | refine And.intro rfl ?_ | refine And.intro (congrArg (fun z : Int => some (Value.int .i64 z)) (by omega)) ?_) ⟨Nat.zero_le _, rfl, hB, hL, hnp, hip, hcp, hnq, hiq, hcq, k3, k8⟩ ?_
      clear hnp hip hcp hnq hiq hcq k3 k8 hB hL
      rintro K27 i W28 ⟨hi, hv, hB, hL, hnp, hip, hcp, hnq, hiq, hcq, k3, k8⟩ hK27
      refine Sq fun K29 hK29 => (Sq fun K30 hK30 => (Rg (Pu rfl (Va (dx_fld (o1 := 3) rfl ty_fld_26_3_3 rfl rfl) rfl rfl (Va (dx_load rfl ty_one_23 rfl (k3.cell (k := 3) rfl)) rfl rfl (Va (dx_lenFM rfl ty_slice_23 rfl hnp) rfl rfl (Va (dx_lss rfl rfl rfl) rfl rfl ?_)))))))
      refine Ni (hK30 ?_)
      refine WC.cond rfl (fun c31 => ?_) (fun c31 => ?_)
      ·
       replace c31 := dT c31
       refine WC.skip (hK29 (Sq fun K32 hK32 => (WC.block (Sq fun K33 hK33 => ?_))))
       obtain ⟨r34, e35⟩ : ∃ x, p.names[i]? = some x := ⟨_, List.getElem?_eq_getElem (by omega)⟩
       obtain ⟨r36, e37⟩ : ∃ x, q.names[i]? = some x := ⟨_, List.getElem?_eq_getElem (by omega)⟩
       refine WC.drawM 10 [(some 51, .is (.pointer (some ⟨w.heap.size, 3, none⟩))), (some 52, .is (p.nv)), (some 53, .is (.int .i64 (i : Int))), (some 54, .by fun u W => PtR (W2.heap.size :: w.heap.size :: L) W u [.string r34]), (some 55, .is (.string r34)), (some 56, .is (.pointer (some ⟨W2.heap.size, 3, none⟩))), (some 57, .is (q.nv)), (some 58, .is (.int .i64 (i : Int))), (some 59, .by fun u W => PtR (W2.heap.size :: w.heap.size :: L) W u [.string r36]), (some 60, .is (.string r36))] [[], [0], [], [1, 2], [3], [], [5], [], [6, 7], [8]] (by kernel_rfl) (by kernel_rfl) (by kernel_rfl) (by kernel_rfl) (by kernel_rfl) (by kernel_rfl) (by kernel_rfl) ⟨fun _ _ _ hb h => h.below hb, fun _ _ _ hb h => h.below hb, trivial⟩ ?_ ?_
       ·
        refine Dc (fun Wd hd => ?_) ?_
        ·
         exact Dd (dx_fld (o1 := 3) rfl ty_fld_26_3_3 rfl rfl) rfl
        refine Dc (fun Wd hd => ?_) ?_
        ·
         have k3 := k3.below hd
         exact Dd (dx_load rfl ty_one_23 rfl (k3.cell (k := 3) rfl)) rfl
        refine Dc (fun Wd hd => ?_) ?_
        ·
         exact Dd (dx_move rfl rfl) rfl
        refine Dc (fun Wd hd => ?_) ?_
        ·
         have hnp := hnp.below hd
         exact (dx_idxF i rfl ty_slice_23 rfl rfl hnp (by omega) (at_mapX e35)).mono (fun v W' h => ⟨by rw [← h.1]; exact Below.refl _ _, by rw [← h.1]; exact h.2⟩)
        refine Dc (fun Wd hd => ?_) ?_
        ·
         intro u6_3 p6_3
         exact Dd (dx_loadP rfl ty_one_9 rfl p6_3) rfl
        refine Dc (fun Wd hd => ?_) ?_
        ·
         exact Dd (dx_fld (o1 := 3) rfl ty_fld_26_3_3 rfl rfl) rfl
        refine Dc (fun Wd hd => ?_) ?_
        ·
         have k8 := k8.below hd
         exact Dd (dx_load rfl ty_one_23 rfl (k8.cell (k := 3) rfl)) rfl
        refine Dc (fun Wd hd => ?_) ?_
        ·
         exact Dd (dx_move rfl rfl) rfl
        refine Dc (fun Wd hd => ?_) ?_
        ·
         have hnq := hnq.below hd
         exact (dx_idxF i rfl ty_slice_23 rfl rfl hnq (by omega) (at_mapX e37)).mono (fun v W' h => ⟨by rw [← h.1]; exact Below.refl _ _, by rw [← h.1]; exact h.2⟩)
        refine Dc (fun Wd hd => ?_) ?_
        ·
         intro u6_8 p6_8
         exact Dd (dx_loadP rfl ty_one_9 rfl p6_8) rfl
        exact trivial
       ·
        intro W38 b39
        intro u6_3 p6_3
        intro u6_8 p6_8
        replace hnp := hnp.below b39
        replace hip := hip.below b39
        replace hcp := hcp.below b39
        replace hnq := hnq.below b39
        replace hiq := hiq.below b39
        replace hcq := hcq.below b39
        replace k3 := k3.below b39
        replace k8 := k8.below b39
        replace hB := below_then hB b39
        replace hL := LL.below hL b39
        refine Va (dx_neqT rfl rfl rfl) rfl rfl (Ni (hK33 ?_))
        refine WC.cond rfl (fun c40 => ?_) (fun c40 => ?_)
        ·
         replace c40 := bnot_t c40
         replace c40 := dF c40
         refine Sq fun K41 hK41 => (Rg (Pu rfl (Ni (hK41 ?_))))
         exact WC.ret fun a_ ha_ => hQ (cv_ret1 rfl (.tmp rfl) (by rw [eqJ_f (fun e => by obtain ⟨e1, e2, e3, e4, _⟩ := er_parts e; rw [e4, e37] at e35; cases e35; exact absurd rfl (by assumption))]) hB ha_)
        ·
         replace c40 := bnot_f c40
         replace c40 := dT c40
         refine WC.skip (hK32 (Rg (Pu rfl (Va (dx_add (r := (i : Int) + 1) rfl rfl rfl (wrap64_id (by omega))) rfl rfl (Pu rfl (Ni ?_))))))
         exact hK27 (i + 1) ⟨(by omega), (by rw [List.take_add_one, List.take_add_one, hv, e35, e37, show r34 = r36 by first | assumption | exact Classical.not_not.1 (by assumption)]), hB, hL, hnp, hip, hcp, hnq, hiq, hcq, k3, k8⟩ (by omega) (by repeat first | exact trivial | exact And.intro rfl trivial | refine And.intro rfl ?_ | refine And.intro (congrArg (fun z : Int => some (Value.int .i64 z)) (by omega)) ?_)
      ·
       replace c31 := dF c31
       refine WC.exit ?_
       refine hK25 (Sq fun K42 hK42 => (Sq fun K43 hK43 => ?_))
       have hns : p.names = q.names := by rw [List.take_of_length_le (by omega), List.take_of_length_le (by omega)] at hv; exact hv
       refine Rg (Pu rfl (Ni (hK43 (WC.block ?_))))
       refine WC.loop (fun (i : Nat) => [(2, .pointer (some ⟨w.heap.size, 0, none⟩)), (3, .pointer (some ⟨W2.heap.size, 0, none⟩)), (6, .int .i64 (i : Int))]) (fun (i : Nat) W => i ≤ p.items.length ∧ (∀ k x y, k < i → p.items[k]? = some x → q.items[k]? = some y → x.er = y.er) ∧ Below w.heap.size w W ∧ LL (W2.heap.size :: w.heap.size :: L) W ∧ RdF 1 (W2.heap.size :: w.heap.size :: L) W p.nv (p.names.map eS) ∧ RdF 5 (W2.heap.size :: w.heap.size :: L) W p.iv (p.items.map encT) ∧ RdTs n (W2.heap.size :: w.heap.size :: L) W p.items ∧ RdF 1 (W2.heap.size :: w.heap.size :: L) W q.nv (q.names.map eS) ∧ RdF 5 (W2.heap.size :: w.heap.size :: L) W q.iv (q.items.map encT) ∧ RdTs n (W2.heap.size :: w.heap.size :: L) W q.items ∧ Blk W w.heap.size [.int .i64 p.kind, .int .i64 p.num, .string p.text, p.nv, p.iv] ∧ Blk W W2.heap.size [.int .i64 q.kind, .int .i64 q.num, .string q.text, q.nv, q.iv]) (fun (i : Nat) => p.items.length - i) 0 (by repeat first | exact trivial | exact And.intro rfl trivial | refine And.intro rfl ?_ | refine And.intro (congrArg (fun z : Int => some (Value.int .i64 z)) (by omega)) ?_) ⟨Nat.zero_le _, (fun k x y hk => by omega), hB, hL, hnp, hip, hcp, hnq, hiq, hcq, k3, k8⟩ ?_
       clear hnp hip hcp hnq hiq hcq k3 k8 hB hL
       rintro K44 i W45 ⟨hi, hw, hB, hL, hnp, hip, hcp, hnq, hiq, hcq, k3, k8⟩ hK44
       refine Sq fun K46 hK46 => (Sq fun K47 hK47 => (Rg (Pu rfl (Va (dx_fld (o1 := 4) rfl ty_fld_26_4_4 rfl rfl) rfl rfl (Va (dx_load rfl ty_one_24 rfl (k3.cell (k := 4) rfl)) rfl rfl (Va (dx_lenFM rfl ty_slice_24 rfl hip) rfl rfl (Va (dx_lss rfl rfl rfl) rfl rfl ?_)))))))
       refine Ni (hK47 ?_)
       refine WC.cond rfl (fun c48 => ?_) (fun c48 => ?_)
       ·
        replace c48 := dT c48
        refine WC.skip (hK46 (Sq fun K49 hK49 => (WC.block (Sq fun K50 hK50 => ?_))))
        obtain ⟨r51, e52⟩ : ∃ x, p.items[i]? = some x := ⟨_, List.getElem?_eq_getElem (by omega)⟩
        obtain ⟨r53, e54⟩ : ∃ x, q.items[i]? = some x := ⟨_, List.getElem?_eq_getElem (by omega)⟩
        refine WC.drawM 10 [(some 69, .is (.pointer (some ⟨w.heap.size, 4, none⟩))), (some 70, .is (p.iv)), (some 71, .is (.int .i64 (i : Int))), (some 72, .by fun u W => PtR (W2.heap.size :: w.heap.size :: L) W u (encT r51)), (some 73, .is (.agg #[.int .i64 r51.kind, .int .i64 r51.num, .string r51.text, r51.nv, r51.iv])), (some 74, .is (.pointer (some ⟨W2.heap.size, 4, none⟩))), (some 75, .is (q.iv)), (some 76, .is (.int .i64 (i : Int))), (some 77, .by fun u W => PtR (W2.heap.size :: w.heap.size :: L) W u (encT r53)), (some 78, .is (.agg #[.int .i64 r53.kind, .int .i64 r53.num, .string r53.text, r53.nv, r53.iv]))] [[], [0], [], [1, 2], [3], [], [5], [], [6, 7], [8]] (by kernel_rfl) (by kernel_rfl) (by kernel_rfl) (by kernel_rfl) (by kernel_rfl) (by kernel_rfl) (by kernel_rfl) ⟨fun _ _ _ hb h => h.below hb, fun _ _ _ hb h => h.below hb, trivial⟩ ?_ ?_
        ·
         refine Dc (fun Wd hd => ?_) ?_
         ·
          exact Dd (dx_fld (o1 := 4) rfl ty_fld_26_4_4 rfl rfl) rfl
         refine Dc (fun Wd hd => ?_) ?_
         ·
          have k3 := k3.below hd
          exact Dd (dx_load rfl ty_one_24 rfl (k3.cell (k := 4) rfl)) rfl
         refine Dc (fun Wd hd => ?_) ?_
         ·
          exact Dd (dx_move rfl rfl) rfl
         refine Dc (fun Wd hd => ?_) ?_
         ·
          have hip := hip.below hd
          exact (dx_idxF i rfl ty_slice_24 rfl rfl hip (by omega) (at_mapX e52)).mono (fun v W' h => ⟨by rw [← h.1]; exact Below.refl _ _, by rw [← h.1]; exact h.2⟩)
         refine Dc (fun Wd hd => ?_) ?_
         ·
          intro u11_3 p11_3
          exact Dd (dx_loadPN rfl ty_agg_26_5 rfl p11_3 rfl) rfl
         refine Dc (fun Wd hd => ?_) ?_
         ·
          exact Dd (dx_fld (o1 := 4) rfl ty_fld_26_4_4 rfl rfl) rfl
         refine Dc (fun Wd hd => ?_) ?_
         ·
          have k8 := k8.below hd
          exact Dd (dx_load rfl ty_one_24 rfl (k8.cell (k := 4) rfl)) rfl
         refine Dc (fun Wd hd => ?_) ?_
         ·
          exact Dd (dx_move rfl rfl) rfl
         refine Dc (fun Wd hd => ?_) ?_
         ·
          have hiq := hiq.below hd
          exact (dx_idxF i rfl ty_slice_24 rfl rfl hiq (by omega) (at_mapX e54)).mono (fun v W' h => ⟨by rw [← h.1]; exact Below.refl _ _, by rw [← h.1]; exact h.2⟩)
         refine Dc (fun Wd hd => ?_) ?_
         ·
          intro u11_8 p11_8
          exact Dd (dx_loadPN rfl ty_agg_26_5 rfl p11_8 rfl) rfl
         exact trivial
        ·
         intro W55 b56
         intro u11_3 p11_3
         intro u11_8 p11_8
         replace hnp := hnp.below b56
         replace hip := hip.below b56
         replace hcp := hcp.below b56
         replace hnq := hnq.below b56
         replace hiq := hiq.below b56
         replace hcq := hcq.below b56
         replace k3 := k3.below b56
         replace k8 := k8.below b56
         replace hB := below_then hB b56
         replace hL := LL.below hL b56
         refine Ge (dx_cv rfl Try.func39 rfl rfl rfl (ih r51 r53 W55 _ hL (hcp r51 (List.mem_of_getElem? e52)) (hcq r53 (List.mem_of_getElem? e54)))) rfl rfl ?_
         rintro _ W58 ⟨rfl, b57⟩
         replace hnp := hnp.below b57
         replace hip := hip.below b57
         replace hcp := hcp.below b57
         replace hnq := hnq.below b57
         replace hiq := hiq.below b57
         replace hcq := hcq.below b57
         replace k3 := k3.below b57
         replace k8 := k8.below b57
         replace hB := below_then hB b57
         replace hL := LL.below hL b57
         refine Va (dx_not rfl rfl) rfl rfl (Ni (hK50 ?_))
         refine WC.cond rfl (fun c59 => ?_) (fun c59 => ?_)
         ·
          replace c59 := bnot_t c59
          refine Sq fun K60 hK60 => (Rg (Pu rfl (Ni (hK60 ?_))))
          exact WC.ret fun a_ ha_ => hQ (cv_ret1 rfl (.tmp rfl) (by rw [eqJ_f (fun e => by have hce := er_item e e52 e54; have := eqJ_t hce; simp_all)]) hB ha_)
         ·
          replace c59 := bnot_f c59
          refine WC.skip (hK49 (Rg (Pu rfl (Va (dx_add (r := (i : Int) + 1) rfl rfl rfl (wrap64_id (by omega))) rfl rfl (Pu rfl (Ni ?_))))))
          have hce : r51.er = r53.er := Classical.byContradiction fun hn_ => by have := eqJ_f hn_; simp_all
          exact hK44 (i + 1) ⟨(by omega), (fun k x y hk hx hy => by rcases Nat.lt_or_ge k i with hl | hl; exact hw k x y hl hx hy; obtain rfl : k = i := (by omega); rw [e52] at hx; rw [e54] at hy; cases hx; cases hy; exact hce), hB, hL, hnp, hip, hcp, hnq, hiq, hcq, k3, k8⟩ (by omega) (by repeat first | exact trivial | exact And.intro rfl trivial | refine And.intro rfl ?_ | refine And.intro (congrArg (fun z : Int => some (Value.int .i64 z)) (by omega)) ?_)
       ·
        replace c48 := dF c48
        refine WC.exit ?_
        refine hK42 (Sq fun K61 hK61 => (Rg (Pu rfl (Ni (hK61 ?_)))))
        exact WC.ret fun a_ ha_ => hQ (cv_ret1 rfl (.tmp rfl) (by rw [eqJ_t (er_eq (by first | assumption | simp_all) (by first | assumption | simp_all) (by first | assumption | simp_all) hns hln (fun k c d hc hd => hw k c d (by have := (List.getElem?_eq_some_iff.1 hc).1; omega) hc hd))]) hB ha_)

theorem refSame_all : ∀ n, RefSameAt n
 | 0 => fun p q _ _ _ h => h.elim
 | n + 1 => fun p q w L hL h1 h2 => refSame_step n (refSame_all n) p q w L hL h1 h2
set_option maxHeartbeats 1000000 in
theorem alike_v (n : Nat) (p q : Tr) (w : World) (L : List Nat) (hL : LL L w) (htp : RdT (n + 1) L w p) (htq : RdT (n + 1) L w q) : CV Try.prog 14 [.agg #[.int .i64 p.kind, .int .i64 p.num, .string p.text, p.nv, p.iv], .agg #[.int .i64 q.kind, .int .i64 q.num, .string q.text, q.nv, q.iv]] w fun v W => v = .bool (eqJ p.er q.er) := by
 refine cv_enter (N := 8) (f := [(0, .agg #[.int .i64 p.kind, .int .i64 p.num, .string p.text, p.nv, p.iv]), (1, .agg #[.int .i64 q.kind, .int .i64 q.num, .string q.text, q.nv, q.iv])]) Try.func14 rfl rfl rfl rfl fun Q hQ hE => ?_
 have hB := Below.refl w.heap.size w
 refine Sq fun K1 hK1 => ?_
 obtain ⟨hnp, hip, hcp⟩ := htp
 replace hcp : RdTs n (L) w p.items := hcp
 obtain ⟨hnq, hiq, hcq⟩ := htq
 replace hcq : RdTs n (L) w q.items := hcq
 refine Rg ?_
 refine Ge (dx_box rfl rfl rfl) rfl rfl ?_
 rintro _ W2 ⟨rfl, k3, b4, z5⟩
 have l6 := hB.size
 replace hnp := hnp.more b4 (Nat.le_refl _)
 replace hip := hip.more b4 (Nat.le_refl _)
 replace hcp := hcp.more b4 (Nat.le_refl _)
 replace hnq := hnq.more b4 (Nat.le_refl _)
 replace hiq := hiq.more b4 (Nat.le_refl _)
 replace hcq := hcq.more b4 (Nat.le_refl _)
 replace hB := below_then hB b4
 replace hL := LL.more hL z5
 refine Ge (dx_box rfl rfl rfl) rfl rfl ?_
 rintro _ W7 ⟨rfl, k8, b9, z10⟩
 have l12 := hB.size
 replace hnp := hnp.more b9 (Nat.le_refl _)
 replace hip := hip.more b9 (Nat.le_refl _)
 replace hcp := hcp.more b9 (Nat.le_refl _)
 replace hnq := hnq.more b9 (Nat.le_refl _)
 replace hiq := hiq.more b9 (Nat.le_refl _)
 replace hcq := hcq.more b9 (Nat.le_refl _)
 replace k3 := k3.below b9
 replace hB := below_then hB b9
 replace hL := LL.more hL z10
 refine Pu rfl (Ni (hK1 (Sq fun K13 hK13 => (Rg (Va (dx_loadN rfl ty_agg_26_5 rfl k3.range rfl) rfl rfl (Va (dx_loadN rfl ty_agg_26_5 rfl k8.range rfl) rfl rfl ?_))))))
 refine Ge (dx_cv rfl Try.func39 rfl rfl rfl (refSame_all (n + 1) p q W7 _ hL (show RdT (n + 1) (W2.heap.size :: w.heap.size :: L) W7 p from ⟨hnp, hip, hcp⟩) (show RdT (n + 1) (W2.heap.size :: w.heap.size :: L) W7 q from ⟨hnq, hiq, hcq⟩))) rfl rfl ?_
 rintro _ W15 ⟨rfl, b14⟩
 replace hB := below_then hB b14
 refine Pu rfl (Ni (hK13 ?_))
 exact WC.ret fun a_ ha_ => hQ (cv_ret1 rfl (.tmp rfl) rfl hB ha_)

abbrev WeighAt (n : Nat) : Prop := ∀ (t : Tr) (most : Nat) (w : World) (L : List Nat), LL L w → RdT n L w t → most ≤ 1000000 → CV Try.prog 28 [.agg #[.int .i64 t.kind, .int .i64 t.num, .string t.text, t.nv, t.iv], .int .i64 (most : Int)] w fun v W => ∃ z : Int, v = .int .i64 z ∧ 1 ≤ z ∧ z ≤ 3 * (most : Int) + 3 ∧ (z ≤ (most : Int) → SzT most n t)
set_option maxHeartbeats 2000000 in
theorem weigh_step (n : Nat) (ih : WeighAt n) (t : Tr) (most : Nat) (w : World) (L : List Nat) (hL : LL L w) (ht : RdT (n + 1) L w t)  (hrm : most ≤ 1000000) : CV Try.prog 28 [.agg #[.int .i64 t.kind, .int .i64 t.num, .string t.text, t.nv, t.iv], .int .i64 (most : Int)] w fun v W => ∃ z : Int, v = .int .i64 z ∧ 1 ≤ z ∧ z ≤ 3 * (most : Int) + 3 ∧ (z ≤ (most : Int) → SzT most (n + 1) t) := by
 refine cv_enter (N := 61) (f := [(0, .agg #[.int .i64 t.kind, .int .i64 t.num, .string t.text, t.nv, t.iv]), (1, .int .i64 (most : Int))]) Try.func28 rfl rfl rfl rfl fun Q hQ hE => ?_
 have hB := Below.refl w.heap.size w
 refine Sq fun K1 hK1 => ?_
 obtain ⟨hnt, hit, hct⟩ := ht
 replace hct : RdTs n (L) w t.items := hct
 have hil0 := hit.len
 rw [List.length_map] at hil0
 have hnl0 := hnt.len
 rw [List.length_map] at hnl0
 unfold maxLen at hil0 hnl0
 refine Rg ?_
 refine Ge (dx_box rfl rfl rfl) rfl rfl ?_
 rintro _ W2 ⟨rfl, k3, b4, z5⟩
 have l6 := hB.size
 replace hnt := hnt.more b4 (Nat.le_refl _)
 replace hit := hit.more b4 (Nat.le_refl _)
 replace hct := hct.more b4 (Nat.le_refl _)
 replace hB := below_then hB b4
 replace hL := LL.more hL z5
 refine Pu rfl (Ni (hK1 (Sq fun K7 hK7 => (Rg (Va (dx_fld (o1 := 2) rfl ty_fld_26_2_2 rfl rfl) rfl rfl (Va (dx_load rfl ty_one_9 rfl (k3.cell (k := 2) rfl)) rfl rfl (Va (dx_lenT rfl Try.underlying9 rfl) rfl rfl ?_)))))))
 refine Pu rfl (Va (dx_min rfl rfl rfl) rfl rfl (Va (dx_add (r := 1 + (if (most : Int) < ((t.text).size : Int) then (most : Int) else ((t.text).size : Int))) rfl rfl rfl (wrap64_id (by omega))) rfl rfl (Pu rfl (Ni (hK7 (Sq fun K8 hK8 => (Sq fun K9 hK9 => ?_)))))))
 refine Rg (Pu rfl (Ni (hK9 (WC.block ?_))))
 have hz0 := (show True from trivial)
 refine WC.loop2 (fun (i : Nat) (z : Int) => [(1, .int .i64 (most : Int)), (2, .pointer (some ⟨w.heap.size, 0, none⟩)), (6, .int .i64 (i : Int)), (5, .int .i64 z)]) (fun (i : Nat) (z : Int) W => i ≤ t.names.length ∧ (1 + (i : Int) ≤ z) ∧ z ≤ 3 * (most : Int) + 3 ∧ (z ≤ (most : Int) → t.text.size ≤ most ∧ ∀ k a, k < i → t.names[k]? = some a → a.size ≤ most) ∧ Below w.heap.size w W ∧ LL (w.heap.size :: L) W ∧ RdF 1 (w.heap.size :: L) W t.nv (t.names.map eS) ∧ RdF 5 (w.heap.size :: L) W t.iv (t.items.map encT) ∧ RdTs n (w.heap.size :: L) W t.items ∧ Blk W w.heap.size [.int .i64 t.kind, .int .i64 t.num, .string t.text, t.nv, t.iv]) (fun (i : Nat) (z : Int) => t.names.length - i) 0 (1 + (if (most : Int) < ((t.text).size : Int) then (most : Int) else ((t.text).size : Int))) (by repeat first | exact trivial | exact And.intro rfl trivial | refine And.intro rfl ?_ | refine And.intro (congrArg (fun z : Int => some (Value.int .i64 z)) (by omega)) ?_) ⟨Nat.zero_le _, (by omega), (by omega), (fun hh => ⟨by omega, fun k a hk => by omega⟩), hB, hL, hnt, hit, hct, k3⟩ ?_
 clear hnt hit hct k3 hB hL
 rintro K10 i z W11 ⟨hi, hz1, hz2, hs, hB, hL, hnt, hit, hct, k3⟩ hK10
 refine Sq fun K12 hK12 => (Sq fun K13 hK13 => (Rg (Pu rfl (Va (dx_fld (o1 := 3) rfl ty_fld_26_3_3 rfl rfl) rfl rfl (Va (dx_load rfl ty_one_23 rfl (k3.cell (k := 3) rfl)) rfl rfl (Va (dx_lenFM rfl ty_slice_23 rfl hnt) rfl rfl (Va (dx_lss rfl rfl rfl) rfl rfl ?_)))))))
 refine Pu rfl ?_
 refine WL.split 19 rfl (fun g14 => ?_) (fun g14 => ?_)
 ·
  replace g14 := dT g14
  refine Pu rfl (Pu rfl (Va (dx_leq rfl rfl rfl) rfl rfl (Pu rfl (Ni (hK13 ?_)))))
  refine WC.cond rfl (fun c15 => ?_) (fun c15 => ?_)
  ·
   replace c15 := dT c15
   refine WC.skip (hK12 (Sq fun K16 hK16 => (WC.block (Rg (Pu rfl (Va (dx_add (r := z + 1) rfl rfl rfl (wrap64_id (by omega))) rfl rfl (Va (dx_fld (o1 := 3) rfl ty_fld_26_3_3 rfl rfl) rfl rfl ?_)))))))
   refine Va (dx_load rfl ty_one_23 rfl (k3.cell (k := 3) rfl)) rfl rfl (Pu rfl ?_)
   obtain ⟨r17, e18⟩ : ∃ x, t.names[i]? = some x := ⟨_, List.getElem?_eq_getElem (by omega)⟩
   refine Ge (dx_idxF i rfl ty_slice_23 rfl rfl hnt (by omega) (at_mapX e18)) rfl rfl ?_
   rintro u19 _ ⟨rfl, p20⟩
   refine Va (dx_loadP rfl ty_one_9 rfl p20) rfl rfl (Va (dx_lenT rfl Try.underlying9 rfl) rfl rfl (Pu rfl (Va (dx_min rfl rfl rfl) rfl rfl (Va (dx_add (r := (z + 1) + (if (most : Int) < (r17.size : Int) then (most : Int) else (r17.size : Int))) rfl rfl rfl (wrap64_id (by omega))) rfl rfl (Pu rfl (Ni (hK16 ?_)))))))
   refine Rg (Pu rfl (Va (dx_add (r := (i : Int) + 1) rfl rfl rfl (wrap64_id (by omega))) rfl rfl (Pu rfl (Ni ?_))))
   exact hK10 (i + 1) ((z + 1) + (if (most : Int) < (r17.size : Int) then (most : Int) else (r17.size : Int))) ⟨(by omega), (by omega), (by omega), (fun hh => ⟨by have := (hs (by omega)).1; omega, fun k a hk ha => by rcases Nat.lt_or_ge k i with hl | hl; exact (hs (by omega)).2 k a hl ha; obtain rfl : k = i := (by omega); rw [e18] at ha; cases ha; omega⟩), hB, hL, hnt, hit, hct, k3⟩ (by omega) (by repeat first | exact trivial | exact And.intro rfl trivial | refine And.intro rfl ?_ | refine And.intro (congrArg (fun z : Int => some (Value.int .i64 z)) (by omega)) ?_)
  ·
   replace c15 := dF c15
   refine WC.exit ?_
   refine hK8 (Sq fun K21 hK21 => (Sq fun K22 hK22 => (Rg (Pu rfl (Ni (hK22 (WC.block ?_)))))))
   have hnames : z ≤ (most : Int) → t.text.size ≤ most ∧ t.names.length ≤ most ∧ ∀ a ∈ t.names, a.size ≤ most := fun hh => by have hie : i = t.names.length := (by omega); refine ⟨(hs hh).1, by omega, fun a ha => ?_⟩; obtain ⟨k, hk⟩ := List.getElem?_of_mem ha; exact (hs hh).2 k a (by have := (List.getElem?_eq_some_iff.1 hk).1; omega) hk
   refine WC.loop2 (fun (j : Nat) (y : Int) => [(1, .int .i64 (most : Int)), (2, .pointer (some ⟨w.heap.size, 0, none⟩)), (7, .int .i64 (j : Int)), (5, .int .i64 y)]) (fun (j : Nat) (y : Int) W => j ≤ t.items.length ∧ (1 + (j : Int) ≤ y) ∧ y ≤ 3 * (most : Int) + 3 ∧ (y ≤ (most : Int) → (t.text.size ≤ most ∧ t.names.length ≤ most ∧ ∀ a ∈ t.names, a.size ≤ most) ∧ ∀ k c, k < j → t.items[k]? = some c → SzT most n c) ∧ Below w.heap.size w W ∧ LL (w.heap.size :: L) W ∧ RdF 1 (w.heap.size :: L) W t.nv (t.names.map eS) ∧ RdF 5 (w.heap.size :: L) W t.iv (t.items.map encT) ∧ RdTs n (w.heap.size :: L) W t.items ∧ Blk W w.heap.size [.int .i64 t.kind, .int .i64 t.num, .string t.text, t.nv, t.iv]) (fun (j : Nat) (y : Int) => t.items.length - j) 0 z (by repeat first | exact trivial | exact And.intro rfl trivial | refine And.intro rfl ?_ | refine And.intro (congrArg (fun z : Int => some (Value.int .i64 z)) (by omega)) ?_) ⟨Nat.zero_le _, (by omega), (by omega), (fun hh => ⟨hnames hh, fun k c hk => by omega⟩), hB, hL, hnt, hit, hct, k3⟩ ?_
   clear hnt hit hct k3 hB hL
   rintro K23 j y W24 ⟨hj, hy1, hy2, ht2, hB, hL, hnt, hit, hct, k3⟩ hK23
   refine Sq fun K25 hK25 => (Sq fun K26 hK26 => (Rg (Pu rfl (Va (dx_fld (o1 := 4) rfl ty_fld_26_4_4 rfl rfl) rfl rfl (Va (dx_load rfl ty_one_24 rfl (k3.cell (k := 4) rfl)) rfl rfl (Va (dx_lenFM rfl ty_slice_24 rfl hit) rfl rfl (Va (dx_lss rfl rfl rfl) rfl rfl ?_)))))))
   refine Pu rfl ?_
   refine WL.split 42 rfl (fun g27 => ?_) (fun g27 => ?_)
   ·
    replace g27 := dT g27
    refine Pu rfl (Pu rfl (Va (dx_leq rfl rfl rfl) rfl rfl (Pu rfl (Ni (hK26 ?_)))))
    refine WC.cond rfl (fun c28 => ?_) (fun c28 => ?_)
    ·
     replace c28 := dT c28
     refine WC.skip (hK25 (Sq fun K29 hK29 => (WC.block ?_)))
     obtain ⟨mm, hmm⟩ : ∃ k : Nat, (k : Int) = (most : Int) - y := ⟨((most : Int) - y).toNat, by omega⟩
     refine Rg (Pu rfl (Va (dx_fld (o1 := 4) rfl ty_fld_26_4_4 rfl rfl) rfl rfl (Va (dx_load rfl ty_one_24 rfl (k3.cell (k := 4) rfl)) rfl rfl (Pu rfl ?_))))
     obtain ⟨r30, e31⟩ : ∃ x, t.items[j]? = some x := ⟨_, List.getElem?_eq_getElem (by omega)⟩
     refine Ge (dx_idxF j rfl ty_slice_24 rfl rfl hit (by omega) (at_mapX e31)) rfl rfl ?_
     rintro u32 _ ⟨rfl, p33⟩
     refine Va (dx_loadPN rfl ty_agg_26_5 rfl p33 rfl) rfl rfl (Pu rfl (Pu rfl (Va (dx_sub (r := (mm : Int)) rfl rfl rfl (by rw [wrap64_id (by omega)]; omega)) rfl rfl ?_)))
     refine Ge (dx_cv rfl Try.func28 rfl rfl rfl (ih r30 mm W24 _ hL (hct r30 (List.mem_of_getElem? e31)) (by omega))) rfl rfl ?_
     rintro _ W35 ⟨⟨wz, rfl, hw1, hw2, hws⟩, b34⟩
     replace hnt := hnt.below b34
     replace hit := hit.below b34
     replace hct := hct.below b34
     replace k3 := k3.below b34
     replace hB := below_then hB b34
     replace hL := LL.below hL b34
     refine Va (dx_add (r := y + wz) rfl rfl rfl (wrap64_id (by omega))) rfl rfl (Pu rfl (Ni (hK29 (Rg (Pu rfl (Va (dx_add (r := (j : Int) + 1) rfl rfl rfl (wrap64_id (by omega))) rfl rfl (Pu rfl ?_)))))))
     refine Ni ?_
     exact hK23 (j + 1) (y + wz) ⟨(by omega), (by omega), (by omega), (fun hh => by obtain ⟨q1, q2⟩ := ht2 (by omega); exact ⟨q1, fun k a hk ha => by rcases Nat.lt_or_ge k j with hl | hl; exact q2 k a hl ha; obtain rfl : k = j := (by omega); rw [e31] at ha; cases ha; exact (hws (by omega)).le (by omega)⟩), hB, hL, hnt, hit, hct, k3⟩ (by omega) (by repeat first | exact trivial | exact And.intro rfl trivial | refine And.intro rfl ?_ | refine And.intro (congrArg (fun z : Int => some (Value.int .i64 z)) (by omega)) ?_)
    ·
     replace c28 := dF c28
     refine WC.exit ?_
     refine hK21 (Sq fun K36 hK36 => (Rg (Pu rfl (Pu rfl (Ni (hK36 ?_))))))
     exact WC.ret fun a_ ha_ => hQ (cv_ret1 rfl (.tmp rfl) ⟨_, rfl, by omega, by omega, fun hh => by obtain ⟨⟨q1, q2, q3⟩, q4⟩ := ht2 hh; have hje : j = t.items.length := (by omega); exact ⟨q1, q2, by omega, q3, fun c hc => by obtain ⟨k, hk⟩ := List.getElem?_of_mem hc; exact q4 k c (by have := (List.getElem?_eq_some_iff.1 hk).1; omega) hk⟩⟩ hB ha_)
   ·
    replace g27 := dF g27
    refine Of rfl (Of rfl (Of rfl (Pu rfl (Ni (hK26 (WC.condF rfl ?_))))))
    refine WC.exit ?_
    refine hK21 (Sq fun K37 hK37 => (Rg (Pu rfl (Pu rfl (Ni (hK37 ?_))))))
    exact WC.ret fun a_ ha_ => hQ (cv_ret1 rfl (.tmp rfl) ⟨_, rfl, by omega, by omega, fun hh => by obtain ⟨⟨q1, q2, q3⟩, q4⟩ := ht2 hh; have hje : j = t.items.length := (by omega); exact ⟨q1, q2, by omega, q3, fun c hc => by obtain ⟨k, hk⟩ := List.getElem?_of_mem hc; exact q4 k c (by have := (List.getElem?_eq_some_iff.1 hk).1; omega) hk⟩⟩ hB ha_)
 ·
  replace g14 := dF g14
  refine Of rfl (Of rfl (Of rfl (Pu rfl (Ni (hK13 (WC.condF rfl ?_))))))
  refine WC.exit ?_
  refine hK8 (Sq fun K38 hK38 => (Sq fun K39 hK39 => (Rg (Pu rfl (Ni (hK39 (WC.block ?_)))))))
  have hnames : z ≤ (most : Int) → t.text.size ≤ most ∧ t.names.length ≤ most ∧ ∀ a ∈ t.names, a.size ≤ most := fun hh => by have hie : i = t.names.length := (by omega); refine ⟨(hs hh).1, by omega, fun a ha => ?_⟩; obtain ⟨k, hk⟩ := List.getElem?_of_mem ha; exact (hs hh).2 k a (by have := (List.getElem?_eq_some_iff.1 hk).1; omega) hk
  refine WC.loop2 (fun (j : Nat) (y : Int) => [(1, .int .i64 (most : Int)), (2, .pointer (some ⟨w.heap.size, 0, none⟩)), (7, .int .i64 (j : Int)), (5, .int .i64 y)]) (fun (j : Nat) (y : Int) W => j ≤ t.items.length ∧ (1 + (j : Int) ≤ y) ∧ y ≤ 3 * (most : Int) + 3 ∧ (y ≤ (most : Int) → (t.text.size ≤ most ∧ t.names.length ≤ most ∧ ∀ a ∈ t.names, a.size ≤ most) ∧ ∀ k c, k < j → t.items[k]? = some c → SzT most n c) ∧ Below w.heap.size w W ∧ LL (w.heap.size :: L) W ∧ RdF 1 (w.heap.size :: L) W t.nv (t.names.map eS) ∧ RdF 5 (w.heap.size :: L) W t.iv (t.items.map encT) ∧ RdTs n (w.heap.size :: L) W t.items ∧ Blk W w.heap.size [.int .i64 t.kind, .int .i64 t.num, .string t.text, t.nv, t.iv]) (fun (j : Nat) (y : Int) => t.items.length - j) 0 z (by repeat first | exact trivial | exact And.intro rfl trivial | refine And.intro rfl ?_ | refine And.intro (congrArg (fun z : Int => some (Value.int .i64 z)) (by omega)) ?_) ⟨Nat.zero_le _, (by omega), (by omega), (fun hh => ⟨hnames hh, fun k c hk => by omega⟩), hB, hL, hnt, hit, hct, k3⟩ ?_
  clear hnt hit hct k3 hB hL
  rintro K40 j y W41 ⟨hj, hy1, hy2, ht2, hB, hL, hnt, hit, hct, k3⟩ hK40
  refine Sq fun K42 hK42 => (Sq fun K43 hK43 => (Rg (Pu rfl (Va (dx_fld (o1 := 4) rfl ty_fld_26_4_4 rfl rfl) rfl rfl (Va (dx_load rfl ty_one_24 rfl (k3.cell (k := 4) rfl)) rfl rfl (Va (dx_lenFM rfl ty_slice_24 rfl hit) rfl rfl (Va (dx_lss rfl rfl rfl) rfl rfl ?_)))))))
  refine Pu rfl ?_
  refine WL.split 42 rfl (fun g44 => ?_) (fun g44 => ?_)
  ·
   replace g44 := dT g44
   refine Pu rfl (Pu rfl (Va (dx_leq rfl rfl rfl) rfl rfl (Pu rfl (Ni (hK43 ?_)))))
   refine WC.cond rfl (fun c45 => ?_) (fun c45 => ?_)
   ·
    replace c45 := dT c45
    refine WC.skip (hK42 (Sq fun K46 hK46 => (WC.block ?_)))
    obtain ⟨mm, hmm⟩ : ∃ k : Nat, (k : Int) = (most : Int) - y := ⟨((most : Int) - y).toNat, by omega⟩
    refine Rg (Pu rfl (Va (dx_fld (o1 := 4) rfl ty_fld_26_4_4 rfl rfl) rfl rfl (Va (dx_load rfl ty_one_24 rfl (k3.cell (k := 4) rfl)) rfl rfl (Pu rfl ?_))))
    obtain ⟨r47, e48⟩ : ∃ x, t.items[j]? = some x := ⟨_, List.getElem?_eq_getElem (by omega)⟩
    refine Ge (dx_idxF j rfl ty_slice_24 rfl rfl hit (by omega) (at_mapX e48)) rfl rfl ?_
    rintro u49 _ ⟨rfl, p50⟩
    refine Va (dx_loadPN rfl ty_agg_26_5 rfl p50 rfl) rfl rfl (Pu rfl (Pu rfl (Va (dx_sub (r := (mm : Int)) rfl rfl rfl (by rw [wrap64_id (by omega)]; omega)) rfl rfl ?_)))
    refine Ge (dx_cv rfl Try.func28 rfl rfl rfl (ih r47 mm W41 _ hL (hct r47 (List.mem_of_getElem? e48)) (by omega))) rfl rfl ?_
    rintro _ W52 ⟨⟨wz, rfl, hw1, hw2, hws⟩, b51⟩
    replace hnt := hnt.below b51
    replace hit := hit.below b51
    replace hct := hct.below b51
    replace k3 := k3.below b51
    replace hB := below_then hB b51
    replace hL := LL.below hL b51
    refine Va (dx_add (r := y + wz) rfl rfl rfl (wrap64_id (by omega))) rfl rfl (Pu rfl (Ni (hK46 (Rg (Pu rfl (Va (dx_add (r := (j : Int) + 1) rfl rfl rfl (wrap64_id (by omega))) rfl rfl (Pu rfl ?_)))))))
    refine Ni ?_
    exact hK40 (j + 1) (y + wz) ⟨(by omega), (by omega), (by omega), (fun hh => by obtain ⟨q1, q2⟩ := ht2 (by omega); exact ⟨q1, fun k a hk ha => by rcases Nat.lt_or_ge k j with hl | hl; exact q2 k a hl ha; obtain rfl : k = j := (by omega); rw [e48] at ha; cases ha; exact (hws (by omega)).le (by omega)⟩), hB, hL, hnt, hit, hct, k3⟩ (by omega) (by repeat first | exact trivial | exact And.intro rfl trivial | refine And.intro rfl ?_ | refine And.intro (congrArg (fun z : Int => some (Value.int .i64 z)) (by omega)) ?_)
   ·
    replace c45 := dF c45
    refine WC.exit ?_
    refine hK38 (Sq fun K53 hK53 => (Rg (Pu rfl (Pu rfl (Ni (hK53 ?_))))))
    exact WC.ret fun a_ ha_ => hQ (cv_ret1 rfl (.tmp rfl) ⟨_, rfl, by omega, by omega, fun hh => by obtain ⟨⟨q1, q2, q3⟩, q4⟩ := ht2 hh; have hje : j = t.items.length := (by omega); exact ⟨q1, q2, by omega, q3, fun c hc => by obtain ⟨k, hk⟩ := List.getElem?_of_mem hc; exact q4 k c (by have := (List.getElem?_eq_some_iff.1 hk).1; omega) hk⟩⟩ hB ha_)
  ·
   replace g44 := dF g44
   refine Of rfl (Of rfl (Of rfl (Pu rfl (Ni (hK43 (WC.condF rfl ?_))))))
   refine WC.exit ?_
   refine hK38 (Sq fun K54 hK54 => (Rg (Pu rfl (Pu rfl (Ni (hK54 ?_))))))
   exact WC.ret fun a_ ha_ => hQ (cv_ret1 rfl (.tmp rfl) ⟨_, rfl, by omega, by omega, fun hh => by obtain ⟨⟨q1, q2, q3⟩, q4⟩ := ht2 hh; have hje : j = t.items.length := (by omega); exact ⟨q1, q2, by omega, q3, fun c hc => by obtain ⟨k, hk⟩ := List.getElem?_of_mem hc; exact q4 k c (by have := (List.getElem?_eq_some_iff.1 hk).1; omega) hk⟩⟩ hB ha_)

theorem weigh_all : ∀ n, WeighAt n
 | 0 => fun t _ _ _ _ h => h.elim
 | n + 1 => fun t most w L hL ht hr => weigh_step n (weigh_all n) t most w L hL ht hr
section
variable {P : Program} {ops : Array Oper} {o : Oper} {N : Nat} {f : Fl} {w : World}
end
def noJ : Js := .mk 0 0 ⟨#[]⟩ [] []
def getJ (j : Js) (name : ByteArray) : Js × Bool := if j.kind = 6 ∧ 0 ≤ idxX (fun x => decide (name = x)) j.names 0 ∧ (idxX (fun x => decide (name = x)) j.names 0).toNat < j.items.length then ((j.items[(idxX (fun x => decide (name = x)) j.names 0).toNat]?).getD noJ, true) else (noJ, false)
theorem getT_er (t : Tr) (name : ByteArray) : ((getT t name).1.er, (getT t name).2) = getJ t.er name := by
  unfold getT getJ
  rw [er_kind, er_names, er_items, List.length_map]
  split
  · rename_i h
    rw [List.getElem?_map, List.getElem?_eq_getElem h.2.2]; rfl
  · unfold noT noJ; rw [Tr.er_mk]; rfl
theorem pa1 : parJ { data := #[123, 34, 98, 34, 58, 32, 91, 49, 44, 32, 45, 50, 93, 44, 32, 34, 97, 34, 58, 32, 34, 92, 117, 48, 48, 101, 57, 34, 125] } = .ok (.mk 6 0 ⟨#[]⟩ [⟨#[97]⟩, ⟨#[98]⟩] [.mk 4 0 ⟨#[195, 169]⟩ [] [], .mk 5 0 ⟨#[]⟩ [] [.mk 3 1 ⟨#[]⟩ [] [], .mk 3 (-2) ⟨#[]⟩ [] []]]) := by kernel_rfl
theorem pa2 : parJ { data := #[49, 46, 53] } = .error 2 := by kernel_rfl
theorem pa3 : parJ { data := #[123, 34, 97, 34, 58, 49, 44, 34, 97, 34, 58, 50, 125] } = .error 6 := by kernel_rfl
theorem alP1 (w : World) (L : List Nat) (hL : LL L w) : CV Try.prog 12 [.string { data := #[123, 34, 98, 34, 58, 32, 91, 49, 44, 32, 45, 50, 93, 44, 32, 34, 97, 34, 58, 32, 34, 92, 117, 48, 48, 101, 57, 34, 125] }] w fun v W => ∃ t, v = .tuple #[.agg #[.int .i64 t.kind, .int .i64 t.num, .string t.text, t.nv, t.iv], .int .i64 0] ∧ getJ t.er ⟨#[97]⟩ = (.mk 4 0 ⟨#[195, 169]⟩ [] [], true) ∧ deepJ 13 t.er = 2 ∧ RdT 13 L W t :=
  (jParse_v { data := #[123, 34, 98, 34, 58, 32, 91, 49, 44, 32, 45, 50, 93, 44, 32, 34, 97, 34, 58, 32, 34, 92, 117, 48, 48, 101, 57, 34, 125] } w L hL).mono fun v W _ h => by
    rcases h with ⟨t, rfl, h1, h2⟩ | ⟨e, rfl, h0, h1⟩
    · rw [pa1] at h1
      have h1 := (Except.ok.inj h1).symm
      exact ⟨t, rfl, by rw [h1]; kernel_rfl, by rw [h1]; kernel_rfl, h2⟩
    · rw [pa1] at h1; cases h1
theorem alP2 (w : World) (L : List Nat) (hL : LL L w) : CV Try.prog 12 [.string { data := #[49, 46, 53] }] w fun v W => v = .tuple #[.agg #[.int .i64 0, .int .i64 0, .string ⟨#[]⟩, .slice none 0 0, .slice none 0 0], .int .i64 2] :=
 (jParse_v { data := #[49, 46, 53] } w L hL).mono fun v W _ h => by
  rcases h with ⟨t, rfl, h1, h2⟩ | ⟨e, rfl, h0, h1⟩
  · rw [pa2] at h1; cases h1
  · rw [pa2] at h1; cases h1; rfl
theorem alP3 (w : World) (L : List Nat) (hL : LL L w) : CV Try.prog 12 [.string { data := #[123, 34, 97, 34, 58, 49, 44, 34, 97, 34, 58, 50, 125] }] w fun v W => v = .tuple #[.agg #[.int .i64 0, .int .i64 0, .string ⟨#[]⟩, .slice none 0 0, .slice none 0 0], .int .i64 6] :=
 (jParse_v { data := #[123, 34, 97, 34, 58, 49, 44, 34, 97, 34, 58, 50, 125] } w L hL).mono fun v W _ h => by
  rcases h with ⟨t, rfl, h1, h2⟩ | ⟨e, rfl, h0, h1⟩
  · rw [pa3] at h1; cases h1
  · rw [pa3] at h1; cases h1; rfl
theorem alG (t : Tr) (w : World) (L : List Nat) (hL : LL L w) (ht : RdT 13 L w t) (hg : getJ t.er ⟨#[97]⟩ = (.mk 4 0 ⟨#[195, 169]⟩ [] [], true)) : CV Try.prog 17 [.agg #[.int .i64 t.kind, .int .i64 t.num, .string t.text, t.nv, t.iv], .string ⟨#[97]⟩] w fun v W => ∃ a, v = .tuple #[.agg #[.int .i64 a.kind, .int .i64 a.num, .string a.text, a.nv, a.iv], .bool true] ∧ a.text = ⟨#[195, 169]⟩ ∧ RdT 13 L W a :=
 (jGet_v 12 t ⟨#[97]⟩ w L hL ht).mono fun v W hb h => by
  subst h
  have e := (getT_er t ⟨#[97]⟩).trans hg
  simp only [Prod.mk.injEq] at e
  refine ⟨(getT t ⟨#[97]⟩).1, by rw [e.2]; rfl, ?_, (getT_rd ht _).below hb⟩
  rw [← er_text, e.1]; rfl
set_option maxHeartbeats 1000000 in
theorem alive_v  (w : World) (L : List Nat) (hL : LL L w)  : CV Try.prog 11 [] w fun v W => v = .bool true := by
 refine cv_enter (N := 49) (f := []) Try.func11 rfl rfl rfl rfl fun Q hQ hE => ?_
 have hB := Below.refl w.heap.size w
 refine Sq fun K1 hK1 => (Rg (Pu rfl (Ni (hK1 (Sq fun K2 hK2 => (Rg ?_))))))
 refine Ge (dx_cv rfl Try.func12 rfl rfl rfl (alP1 w _ hL)) rfl rfl ?_
 rintro _ W4 ⟨⟨t, rfl, hgj, hdj, ht⟩, b3⟩
 replace hB := below_then hB b3
 replace hL := LL.below hL b3
 obtain ⟨hnt, hit, hct⟩ := ht
 replace hct : RdTs 12 (L) W4 t.items := hct
 refine Pu rfl (Pu rfl (Pu rfl ?_))
 refine Ge (dx_alloc rfl ty_zero_26 rfl) rfl rfl ?_
 rintro _ W5 ⟨rfl, k6, b7, z8⟩
 have l9 := hB.size
 replace hnt := hnt.more b7 (Nat.le_refl _)
 replace hit := hit.more b7 (Nat.le_refl _)
 replace hct := hct.more b7 (Nat.le_refl _)
 replace hB := below_then hB b7
 replace hL := LL.more hL z8
 refine WL.do (dx_store (cs' := [.int .i64 t.kind, .int .i64 t.num, .string t.text, t.nv, t.iv]) (vs := [.int .i64 t.kind, .int .i64 t.num, .string t.text, t.nv, t.iv]) rfl ty_size_26_5 rfl rfl rfl (oc_cons rfl (oc_cons rfl (oc_cons rfl (oc_cons hnt.one (oc_cons hit.one oc_nil))))) k6 rfl (Nat.le_of_ble_eq_true rfl) rfl) rfl ?_
 rintro _ W10 ⟨k12, o11⟩
 clear k6
 replace hnt := hnt.only o11 (.head _)
 replace hit := hit.only o11 (.head _)
 replace hct := hct.only o11 (.head _)
 replace hB := o11.below hB l9
 replace hL := LL.only hL o11
 refine Pu rfl (Ni (hK2 (Sq fun K13 hK13 => (Rg ?_))))
 refine Ge (dx_cv rfl Try.func12 rfl rfl rfl (alP2 W10 _ hL)) rfl rfl ?_
 rintro _ W15 ⟨rfl, b14⟩
 replace hnt := hnt.below b14
 replace hit := hit.below b14
 replace hct := hct.below b14
 replace k12 := k12.below b14
 replace hB := below_then hB b14
 replace hL := LL.below hL b14
 refine Pu rfl (Pu rfl (Pu rfl ?_))
 refine Ge (dx_alloc rfl ty_zero_26 rfl) rfl rfl ?_
 rintro _ W16 ⟨rfl, k17, b18, z19⟩
 have n20 : W4.heap.size ≠ W15.heap.size := Nat.ne_of_lt k12.lt
 have l21 := hB.size
 replace hnt := hnt.more b18 (Nat.le_refl _)
 replace hit := hit.more b18 (Nat.le_refl _)
 replace hct := hct.more b18 (Nat.le_refl _)
 replace k12 := k12.below b18
 replace hB := below_then hB b18
 replace hL := LL.more hL z19
 refine WL.do (dx_store (cs' := zV) (vs := zV) rfl ty_size_26_5 rfl rfl rfl (oc_cons rfl (oc_cons rfl (oc_cons rfl (oc_cons rfl (oc_cons rfl oc_nil))))) k17 rfl (Nat.le_of_ble_eq_true rfl) rfl) rfl ?_
 rintro _ W22 ⟨k24, o23⟩
 replace k12 := k12.other o23 n20
 clear k17
 replace hnt := hnt.only o23 (.head _)
 replace hit := hit.only o23 (.head _)
 replace hct := hct.only o23 (.head _)
 replace hB := o23.below hB l21
 replace hL := LL.only hL o23
 refine Pu rfl (Ni (hK13 (Sq fun K25 hK25 => (Rg ?_))))
 refine Ge (dx_cv rfl Try.func12 rfl rfl rfl (alP3 W22 _ hL)) rfl rfl ?_
 rintro _ W27 ⟨rfl, b26⟩
 replace hnt := hnt.below b26
 replace hit := hit.below b26
 replace hct := hct.below b26
 replace k12 := k12.below b26
 replace hB := below_then hB b26
 replace hL := LL.below hL b26
 refine Pu rfl (Pu rfl (Pu rfl ?_))
 refine Ge (dx_alloc rfl ty_zero_26 rfl) rfl rfl ?_
 rintro _ W28 ⟨rfl, k29, b30, z31⟩
 have n32 : W4.heap.size ≠ W27.heap.size := Nat.ne_of_lt k12.lt
 have l34 := hB.size
 replace hnt := hnt.more b30 (Nat.le_refl _)
 replace hit := hit.more b30 (Nat.le_refl _)
 replace hct := hct.more b30 (Nat.le_refl _)
 replace k12 := k12.below b30
 replace hB := below_then hB b30
 replace hL := LL.more hL z31
 refine WL.do (dx_store (cs' := zV) (vs := zV) rfl ty_size_26_5 rfl rfl rfl (oc_cons rfl (oc_cons rfl (oc_cons rfl (oc_cons rfl (oc_cons rfl oc_nil))))) k29 rfl (Nat.le_of_ble_eq_true rfl) rfl) rfl ?_
 rintro _ W35 ⟨k37, o36⟩
 replace k12 := k12.other o36 n32
 clear k29
 replace hnt := hnt.only o36 (.head _)
 replace hit := hit.only o36 (.head _)
 replace hct := hct.only o36 (.head _)
 replace hB := o36.below hB l34
 replace hL := LL.only hL o36
 refine Pu rfl (Ni (hK25 (Sq fun K38 hK38 => (Rg (Va (dx_loadN rfl ty_agg_26_5 rfl k12.range rfl) rfl rfl ?_)))))
 refine Ge (dx_cv rfl Try.func17 rfl rfl rfl (alG t W35 _ hL (show RdT (12 + 1) (W27.heap.size :: W15.heap.size :: W4.heap.size :: L) W35 t from ⟨hnt, hit, hct⟩) hgj)) rfl rfl ?_
 rintro _ W40 ⟨⟨a, rfl, htx, ha⟩, b39⟩
 replace hnt := hnt.below b39
 replace hit := hit.below b39
 replace hct := hct.below b39
 replace k12 := k12.below b39
 replace hB := below_then hB b39
 replace hL := LL.below hL b39
 obtain ⟨hna, hia, hca⟩ := ha
 replace hca : RdTs 12 (W27.heap.size :: W15.heap.size :: W4.heap.size :: L) W40 a.items := hca
 refine Pu rfl (Pu rfl (Pu rfl ?_))
 refine Ge (dx_alloc rfl ty_zero_26 rfl) rfl rfl ?_
 rintro _ W41 ⟨rfl, k42, b43, z44⟩
 have n45 : W4.heap.size ≠ W40.heap.size := Nat.ne_of_lt k12.lt
 have l48 := hB.size
 replace hnt := hnt.more b43 (Nat.le_refl _)
 replace hit := hit.more b43 (Nat.le_refl _)
 replace hct := hct.more b43 (Nat.le_refl _)
 replace hna := hna.more b43 (Nat.le_refl _)
 replace hia := hia.more b43 (Nat.le_refl _)
 replace k12 := k12.below b43
 replace hB := below_then hB b43
 replace hL := LL.more hL z44
 refine WL.do (dx_store (cs' := [.int .i64 a.kind, .int .i64 a.num, .string a.text, a.nv, a.iv]) (vs := [.int .i64 a.kind, .int .i64 a.num, .string a.text, a.nv, a.iv]) rfl ty_size_26_5 rfl rfl rfl (oc_cons rfl (oc_cons rfl (oc_cons rfl (oc_cons hna.one (oc_cons hia.one oc_nil))))) k42 rfl (Nat.le_of_ble_eq_true rfl) rfl) rfl ?_
 rintro _ W49 ⟨k51, o50⟩
 replace k12 := k12.other o50 n45
 clear k42
 replace hnt := hnt.only o50 (.head _)
 replace hit := hit.only o50 (.head _)
 replace hct := hct.only o50 (.head _)
 replace hB := o50.below hB l48
 replace hL := LL.only hL o50
 refine Pu rfl (Ni (hK38 (Sq fun K52 hK52 => (Rg (Pu rfl (Va (dx_eql rfl rfl rfl) rfl rfl (Pu rfl ?_)))))))
 refine Pu rfl (Va (dx_eql rfl rfl rfl) rfl rfl (Pu rfl (Pu rfl (Pu rfl (Va (dx_eql rfl rfl rfl) rfl rfl (Pu rfl (Pu rfl ?_)))))))
 refine Pu rfl (Pu rfl (Pu rfl (Va (dx_fld (o1 := 2) rfl ty_fld_26_2_2 rfl rfl) rfl rfl (Va (dx_load rfl ty_one_9 rfl (k51.cell (k := 2) rfl)) rfl rfl (Va (dv_T (dx_eqlT rfl rfl rfl) htx) rfl rfl (Pu rfl (Pu rfl ?_)))))))
 refine Va (dx_loadN rfl ty_agg_26_5 rfl k12.range rfl) rfl rfl ?_
 refine Ge (dx_cv rfl Try.func20 rfl rfl rfl (jDeep_v 12 t W49 _ hL (show RdT (12 + 1) (W40.heap.size :: W27.heap.size :: W15.heap.size :: W4.heap.size :: L) W49 t from ⟨hnt, hit, hct⟩))) rfl rfl ?_
 rintro _ W54 ⟨rfl, b53⟩
 replace hB := below_then hB b53
 refine Va (dv_T (dx_eql rfl rfl rfl) (by rw [hdj]; rfl)) rfl rfl (Pu rfl (Pu rfl (Ni (hK52 ?_))))
 exact WC.ret fun a_ ha_ => hQ (cv_ret1 rfl (.tmp rfl) rfl hB ha_)

theorem maxJ_min {f : Js → Nat} {n : Nat} : ∀ l : List Js, maxJ (fun j => min n (f j)) l = min n (maxJ f l)
 | [] => by simp [maxJ]
 | j :: l => by simp only [maxJ]; rw [maxJ_min l]; omega
theorem deep_min : ∀ (n : Nat) (j : Js), deepJ n j = min n (deepJ (n + 1) j)
  | 0, j => by simp [deepJ]
  | n + 1, j => by
    rw [deepJ, deepJ]
    split
    · have e : deepJ n = fun j => min n (deepJ (n + 1) j) := funext (deep_min n)
      rw [e, maxJ_min]; omega
    · simp
theorem maxJ_iff {f : Js → Nat} {n : Nat} : ∀ {l : List Js}, maxJ f l ≤ n ↔ ∀ j ∈ l, f j ≤ n
 | [] => by simp [maxJ]
 | j :: l => by rw [maxJ, Nat.max_le, maxJ_iff (l := l)]; simp
section
variable {P : Program} {ops : Array Oper} {md : Region.Mode}
end
abbrev SV := List (Option Tmp × Option Value)
section
variable {P : Program} {N : Nat} {sv : SV} {dl : List (List Nat)}
end
def vB : Value → Option Nat
 | .slice (some a) _ _ => some a.block
 | .pointer (some a) => some a.block
 | _ => none
theorem OwS.vB {s : Nat} {w : World} {u : Value} {rs : List (List Value)} {B : Nat} (h : OwS s w u rs B) : vB u = some B := by
 obtain ⟨h0, hr, cap, sp, rfl, _⟩ := h
 rfl
theorem NewW.lt {s b : Nat} {w : World} {u : Value} {rs : List (List Value)} (h : NewW s b rs u w) {B : Nat} (hB : Go.Proofs.Ytpinidlfcifeeaa.vB u = some B) : b ≤ B ∧ B < w.heap.size := by
 rcases h with ⟨rfl, _⟩ | ⟨C, h1, h2⟩
 · cases hB
 · rw [h2.vB] at hB; cases hB; exact ⟨h1, h2.lt⟩
theorem NewW.one {s b : Nat} {w : World} {u : Value} {rs : List (List Value)} (h : NewW s b rs u w) : u.oneCell' = true := by
 rcases h with ⟨rfl, _⟩ | ⟨C, h1, h2⟩
 · rfl
 · exact h2.one
def putJ (j : Js) (nm : ByteArray) (x : Js) : Js := if j.names[lbT nm j.names]? = some nm then .mk 6 0 ⟨#[]⟩ j.names (j.items.set (lbT nm j.names) x) else .mk 6 0 ⟨#[]⟩ (insA (lbT nm j.names) nm j.names) (insA (lbT nm j.names) x j.items)
set_option maxHeartbeats 1000000 in
theorem cloneNP_v  (w : World) (L : List Nat) (hL : LL L w)  : CV Try.prog 54 [.slice none 0 0] w fun v W => v = .slice none 0 0 := by
 refine cv_enter (N := 8) (f := [(0, .slice none 0 0)]) Try.func54 rfl rfl rfl rfl fun Q hQ hE => ?_
 have hB := Below.refl w.heap.size w
 refine WC.seq fun K1 hK1 => (WC.region (Pu rfl (WL.nil (hK1 (WC.seq fun K2 hK2 => (WC.seq fun K3 hK3 => (WC.region ?_)))))))
 refine Pu rfl (WL.val (dx_nilT rfl Try.underlying40 rfl) rfl rfl (WL.nil (hK3 (WC.condT rfl (WC.seq fun K4 hK4 => (WC.region (Pu rfl ?_)))))))
 refine WL.nil (hK4 ?_)
 exact WC.ret fun a_ ha_ => hQ (cv_ret1 rfl (.tmp rfl) rfl hB ha_)

set_option maxHeartbeats 1000000 in
theorem cloneEP_v (rs : List (List Value)) (sv : Value) (a : Addr) (n c : Nat) (w : World) (L : List Nat) (hL : LL L w) (h1 : RdF 6 L w sv rs)  (hs : sv = .slice (some a) n c) (hone : ∀ r ∈ rs, ∀ u ∈ r, u.oneCell' = true) (hsm : rs.length * 96 ≤ 140737488355328) : CV Try.prog 54 [sv] w fun v W => NewS 6 w.heap.size rs v W := by
 refine cv_enter (N := 8) (f := [(0, sv)]) Try.func54 rfl rfl rfl rfl fun Q hQ hE => ?_
 have hB := Below.refl w.heap.size w
 refine WC.seq fun K1 hK1 => (WC.region (Pu rfl (WL.nil (hK1 (WC.seq fun K2 hK2 => (WC.seq fun K3 hK3 => (WC.region ?_)))))))
 refine Pu rfl (WL.val (dx_nilS rfl Try.underlying40 rfl hs) rfl rfl (WL.nil (hK3 (WC.condF rfl (WC.skip (hK2 (WC.seq fun K4 hK4 => ?_)))))))
 refine WC.region ?_
 refine WL.get (dx_lit0E rfl ty_ap_40 (by decide)) rfl rfl ?_
 rintro u5 W6 ⟨b7, e8⟩
 replace h1 := h1.below b7
 replace hB := below_then hB b7
 refine Pu rfl ?_
 refine WL.get (dx_apN rfl ty_ap_40 rfl rfl e8 h1 hone (by unfold maxLen; omega) (by omega) hB.size) rfl rfl ?_
 rintro u9 W10 ⟨b11, e12⟩
 replace hB := below_then hB b11
 refine Pu rfl (WL.nil (hK4 ?_))
 exact WC.ret fun a_ ha_ => hQ (cv_ret1 rfl (.tmp rfl) e12 hB ha_)

theorem cloneSP_v (rs : List (List Value)) (sv : Value) (w : World) (L : List Nat) (hL : LL L w) (h1 : RdF 6 L w sv rs) (hone : ∀ r ∈ rs, ∀ u ∈ r, u.oneCell' = true) (hsm : rs.length * 96 ≤ 140737488355328) : CV Try.prog 54 [sv] w fun v W => NewW 6 w.heap.size rs v W := by
 rcases h1.nil_or with ⟨rfl, rfl⟩ | ⟨a, n, c, hs⟩
 · exact (cloneNP_v w L hL).mono fun v W _ h => .inl ⟨h, rfl, by decide⟩
 · exact (cloneEP_v rs sv a n c w L hL h1 hs hone hsm).mono fun v W _ h => NewS.toW' h
def cmpP (p q : ByteArray × Tr) : Int := if sless p.1 q.1 = true then -1 else if sless q.1 p.1 = true then 1 else 0
theorem run_gtrT (P : Program) (w : World) (t : TypeId) (m n : ByteArray) : (binOp .gtr t (.string m) (.string n)).run P w = .ok (.bool (!sless m n && !decide (m = n))) w := by
 simp [binOp, Op.stringOp, sless, Sem.run_pure, str_beq]
open Go.Sort in
set_option maxHeartbeats 1000000 in
theorem make1_grow (a b t1 t2 : ByteArray) (k1 k2 m1 m2 : Int) (n1 n2 i1 i2 : Value) (h1 : n1.oneCell' = true) (h2 : i1.oneCell' = true) (h3 : n2.oneCell' = true) (h4 : i2.oneCell' = true) (W : World) : Calls Try.prog 56 #[.agg #[.string a, .int .i64 k1, .int .i64 m1, .string t1, n1, i1], .agg #[.string b, .int .i64 k2, .int .i64 m2, .string t2, n2, i2]] W fun e w' => e = .returned (.int .i64 (if sless a b = true then -1 else if sless b a = true then 1 else 0)) ∧ ∃ q os', w' = grow (W.drewN q) os' := by
  go_enter Try.func56, Try.ntmps56
  have tri := sless_tri a b
  have fin : ∀ o1 o2 : Obj, ∃ (q : Nat) (os' : Array Obj), (W.alloc o1).alloc o2 = grow (W.drewN q) os' := fun o1 o2 => ⟨0, _, by rw [alloc_eq_grow, alloc_eq_grow, grow_grow]; rfl⟩
  go_wp2
  · go_ret
    exact ⟨rfl, fin _ _⟩
  · rw [run_gtrT]
    go_wp2
    all_goals go_ret
    all_goals first | exact ⟨rfl, fin _ _⟩ | (exfalso; simp_all; done) | (exfalso; have e : Op.bytesLess a.toList b.toList = sless a b := rfl; simp_all; done)
theorem NewW.rdL {s b : Nat} {w w0 : World} {u : Value} {rs : List (List Value)} {L : List Nat} (h : NewW s b rs u w) (hL : LL L w0) (hb : w0.heap.size ≤ b) : RdF s L w u rs := by
 rcases h with ⟨rfl, rfl, h0⟩ | ⟨B, h1, h2⟩
 · exact RdF.nil h0
 · exact h2.rd (hL.notin (Nat.le_trans hb h1))
end Go.Proofs.Ytpinidlfcifeeaa
namespace Go.Proofs
open Go.Shelf
end Go.Proofs
namespace Go.Proofs.Ytpinidlfcifeeaa
open Go.RowKit
set_option linter.unusedVariables false
set_option linter.unusedSimpArgs false
set_option maxRecDepth 8000
set_option maxHeartbeats 2000000

theorem MembI.le {n b : Nat} {L L' : List Nat} {nv iv : Value} {ns : List ByteArray} {ts : List Tr} {W : World} (h : MembI n b L nv ns iv ts W) (hl : ∀ x, x ∈ L' → x ∈ L) : MembI n b L' nv ns iv ts W := by
  obtain ⟨h0, h | ⟨Bn, Bi, h1, h2, h3, h4, h5, h6⟩⟩ := h
  · exact ⟨fun x hx => h0 x (hl x hx), .inl h⟩
  · exact ⟨fun x hx => h0 x (hl x hx), .inr ⟨Bn, Bi, h1, h2, h3, h4, h5, fun c hc => (h6 c hc).less fun x hx => by
      simp only [List.mem_cons] at hx ⊢
      rcases hx with h_ | h_ | h_
      · exact .inl h_
      · exact .inr (.inl h_)
      · exact .inr (.inr (hl x h_))⟩⟩
def AgL (w1 : World) (L0 L : List Nat) (w : World) : Prop := (∀ x ∈ L, x < w1.heap.size → x ∈ L0) ∧ Agree L0 w1 w
theorem Agree.trans' {L : List Nat} {w w' w'' : World} (h : Agree L w w') (k : Agree L w' w'') : Agree L w w'' := ⟨Nat.le_trans h.1 k.1, fun i hi hlt => (k.2 i hi (Nat.lt_of_lt_of_le hlt h.1)).trans (h.2 i hi hlt)⟩
section
variable {w1 w w' : World} {L0 L : List Nat}
theorem AgL.below (h : AgL w1 L0 L w) (hb : Below w.heap.size w w') : AgL w1 L0 L w' := ⟨h.1, h.2.trans' (.of_below hb)⟩
theorem AgL.more (h : AgL w1 L0 L w) (hb : Below w.heap.size w w') {B : Nat} (hB : w.heap.size ≤ B) : AgL w1 L0 (B :: L) w' := ⟨fun x hx hlt => by
 rcases List.mem_cons.1 hx with rfl | hx
 · exact absurd hlt (Nat.not_lt.2 (Nat.le_trans h.2.1 hB))
 · exact h.1 x hx hlt, h.2.trans' (.of_below hb)⟩
theorem AgL.only (h : AgL w1 L0 L w) {C : Nat} (ho : Only C w w') (hC : C ∈ L) : AgL w1 L0 L w' := ⟨h.1, ⟨by rw [ho.size]; exact h.2.1, fun k hk hlt => (ho.block k (fun e => hk (h.1 k (e ▸ hC) hlt))).trans (h.2.2 k hk hlt)⟩⟩
theorem AgL.grow' (h : AgL w1 L0 L w) {B B' : Nat} (g : GrowB B B' w w') (hB : B ∈ L) : AgL w1 L0 (B' :: L) w' := ⟨fun x hx hlt => by
  rcases List.mem_cons.1 hx with rfl | hx
  · rcases g.new with rfl | hn
    · exact h.1 _ hB hlt
    · exact absurd hlt (Nat.not_lt.2 (Nat.le_trans h.2.1 hn))
  · exact h.1 x hx hlt, ⟨Nat.le_trans h.2.1 g.size, fun k hk hlt => (g.block k (Nat.lt_of_lt_of_le hlt h.2.1) (fun e => hk (h.1 k (e ▸ hB) hlt))).trans (h.2.2 k hk hlt)⟩⟩
theorem AgL.less (h : AgL w1 L0 L w) {L' : List Nat} (hl : ∀ x, x ∈ L' → x ∈ L) : AgL w1 L0 L' w := ⟨fun x hx => h.1 x (hl x hx), h.2⟩
theorem AgL.add (h : AgL w1 L0 L w) {B : Nat} (hB : w1.heap.size ≤ B) : AgL w1 L0 (B :: L) w := ⟨fun x hx hlt => by
 rcases List.mem_cons.1 hx with rfl | hx
 · exact absurd hlt (Nat.not_lt.2 hB)
 · exact h.1 x hx hlt, h.2⟩
theorem AgL.rd {s : Nat} {v : Value} {rs : List (List Value)} (h : AgL w1 L0 L w) (k : RdF s L0 w1 v rs) : RdF s L w v rs := by
 have k2 := k.agree h.2
 obtain ⟨h0, hl, a, cap, rfl, c1, c2, c3, c4⟩ := k2
 refine ⟨h0, hl, a, cap, rfl, c1, c2, c3, fun hn => ?_⟩
 obtain ⟨X, q, e, hX, hr⟩ := c4 hn
 exact ⟨X, q, e, fun hx => hX (h.1 X hx (rdf_lt k e hn)), hr⟩
theorem AgL.rt (h : AgL w1 L0 L w) : ∀ {n : Nat} {t : Tr}, RdT n L0 w1 t → RdT n L w t
 | 0, _, k => k
 | _ + 1, _, k => ⟨h.rd k.1, h.rd k.2.1, fun c hc => h.rt (k.2.2 c hc)⟩
end
theorem idx_none {x : ByteArray} {l : List ByteArray} (h : x ∉ l) : ¬ 0 ≤ idxX (fun y => decide (x = y)) l 0 := fun h0 => by
 obtain ⟨k, a, e, ha, hp, _⟩ := idxX_is l 0 (Int.le_refl _) h0
 exact h ((of_decide_eq_true hp) ▸ List.mem_of_getElem? ha)
theorem rises_uniq {l : List ByteArray} (h : Rises l) {i j : Nat} {a : ByteArray} (hi : l[i]? = some a) (hj : l[j]? = some a) : i = j := by
 rcases Nat.lt_trichotomy i j with h1 | h1 | h1
 · have := rises_less h h1 hi hj; rw [sless_irrefl] at this; cases this
 · exact h1
 · have := rises_less h h1 hj hi; rw [sless_irrefl] at this; cases this
theorem getJ_some {j : Js} {nm : ByteArray} {k : Nat} {x : Js} (hk : j.kind = 6) (hr : Rises j.names) (hn : j.names[k]? = some nm) (hx : j.items[k]? = some x) : getJ j nm = (x, true) := by
  have hlt := (List.getElem?_eq_some_iff.1 hx).1
  have h0 : idxX (fun y => decide (nm = y)) j.names 0 = (k : Int) := by
    rcases Int.lt_or_le (idxX (fun y => decide (nm = y)) j.names 0) 0 with h1 | h1
    · have := idxX_no j.names 0 (Int.le_refl _) h1 nm (List.mem_of_getElem? hn)
      exact absurd rfl (of_decide_eq_false this)
    · obtain ⟨k', a, e, ha, hp, _⟩ := idxX_is j.names 0 (Int.le_refl _) h1
      have hp := of_decide_eq_true hp
      subst hp
      have := rises_uniq hr ha hn
      rw [e, this]; omega
  unfold getJ
  rw [if_pos ⟨hk, by rw [h0]; omega, by rw [h0]; simpa using hlt⟩, h0, Int.toNat_natCast, hx]
  rfl
theorem getJ_none {j : Js} {nm : ByteArray} (h : nm ∉ j.names) : getJ j nm = (noJ, false) := by
 unfold getJ
 rw [if_neg (fun ⟨_, h1, _⟩ => idx_none h h1)]
theorem insA_at {α : Type} {i : Nat} {x : α} {l : List α} (h : i ≤ l.length) : (insA i x l)[i]? = some x := by
 unfold insA
 rw [List.getElem?_append_right (by rw [List.length_take]; omega), List.length_take, show i - min i l.length = 0 by omega]
 rfl
theorem insA_lt {α : Type} {i k : Nat} {x : α} {l : List α} (h : i ≤ l.length) (hk : k < i) : (insA i x l)[k]? = l[k]? := by
 unfold insA
 rw [List.getElem?_append_left (by rw [List.length_take]; omega), List.getElem?_take, if_pos hk]
theorem insA_ge {α : Type} {i k : Nat} {x : α} {l : List α} (h : i ≤ l.length) (hk : i ≤ k) : (insA i x l)[k + 1]? = l[k]? := by
 unfold insA
 rw [List.getElem?_append_right (by rw [List.length_take]; omega), List.length_take, show k + 1 - min i l.length = (k - i) + 1 by omega, List.singleton_append, List.getElem?_cons_succ, List.getElem?_drop]
 congr 1; omega
def SzJ (m : Nat) : Nat → Js → Prop
 | 0, _ => False
 | n + 1, j => j.text.size ≤ m ∧ j.names.length ≤ m ∧ j.items.length ≤ m ∧ (∀ s ∈ j.names, s.size ≤ m) ∧ ∀ c ∈ j.items, SzJ m n c
theorem SzJ.le {m m' : Nat} (hm : m ≤ m') : ∀ {n : Nat} {j : Js}, SzJ m n j → SzJ m' n j
 | 0, _, h => h
 | _ + 1, _, h => ⟨Nat.le_trans h.1 hm, Nat.le_trans h.2.1 hm, Nat.le_trans h.2.2.1 hm, fun s hs => Nat.le_trans (h.2.2.2.1 s hs) hm, fun c hc => (h.2.2.2.2 c hc).le hm⟩
theorem SzJ.up {m : Nat} : ∀ {n : Nat} {j : Js}, SzJ m n j → SzJ m (n + 1) j
 | 0, _, h => h.elim
 | _ + 1, _, h => ⟨h.1, h.2.1, h.2.2.1, h.2.2.2.1, fun c hc => (h.2.2.2.2 c hc).up⟩
theorem alikeE_v (n : Nat) (a b : Tr) (w : World) (L : List Nat) (hL : LL L w) (h1 : RdT (n + 1) L w a) (h2 : RdT (n + 1) L w b) (h : a.er = b.er) : CV Try.prog 14 [.agg #[.int .i64 a.kind, .int .i64 a.num, .string a.text, a.nv, a.iv], .agg #[.int .i64 b.kind, .int .i64 b.num, .string b.text, b.nv, b.iv]] w fun v W => v = .bool true := by
 have e := alike_v n a b w L hL h1 h2
 rw [eqJ_t h] at e
 exact e
section
variable {P : Program} {N : Nat} {Q : Exit → Act → World → Prop} {f : Fl} {w : World}
theorem WC.loop4 {α β γ δ : Type} {c : Code} (fr : α → β → γ → δ → Fl) (I : α → β → γ → δ → World → Prop) (μ : α → β → γ → δ → Nat) (a0 : α) (b0 : β) (c0 : γ) (d0 : δ) (hs : Sub (fr a0 b0 c0 d0) f) (h0 : I a0 b0 c0 d0 w)
  (round : ∀ (K : Act → World → Prop) a b c' d w, I a b c' d w → (∀ {f' w'} (a' : α) (b' : β) (c'' : γ) (d' : δ), I a' b' c'' d' w' → μ a' b' c'' d' < μ a b c' d → Sub (fr a' b' c'' d') f' → ∀ x, Fr N x f' → K x w') → WC P N c (Exit.then K Q) (fr a b c' d) w) : WC P N (.loop c) Q f w :=
 WC.loop (σ := α × β × γ × δ) (fun s => fr s.1 s.2.1 s.2.2.1 s.2.2.2) (fun s => I s.1 s.2.1 s.2.2.1 s.2.2.2) (fun s => μ s.1 s.2.1 s.2.2.1 s.2.2.2) (a0, b0, c0, d0) hs h0 fun K s w hI hK => round K s.1 s.2.1 s.2.2.1 s.2.2.2 w hI fun a' b' c' d' h1 h2 h3 => hK (a', b', c', d') h1 h2 h3
end
end Go.Proofs.Ytpinidlfcifeeaa
