/- Layer 6 (address): what stays as it is: small letters, blanks and signs. -/
import Derived.Test.YtibkkdbjmcongaaDoorAddrK
import Derived.Test.YtibkkdbjmcongaaDoorAddrLawA
namespace Go.Proofs.YtibkkdbjmcongaaDoor
open Go.RowKit
set_option linter.unusedVariables false

theorem low_eq (c x : Int) (hc : c < 65) : (lowI x == c) = (x == c) := by
  rw [Bool.eq_iff_iff, beq_iff_eq, beq_iff_eq]
  unfold lowI
  split <;> omega
theorem low_low (x : Int) : lowI (lowI x) = lowI x := by
  unfold lowI
  split
  · rw [if_neg (by omega)]
  · rfl
theorem low_kind (K : Int → Bool) (h : ∀ x, smlI x = true → K x = true) (g : ∀ x, grtI x = true → K x = true) (x : Int) : K (lowI x) = K x := by
  unfold lowI
  split
  · next e =>
    rw [h (x + 32) (by simp [smlI]; omega), g x (by simp [grtI]; omega)]
  · rfl
theorem low_loc (x : Int) : locI (lowI x) = locI x := low_kind locI (fun x h => by simp [locI, h]) (fun x h => by simp [locI, h]) x
theorem low_host (x : Int) : hostI (lowI x) = hostI x := low_kind hostI (fun x h => by simp [hostI, h]) (fun x h => by simp [hostI, h]) x
theorem low_sp : (spI ∘ lowI) = spI := by
  funext x
  exact low_eq 32 x (by decide)
theorem at_low (l : List Int) : atI (l.map lowI) = atI l := by
  unfold atI
  induction l with
  | nil => rfl
  | cons x r ih => rw [List.map_cons, List.findIdx_cons, List.findIdx_cons, ih, low_eq 64 x (by decide)]
theorem all_low (K : Int → Bool) (h : ∀ x, K (lowI x) = K x) (l : List Int) : (l.map lowI).all K = l.all K := by
  induction l with
  | nil => rfl
  | cons x r ih => rw [List.map_cons, List.all_cons, List.all_cons, ih, h]
theorem made_low (l : List Int) (n : Int) (K : Int → Bool) (h : ∀ x, K (lowI x) = K x) : madeI (l.map lowI) n K = madeI l n K := by
  unfold madeI
  rw [List.length_map, all_low K h]
theorem head_low (l : List Int) (c : Int) (hc : c < 65) : ((l.map lowI).head? == some c) = (l.head? == some c) := by
  cases l with
  | nil => rfl
  | cons x r =>
    have := low_eq c x hc
    simpa using this
theorem dots_low (l : List Int) : dotsI (l.map lowI) = dotsI l := by
  induction l with
  | nil => rfl
  | cons x r ih => rw [List.map_cons, dotsI, dotsI, ih, low_eq 46 x (by decide), head_low r 46 (by decide)]
theorem any_low (o : Option Int) (K : Int → Bool) (h : ∀ x, K (lowI x) = K x) : (o.map lowI).any K = o.any K := by
  cases o with
  | none => rfl
  | some x => exact h x
theorem pedges_low (l : List Int) : pedgesI (l.map lowI) = pedgesI l := by
  have h : ∀ x, dotI (lowI x) = dotI x := fun x => low_eq 46 x (by decide)
  rw [pedgesI, pedgesI, List.head?_map, List.getLast?_map, any_low _ _ h, any_low _ _ h]
theorem edges_low (l : List Int) : edgesI (l.map lowI) = edgesI l := by
  have h : ∀ x, signI (lowI x) = signI x := fun x => by rw [signI, signI, low_eq 46 x (by decide), low_eq 45 x (by decide)]
  rw [edgesI, edgesI, List.head?_map, List.getLast?_map, any_low _ _ h, any_low _ _ h]
theorem has_low (l : List Int) : (l.map lowI).contains 46 = l.contains 46 := by
  induction l with
  | nil => rfl
  | cons x r ih =>
    have h := low_eq 46 x (by decide)
    rw [List.map_cons, List.contains_cons, List.contains_cons, ih, Bool.beq_comm, h, Bool.beq_comm]
theorem mail_low (l : List Int) : mailB (l.map lowI) = mailB l := by
  have h1 : localL ((l.take (atI l)).map lowI) = localL (l.take (atI l)) := by
    rw [localL, localL, made_low _ _ _ low_loc, dots_low, pedges_low]
  have h2 : domainL ((l.drop (atI l + 1)).map lowI) = domainL (l.drop (atI l + 1)) := by
    rw [domainL, domainL, hostL, hostL, made_low _ _ _ low_host, dots_low, edges_low, has_low]
  rw [mailB, mailB, at_low, List.length_map, ← List.map_take, ← List.map_drop, h1, h2]
theorem trim_low (l : List Int) : trimI (l.map lowI) = (trimI l).map lowI := by
  rw [trimI, trimI, ← List.map_reverse, List.dropWhile_map, low_sp, ← List.map_reverse, List.dropWhile_map, low_sp]
theorem dw_idem (p : Int → Bool) (l : List Int) : (l.dropWhile p).dropWhile p = l.dropWhile p := by
  induction l with
  | nil => rfl
  | cons x r ih =>
    rw [List.dropWhile_cons]
    split
    · exact ih
    · next h => rw [List.dropWhile_cons, if_neg h]
/-- Without blanks at its end. -/
def rtI (l : List Int) : List Int := (l.reverse.dropWhile spI).reverse
theorem trim_dr (l : List Int) : trimI l = (rtI l).dropWhile spI := rfl
theorem rt_idem (l : List Int) : rtI (rtI l) = rtI l := by rw [rtI, rtI, List.reverse_reverse, dw_idem]
theorem rt_comm (l : List Int) : (rtI l).dropWhile spI = rtI (l.dropWhile spI) := trimI_eq l
theorem trim_trim (l : List Int) : trimI (trimI l) = trimI l := by
  rw [trim_dr (trimI l), trim_dr l, rt_comm (List.dropWhile spI (rtI l)), dw_idem, ← rt_comm, rt_idem]
theorem trim_pad (l : List Int) : trimI ([32, 32] ++ l ++ [32]) = trimI l := by
  have h : rtI ([32, 32] ++ l ++ [32]) = rtI ([32, 32] ++ l) := by
    rw [rtI, rtI, List.reverse_append]
    rfl
  rw [trim_dr, h, rt_comm, trim_dr, rt_comm]
  rfl
theorem mail_same (s : ByteArray) (h : mailB (trimI (sb s)) = true) : mailB (trimI (sb (lowS (trB s)))) = true ∧ lowS (trB (lowS (trB s))) = lowS (trB s) := by
  have e : sb (lowS (trB s)) = (trimI (sb s)).map lowI := by
    rw [lowS, sb_trB, sb_strOf (low_bytes fun x hx => sb_bytes s x (trimI_mem hx))]
  have e2 : trimI (sb (lowS (trB s))) = (trimI (sb s)).map lowI := by rw [e, trim_low, trim_trim]
  refine ⟨by rw [e2, mail_low]; exact h, ?_⟩
  apply sb_inj
  rw [e, lowS, sb_trB, e2, sb_strOf (low_bytes (low_bytes fun x hx => sb_bytes s x (trimI_mem hx))), List.map_map]
  congr 1
  funext x; exact low_low x
theorem mail_padded (s S : ByteArray) (h : mailB (trimI (sb s)) = true) (hS : sb S = [32, 32] ++ sb (lowS s) ++ [32]) : mailB (trimI (sb S)) = true ∧ lowS (trB S) = lowS (trB s) := by
  have e0 : sb (lowS s) = (sb s).map lowI := by rw [lowS, sb_strOf (low_bytes (sb_bytes s))]
  have e2 : trimI (sb S) = (trimI (sb s)).map lowI := by rw [hS, trim_pad, e0, trim_low]
  have e : sb (lowS (trB s)) = (trimI (sb s)).map lowI := by
    rw [lowS, sb_trB, sb_strOf (low_bytes fun x hx => sb_bytes s x (trimI_mem hx))]
  refine ⟨by rw [e2, mail_low]; exact h, ?_⟩
  apply sb_inj
  rw [e, lowS, sb_trB, e2, sb_strOf (low_bytes (low_bytes fun x hx => sb_bytes s x (trimI_mem hx))), List.map_map]
  congr 1
  funext x; exact low_low x
theorem phone_ok {l f : List Int} (h : phoneS [] false false l = some f) : okLen f = true ∧ f.all digI = true ∧ f.length ≤ 15 := by
  unfold phoneS at h
  cases hd : dialS l with
  | none => rw [hd] at h; cases h
  | some x =>
    obtain ⟨d, p⟩ := x
    rw [hd] at h
    have e : fullS [] false false d p = d := rfl
    simp only [e] at h
    split at h
    · next ho =>
      obtain rfl := Option.some.inj h
      have ho' := ho
      simp only [okLen, Bool.and_eq_true, decide_eq_true_eq] at ho'
      exact ⟨ho, (dial_digits hd).2, ho'.2.1⟩
    · cases h
theorem phone_dial {l f : List Int} {p : Bool} (hd : dialS l = some (f, p)) (h : okLen f = true) : phoneS [] false false l = some f := by
  unfold phoneS
  rw [hd]
  have e : fullS [] false false f p = f := rfl
  simp only [e, h, if_true]
theorem phone_self {f : List Int} (h : okLen f = true) (hd : f.all digI = true) : phoneS [] false false f = some f := phone_dial (p := false) (by rw [dialS, dial_all f [] false hd]; rfl) h
/-- One more digit, and a sign behind it. -/
theorem dial_more {l f : List Int} {c s : Int} (hd : dialS l = some (f, true)) (hc : digI c = true) (hs : sepI s = true) (hn : digI s = false) (hp : s ≠ 43) : dialS (l ++ [c] ++ [s]) = some (f ++ [c], true) := by
  have h : dialS (l ++ [c] ++ [s]) = dialStep (dialStep (dialS l) c) s := by rw [dialS, List.foldl_append, List.foldl_append]; rfl
  rw [h, hd]
  have hp' : (s == 43) = false := by simpa using hp
  simp [dialStep, hc, hs, hn, hp']
end Go.Proofs.YtibkkdbjmcongaaDoor
