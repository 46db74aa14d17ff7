/- The walks of a new older book: the program's and the specification's. A region that draws its order, walked by what holds of the operations done so far, one operation at a time, whatever the order. No function of the program here. -/
import Derived.Test.YtfagldipjpaceaaJoined4
import Derived.Test.YtfagldipjpaceaaFsKit
import Derived.Orders
import Derived.Deep.RegionLaw
namespace Go.Proofs.Ytfagldipjpaceaa
open Go.RowKit
set_option linter.unusedVariables false
set_option linter.unusedSimpArgs false
set_option maxHeartbeats 1000000 in
theorem oldNew_impl (w : World) : Calls Try.prog 21 #[] w fun e w' => e = .returned (.agg #[.slice none 0 0, .slice none 0 0, .int .i64 1]) ∧ Below w.heap.size w w' := by
  go_enter Try.func21, Try.ntmps21
  go_wp2_with fail
  refine bodyPost_ret (v := .agg #[.slice none 0 0, .slice none 0 0, .int .i64 1]) (by simp [results, Try.results21, go_sem] <;> rfl) rfl ⟨rfl, ?_⟩
  repeat (first | exact Below.refl _ _ | refine Below.alloc ?_ (by simp <;> omega) _ | refine Below.setCell ?_ (by simp <;> omega) _)
set_option maxHeartbeats 1000000 in
theorem oldNew_spec (w : World) : Calls Try.prog 22 #[] w fun e w' => e = .returned (.agg #[.slice none 0 0, .slice none 0 0, .int .i64 1]) ∧ Below w.heap.size w w' := by
  go_enter Try.func22, Try.ntmps22
  go_wp2_with fail
  refine bodyPost_ret (v := .agg #[.slice none 0 0, .slice none 0 0, .int .i64 1]) (by simp [results, Try.results22, go_sem] <;> rfl) rfl ⟨rfl, ?_⟩
  repeat (first | exact Below.refl _ _ | refine Below.alloc ?_ (by simp <;> omega) _ | refine Below.setCell ?_ (by simp <;> omega) _)
theorem Ob.two_nil (w : World) (base : Nat) (e : TypeId) : Ob.Two w base e (.slice none 0 0) (.slice none 0 0) [] [] := ⟨Rk.own_nil _ _ _, Rk.own_nil _ _ _, fun k h => by cases h⟩
end Go.Proofs.Ytfagldipjpaceaa

namespace Go.Proofs.Ytfagldipjpaceaa
set_option linter.unusedVariables false
set_option linter.unusedSimpArgs false
namespace Ri
section
variable {P : Program} {ops : Array Oper} {Q : Exit → Act → World → Prop} {md : Region.Mode}
def left (ops : Array Oper) (l : Array Bool) : Nat := ((List.range ops.size).filter fun i => !l.getD i true).length
theorem ready_mem {l : Array Bool} {i : Nat} (h : i ∈ Region.ready md ops l) : i < ops.size ∧ l.getD i true = false ∧ ∀ o, ops[i]? = some o → ∀ e ∈ o.after, Region.binds md e = true → l.getD e.on false = true := by
  unfold Region.ready at h
  rw [List.mem_filter] at h
  obtain ⟨h1, h2⟩ := h
  simp only [Bool.and_eq_true, Bool.not_eq_true'] at h2
  refine ⟨by simpa using h1, h2.1, fun o ho e he hb => ?_⟩
  have h3 := h2.2
  rw [ho] at h3
  simp only [Option.map_some, Option.getD_some, Array.all_eq_true] at h3
  obtain ⟨k, hk, rfl⟩ := Array.mem_iff_getElem.1 he
  have := h3 k hk
  rw [hb] at this
  simpa using this
/-- what an operation waits for is done -/
theorem dep {l : Array Bool} {i j : Nat} {o : Oper} (h : i ∈ Region.ready md ops l) (ho : ops[i]? = some o) (he : (o.after.toList.any fun e => e.on == j && Region.binds md e) = true) : l.getD j false = true := by
  rw [List.any_eq_true] at he
  obtain ⟨e, h1, h2⟩ := he
  simp only [Bool.and_eq_true, beq_iff_eq] at h2
  have := (ready_mem h).2.2 o ho e (by simpa using h1) h2.2
  rwa [h2.1] at this
theorem was {l : Array Bool} {i j : Nat} (h : (l.setIfInBounds i true).getD j false = true) (hne : j ≠ i) : l.getD j false = true := by
  simp only [Array.getD_eq_getD_getElem?] at h ⊢
  rwa [Array.getElem?_setIfInBounds_ne (Ne.symm hne)] at h
theorem wasf {l : Array Bool} {i j : Nat} (h : (l.setIfInBounds i true).getD j false = false) : l.getD j false = false := by
  by_cases e : j = i
  · subst e
    by_cases hs : j < l.size
    · simp [Array.getD, hs] at h
    · simp [Array.getD, hs]
  · simp only [Array.getD_eq_getD_getElem?] at h ⊢
    rwa [Array.getElem?_setIfInBounds_ne (Ne.symm e)] at h
theorem keep {l : Array Bool} {i j : Nat} (h : l.getD j false = true) : (l.setIfInBounds i true).getD j false = true := by
  by_cases e : j = i
  · subst e
    by_cases hs : j < l.size
    · simp [Array.getD, hs]
    · simp [Array.getD, hs] at h
  · simp only [Array.getD_eq_getD_getElem?] at h ⊢
    rwa [Array.getElem?_setIfInBounds_ne (Ne.symm e)]
theorem not_yet {l : Array Bool} {i : Nat} (h : l.getD i true = false) : l.getD i false = false := by
  by_cases hs : i < l.size
  · simp only [Array.getD, hs, dif_pos] at h ⊢; exact h
  · simp [Array.getD, hs] at h
theorem left_set {l : Array Bool} {i : Nat} (hi : i < ops.size) (hl : l.getD i true = false) : left ops (l.setIfInBounds i true) < left ops l := by
  have hsz : i < l.size := by
    apply Decidable.byContradiction
    intro h
    simp [Array.getD, h] at hl
  unfold left
  have sub : ∀ j, (!(l.setIfInBounds i true).getD j true) = true → (!l.getD j true) = true := by
    intro j hj
    by_cases e : j = i
    · subst e; simp [hl]
    · simp only [Array.getD_eq_getD_getElem?] at hj ⊢
      rwa [Array.getElem?_setIfInBounds_ne (Ne.symm e)] at hj
  have key : ∀ L : List Nat, (L.filter fun j => !(l.setIfInBounds i true).getD j true).length ≤ (L.filter fun j => !l.getD j true).length ∧ (i ∈ L → (L.filter fun j => !(l.setIfInBounds i true).getD j true).length < (L.filter fun j => !l.getD j true).length) := by
    intro L
    induction L with
    | nil => simp
    | cons x r ih =>
      obtain ⟨ih1, ih2⟩ := ih
      by_cases e : x = i
      · subst e
        have a1 : (!(l.setIfInBounds x true).getD x true) = false := by simp [Array.getD, hsz]
        have a2 : (!l.getD x true) = true := by simp [hl]
        simp only [List.filter_cons, a1, a2, if_true, List.length_cons, Bool.false_eq_true, if_false]
        exact ⟨by omega, fun _ => by omega⟩
      · have a1 : (!(l.setIfInBounds i true).getD x true) = (!l.getD x true) := by
          simp only [Array.getD_eq_getD_getElem?]
          rw [Array.getElem?_setIfInBounds_ne (Ne.symm e)]
        simp only [List.filter_cons, a1]
        split
        · simp only [List.length_cons, List.mem_cons]
          exact ⟨by omega, fun h => by have := ih2 (h.resolve_left (fun q => e q.symm)); omega⟩
        · exact ⟨ih1, fun h => ih2 ((List.mem_cons.1 h).resolve_left (fun q => e q.symm))⟩
  exact (key _).2 (by simpa using hi)
theorem op_mono {i : Nat} {K K' : Act → World → Prop} {a : Act} {w : World} (h : ∀ a w, K a w → K' a w) (hh : wpOp P ops Q i K a w) : wpOp P ops Q i K' a w := by
  unfold wpOp at *
  split at hh
  · exact h _ _ hh
  · split at hh
    · rename_i hw
      rw [if_pos hw]
      exact hh.imp (Oper.wp_mono h) id
    · rename_i hw
      rw [if_neg hw]
      exact h _ _ hh
/-- what holds of the operations done so far carries through a region, whatever the order -/
theorem any_inv (J : Array Bool → Act → World → Prop)
    (step : ∀ i l a w, i ∈ Region.ready md ops l → J l a w → wpOp P ops Q i (fun a' w' => J (l.setIfInBounds i true) a' w') a w)
    (done : ∀ l a w, Region.ready md ops l = [] → J l a w → Q .normal a w) :
    ∀ fuel l a w, left ops l ≤ fuel → J l a w → wpAny P md ops Q fuel l a w := by
  intro fuel
  induction fuel with
  | zero =>
    intro l a w hl hJ
    have hr : Region.ready md ops l = [] := by
      rw [List.eq_nil_iff_forall_not_mem]
      intro i hi
      obtain ⟨h1, h2, _⟩ := ready_mem hi
      have := left_set (ops := ops) h1 h2
      omega
    exact ⟨hr, done _ _ _ hr hJ⟩
  | succ n ih =>
    intro l a w hl hJ
    refine ⟨fun hr => done _ _ _ hr hJ, fun i hi => ?_⟩
    obtain ⟨h1, h2, _⟩ := ready_mem hi
    have := left_set (ops := ops) h1 h2
    exact op_mono (fun a w h => ih _ _ _ (by omega) h) (step i l a w hi hJ)
theorem op {i : Nat} {o : Oper} {K : Act → World → Prop} {a : Act} {w : World} (ho : ops[i]? = some o) (hg : o.guard = none) (h : o.wp P a w K Q) : wpOp P ops Q i K a w := by
  unfold wpOp
  rw [ho]
  have hw : Region.wanted o (yielded ops a.tmps) = true := by simp [Region.wanted, hg]
  simp only [hw, if_true]
  exact .inl h
theorem opIf {i : Nat} {o : Oper} {K : Act → World → Prop} {a : Act} {w : World} {E : Prop} (ho : ops[i]? = some o) (hg : o.guard = none) (h : if Region.wanted o (yielded ops a.tmps) = true then o.wp P a w K Q else E) : wpOp P ops Q i K a w := by
  refine op ho hg ?_
  have hw : Region.wanted o (yielded ops a.tmps) = true := by simp [Region.wanted, hg]
  rwa [if_pos hw] at h
/-- nothing is ready: all is done -/
theorem all_done {l : Array Bool} (hr : Region.ready md ops l = []) (hs : ops.size ≤ l.size) (hb : ∀ (i : Nat) (o : Oper), ops[i]? = some o → ∀ e ∈ o.after, Region.binds md e = true → e.on < i) : ∀ i, i < ops.size → l.getD i false = true := by
  intro i
  induction i using Nat.strongRecOn with
  | _ i ih =>
    intro hi
    have hx : i ∉ Region.ready md ops l := by rw [hr]; simp
    unfold Region.ready at hx
    rw [List.mem_filter] at hx
    have hi2 : i < l.size := by omega
    apply Decidable.byContradiction
    intro hf
    apply hx
    refine ⟨by simpa using hi, ?_⟩
    have e1 : l.getD i true = false := by
      simp only [Array.getD, hi2, dif_pos] at hf ⊢
      simpa using hf
    rw [e1, Array.getElem?_eq_getElem hi]
    simp only [Bool.not_false, Bool.true_and, Option.map_some, Option.getD_some, Array.all_eq_true]
    intro k hk
    cases hbd : Region.binds md (ops[i].after[k]) with
    | false => simp
    | true =>
      have h1 := hb i _ (Array.getElem?_eq_getElem hi) (ops[i].after[k]) (Array.getElem_mem hk) hbd
      rw [ih _ h1 (by omega)]
      simp
theorem all_done' {l : Array Bool} (hr : Region.ready md ops l = []) (hs : ops.size ≤ l.size) (hb : ((List.range ops.size).all fun i => ((ops[i]?).map fun o => o.after.toList.all fun e => !Region.binds md e || decide (e.on < i)).getD true) = true) : ∀ i, i < ops.size → l.getD i false = true := by
  refine all_done hr hs fun i o ho e he hbd => ?_
  rw [List.all_eq_true] at hb
  have hi : i < ops.size := by
    apply Decidable.byContradiction
    intro h
    rw [Array.getElem?_eq_none (Nat.le_of_not_lt h)] at ho
    cases ho
  have h1 := hb i (by simpa using hi)
  rw [ho] at h1
  simp only [Option.map_some, Option.getD_some, List.all_eq_true] at h1
  have h2 := h1 e (by simpa using he)
  rw [hbd] at h2
  simpa using h2
end
end Ri
end Go.Proofs.Ytfagldipjpaceaa
