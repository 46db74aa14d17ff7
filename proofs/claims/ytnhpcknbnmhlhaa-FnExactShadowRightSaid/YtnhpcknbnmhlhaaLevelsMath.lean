/- Plain mathematics: orders laid into levels, and back in a row. No function of the program here. -/
import Derived.Test.YtnhpcknbnmhlhaaNewMath
namespace Go.Proofs.Ytnhpcknbnmhlhaa
set_option linter.unusedVariables false
set_option linter.unusedSimpArgs false
namespace Nb
/-- the last level has this price -/
def ends (M : List Lv.E) (p : Int) : Prop := 0 < M.length ∧ (Lv.at' M (M.length - 1)).1 = p
instance (M : List Lv.E) (p : Int) : Decidable (ends M p) := by unfold ends; infer_instance
/-- an order put behind levels -/
def addO (M : List Lv.E) (o : Or.E) : List Lv.E :=
  if ends M o.2.2.1 then M.set (M.length - 1) (o.2.2.1, (Lv.at' M (M.length - 1)).2 ++ [o]) else M ++ [(o.2.2.1, [o])]
/-- orders in levels -/
def levels (L : List Or.E) : List Lv.E := L.foldl addO []
theorem levels_none : levels [] = [] := rfl
theorem levels_step (L : List Or.E) (k : Nat) (h : k < L.length) : levels (L.take (k + 1)) = addO (levels (L.take k)) (Ob.at' L k) := by
  unfold levels
  rw [Rk.take_at (S := Or.S) L k h, List.foldl_append]
  rfl
theorem levels_all (L : List Or.E) : levels (L.take L.length) = levels L := by rw [List.take_length]
theorem at_last (M : List Lv.E) (e : Lv.E) : Lv.at' (M ++ [e]) M.length = e := by simp [Lv.at', List.getD]
theorem ends_last (M : List Lv.E) (e : Lv.E) (p : Int) : ends (M ++ [e]) p ↔ e.1 = p := by
  unfold ends
  have h1 : (M ++ [e]).length - 1 = M.length := by simp
  rw [h1, at_last]
  simp
theorem not_ends_none (p : Int) : ¬ ends [] p := by simp [ends]
theorem addO_last (M : List Lv.E) (p : Int) (G : List Or.E) (o : Or.E) (h : o.2.2.1 = p) : addO (M ++ [(p, G)]) o = M ++ [(p, G ++ [o])] := by
  unfold addO
  rw [if_pos ((ends_last M (p, G) _).2 h.symm)]
  have h1 : (M ++ [(p, G)]).length - 1 = M.length := by simp
  rw [h1, at_last, List.set_append_right _ _ (Nat.le_refl _), Nat.sub_self, List.set_cons_zero, h]
theorem addO_new (M : List Lv.E) (o : Or.E) (h : ¬ ends M o.2.2.1) : addO M o = M ++ [(o.2.2.1, [o])] := by
  unfold addO
  rw [if_neg h]
/-- more of one price behind a level of it -/
theorem fold_same (M : List Lv.E) (p : Int) : ∀ (R G : List Or.E), (∀ o ∈ R, o.2.2.1 = p) → R.foldl addO (M ++ [(p, G)]) = M ++ [(p, G ++ R)]
  | [], G, _ => by simp
  | o :: R, G, h => by
    rw [List.foldl_cons, addO_last M p G o (h o (by simp)), fold_same M p R (G ++ [o]) (fun x hx => h x (by simp [hx]))]
    simp
/-- all of one price behind levels that end in another one -/
theorem fold_run (M : List Lv.E) (p : Int) (R : List Or.E) (h : ∀ o ∈ R, o.2.2.1 = p) (hr : R ≠ []) (hM : ¬ ends M p) : R.foldl addO M = M ++ [(p, R)] := by
  cases R with
  | nil => exact absurd rfl hr
  | cons o R =>
    have ho := h o (by simp)
    rw [List.foldl_cons, addO_new M o (by rw [ho]; exact hM), ho, fold_same M p R [o] (fun x hx => h x (by simp [hx]))]
    simp
theorem flat_last (M : List Lv.E) (e : Lv.E) : flat (M ++ [e]) = flat M ++ e.2 := by rw [flat_append]; simp [flat]
theorem split_last (M : List Lv.E) (h : 0 < M.length) : M = M.take (M.length - 1) ++ [Lv.at' M (M.length - 1)] := by
  have := take_at M (M.length - 1) (by omega)
  rw [show M.length - 1 + 1 = M.length by omega, List.take_length] at this
  exact this
theorem flat_addO (M : List Lv.E) (o : Or.E) : flat (addO M o) = flat M ++ [o] := by
  by_cases h : ends M o.2.2.1
  · have e := split_last M h.1
    have h2 := h.2
    obtain ⟨T, hT⟩ : ∃ T, T = M.take (M.length - 1) := ⟨_, rfl⟩
    obtain ⟨x, hx⟩ : ∃ x, x = Lv.at' M (M.length - 1) := ⟨_, rfl⟩
    rw [← hT, ← hx] at e
    rw [← hx] at h2
    obtain ⟨p, G⟩ := x
    rw [e, addO_last T p G o h2.symm, flat_last, flat_last, List.append_assoc]
  · rw [addO_new M o h, flat_last]
theorem fold_flat : ∀ (R : List Or.E) (M : List Lv.E), flat (R.foldl addO M) = flat M ++ R
  | [], M => by simp
  | o :: R, M => by rw [List.foldl_cons, fold_flat R, flat_addO, List.append_assoc]; rfl
theorem flat_levels (L : List Or.E) : flat (levels L) = L := by unfold levels; rw [fold_flat, flat_none, List.nil_append]
theorem addO_length (M : List Lv.E) (o : Or.E) : (addO M o).length ≤ M.length + 1 := by
  unfold addO
  split <;> simp
theorem fold_length : ∀ (R : List Or.E) (M : List Lv.E), (R.foldl addO M).length ≤ M.length + R.length
  | [], M => by simp
  | o :: R, M => by
    rw [List.foldl_cons, List.length_cons]
    have h1 := fold_length R (addO M o)
    have h2 := addO_length M o
    omega
theorem levels_length (L : List Or.E) : (levels L).length ≤ L.length := by have := fold_length L []; simpa [levels] using this
/-- every level has orders, of its price, and another price than the one ahead of it -/
def Neat (M : List Lv.E) : Prop := ∀ i, i < M.length → lvl M i = true
theorem neat_iff (M : List Lv.E) : lvls M = true ↔ Neat M := ⟨fun h i hi => Ob.upTo_inv h i hi, fun h => Ob.upTo_yes h⟩
theorem at_left (M N : List Lv.E) (i : Nat) (h : i < M.length) : Lv.at' (M ++ N) i = Lv.at' M i := by simp [Lv.at', List.getD, List.getElem?_append_left h]
theorem lvl_left (M N : List Lv.E) (i : Nat) (h : i < M.length) : lvl (M ++ N) i = lvl M i := by
  unfold lvl head
  rw [at_left M N i h]
  cases i with
  | zero => rfl
  | succ k => rw [show k + 1 - 1 = k by omega, at_left M N k (by omega)]
theorem lvl_last (M : List Lv.E) (e : Lv.E) : lvl (M ++ [e]) M.length = true ↔ e.2 ≠ [] ∧ ¬ ends M e.1 ∧ prices e = true := by
  unfold lvl head
  rw [at_last]
  have h2 : e.2.length = 0 ↔ e.2 = [] := List.length_eq_zero_iff
  cases hM : M.length with
  | zero => simp [ends, hM]
  | succ k =>
    have e1 : Lv.at' (M ++ [e]) k = Lv.at' M k := at_left M [e] k (by omega)
    rw [show k + 1 - 1 = k by omega, e1]
    have e2 : ends M e.1 ↔ (Lv.at' M k).1 = e.1 := by unfold ends; rw [hM, show k + 1 - 1 = k by omega]; simp
    rw [e2]
    simp only [Bool.and_eq_true, Bool.not_eq_true', decide_eq_false_iff_not, Bool.or_eq_true, ne_eq]
    rw [h2]
    simp [and_assoc]
theorem neat_last (M : List Lv.E) (e : Lv.E) : Neat (M ++ [e]) ↔ Neat M ∧ e.2 ≠ [] ∧ ¬ ends M e.1 ∧ prices e = true := by
  constructor
  · intro h
    refine ⟨fun i hi => ?_, ?_⟩
    · rw [← lvl_left M [e] i hi]; exact h i (by simp; omega)
    · exact (lvl_last M e).1 (h M.length (by simp))
  · rintro ⟨h1, h2⟩ i hi
    by_cases c : i < M.length
    · rw [lvl_left M [e] i c]; exact h1 i c
    · have : i = M.length := by simp at hi; omega
      subst this
      exact (lvl_last M e).2 h2
theorem prices_iff (e : Lv.E) : prices e = true ↔ ∀ o ∈ e.2, o.2.2.1 = e.1 := by
  unfold prices
  rw [upTo_all e.2 (fun o => decide (o.2.2.1 = e.1))]
  simp
/-- levels that are neat are those of their orders -/
theorem levels_flat (M : List Lv.E) (h : Neat M) : levels (flat M) = M := by
  suffices hs : ∀ n (M : List Lv.E), M.length = n → Neat M → levels (flat M) = M from hs _ M rfl h
  intro n
  induction n with
  | zero => intro M hM _; rw [List.eq_nil_of_length_eq_zero hM]; rfl
  | succ n ih =>
    intro M hM hN
    have e := split_last M (by omega)
    obtain ⟨T, hT⟩ : ∃ T, T = M.take (M.length - 1) := ⟨_, rfl⟩
    obtain ⟨x, hx⟩ : ∃ x, x = Lv.at' M (M.length - 1) := ⟨_, rfl⟩
    have hl : T.length = n := by rw [hT, List.length_take]; omega
    rw [← hT, ← hx] at e
    rw [e] at hN ⊢
    obtain ⟨h1, h2, h3, h4⟩ := (neat_last T x).1 hN
    rw [flat_last]
    unfold levels
    rw [List.foldl_append]
    rw [show (flat T).foldl addO [] = T from ih T hl h1, fold_run T x.1 x.2 ((prices_iff x).1 h4) h2 h3]
theorem neat_addO (M : List Lv.E) (o : Or.E) (h : Neat M) : Neat (addO M o) := by
  by_cases c : ends M o.2.2.1
  · have e := split_last M c.1
    have h2 := c.2
    obtain ⟨T, hT⟩ : ∃ T, T = M.take (M.length - 1) := ⟨_, rfl⟩
    obtain ⟨x, hx⟩ : ∃ x, x = Lv.at' M (M.length - 1) := ⟨_, rfl⟩
    rw [← hT, ← hx] at e
    rw [← hx] at h2
    obtain ⟨p, G⟩ := x
    rw [e] at h ⊢
    obtain ⟨n1, n2, n3, n4⟩ := (neat_last T (p, G)).1 h
    rw [addO_last T p G o h2.symm]
    refine (neat_last _ _).2 ⟨n1, by simp, n3, (prices_iff _).2 fun x hx => ?_⟩
    rcases List.mem_append.1 hx with hx | hx
    · exact (prices_iff _).1 n4 x hx
    · rw [List.mem_singleton.1 hx]; exact h2.symm
  · rw [addO_new M o c]
    exact (neat_last _ _).2 ⟨h, by simp, c, (prices_iff _).2 (by simp)⟩
theorem fold_neat : ∀ (R : List Or.E) (M : List Lv.E), Neat M → Neat (R.foldl addO M)
  | [], M, h => h
  | o :: R, M, h => fold_neat R _ (neat_addO M o h)
theorem levels_neat (L : List Or.E) : Neat (levels L) := fold_neat L [] (fun i hi => absurd hi (by simp))
/-- what goes over is alike, and nothing else is -/
theorem alike_side (L : List Or.E) (M : List Lv.E) : levels L = M ↔ lvls M = true ∧ L = flat M := by
  constructor
  · rintro rfl
    exact ⟨(neat_iff _).2 (levels_neat L), (flat_levels L).symm⟩
  · rintro ⟨h1, rfl⟩
    exact levels_flat M ((neat_iff M).1 h1)
/-- an order of an older book hides nothing -/
theorem plain_peaks (L : List Or.E) (h : ∀ o ∈ L, 1 ≤ o.2.2.2.1 ∧ o.2.2.2.1 ≤ 1000) (hp : Ob.plain L = true) : peaks L = true := by
  unfold peaks
  rw [upTo_all L peak]
  unfold Ob.plain at hp
  rw [upTo_all L Ob.okP] at hp
  intro o ho
  have h1 := hp o ho
  have h2 := h o ho
  simp only [Ob.okP, Bool.and_eq_true, decide_eq_true_eq] at h1
  unfold peak
  rw [if_pos h1.1, h1.1, h1.2.1]
  have e1 : o.2.2.2.1 + 0 ≤ 1000 := by omega
  rw [decide_eq_true e1]
  decide
/-- a right older book over there is a right newer one -/
theorem up_right (B A : List Or.E) (n : Int) (h : Ob.right B A n = true) : right (levels B) (levels A) n = true := by
  rw [Ob.right_both, Bool.and_eq_true] at h
  unfold right
  rw [flat_levels, flat_levels, (neat_iff _).2 (levels_neat B), (neat_iff _).2 (levels_neat A), h.2, plain_peaks _ (both_amount h.2) h.1]
  rfl
noncomputable instance : DecidableEq Or.E := fun _ _ => Classical.propDecidable _
noncomputable instance : DecidableEq Lv.E := fun _ _ => Classical.propDecidable _
/-- is it what goes over? -/
noncomputable def alike (B0 A0 : List Or.E) (n0 : Int) (B A : List Lv.E) (n : Int) : Bool := Ob.right B0 A0 n0 && (decide (n0 = n) && (decide (levels B0 = B) && decide (levels A0 = A)))
theorem alike_spec (B0 A0 : List Or.E) (n0 : Int) (B A : List Lv.E) (n : Int) : (right B A n && (Ob.right B0 A0 n0 && (decide (n0 = n) && (decide (B0 = flat B) && decide (A0 = flat A))))) = alike B0 A0 n0 B A n := by
  unfold alike
  rw [Bool.eq_iff_iff]
  simp only [Bool.and_eq_true, decide_eq_true_eq, alike_side]
  constructor
  · rintro ⟨h1, h2, h3, h4, h5⟩
    have := right_inv h1
    exact ⟨h2, h3, ⟨this.1, h4⟩, this.2.1, h5⟩
  · rintro ⟨h2, rfl, ⟨⟨h4, h5⟩, h6, h7⟩⟩
    refine ⟨?_, h2, rfl, h5, h7⟩
    have := up_right B0 A0 n0 h2
    rw [(alike_side B0 B).2 ⟨h4, h5⟩, (alike_side A0 A).2 ⟨h6, h7⟩] at this
    exact this
/-- has an order what only a newer book has? -/
def isNew (o : Or.E) : Bool := !decide (o.2.2.2.2.2.1 = 0) || o.2.2.2.2.2.2.2
/-- the program's look: the Id of the first one, if none was found ahead of it -/
def look (f : Int) (o : Or.E) : Int := if f = 0 ∧ isNew o = true then o.1 else f
/-- the Id of the first one; 0 without -/
def first : List Or.E → Int
  | [] => 0
  | o :: r => if isNew o = true then o.1 else first r
theorem fold_found (L : List Or.E) (f : Int) (h : f ≠ 0) : L.foldl look f = f := by
  induction L with
  | nil => rfl
  | cons o r ih =>
    rw [List.foldl_cons]
    have : look f o = f := by simp [look, h]
    rw [this, ih]
theorem fold_first (L : List Or.E) (h : ∀ o ∈ L, 1 ≤ o.1) : L.foldl look 0 = first L := by
  induction L with
  | nil => rfl
  | cons o r ih =>
    rw [List.foldl_cons]
    by_cases c : isNew o = true
    · have h1 : look 0 o = o.1 := by simp [look, c]
      have h2 := h o (by simp)
      rw [h1, fold_found _ _ (by omega)]
      simp [first, c]
    · have h1 : look 0 o = 0 := by simp [look, c]
      rw [h1, ih (fun x hx => h x (by simp [hx]))]
      simp [first, c]
theorem first_none (L : List Or.E) (h : ∀ o ∈ L, isNew o = false) : first L = 0 := by
  induction L with
  | nil => rfl
  | cons o r ih => simp [first, h o (by simp), ih (fun x hx => h x (by simp [hx]))]
theorem first_zero (L : List Or.E) (h : ∀ o ∈ L, 1 ≤ o.1) (hf : first L = 0) : ∀ o ∈ L, isNew o = false := by
  induction L with
  | nil => simp
  | cons o r ih =>
    by_cases c : isNew o = true
    · have := h o (by simp)
      simp [first, c] at hf
      omega
    · simp [first, c] at hf
      intro x hx
      rcases List.mem_cons.1 hx with rfl | hx
      · simpa using c
      · exact ih (fun y hy => h y (by simp [hy])) hf x hx
theorem first_left (M R : List Or.E) (h : ∀ o ∈ M, isNew o = false) : first (M ++ R) = first R := by
  induction M with
  | nil => rfl
  | cons o r ih => simp [first, h o (by simp), ih (fun x hx => h x (by simp [hx]))]
theorem sideN_ids {n : Int} {buy : Bool} {L : List Or.E} (h : Ob.sideN n buy L = true) : ∀ o ∈ L, 1 ≤ o.1 ∧ o.1 ≤ n - 1 := by
  intro o ho
  obtain ⟨i, hi, e⟩ := List.getElem_of_mem ho
  have := Ob.upTo_inv h i hi
  simp only [Ob.stepN, Ob.okN, Bool.and_eq_true, decide_eq_true_eq, Ob.at'] at this
  rw [Rk.at_get L i hi, e] at this
  exact this.1.1
theorem right_ids {B A : List Lv.E} {n : Int} (h : right B A n = true) : ∀ o ∈ flat B ++ flat A, 1 ≤ o.1 := by
  obtain ⟨_, h1, h2⟩ := both_inv (right_inv h).2.2
  intro o ho
  rcases List.mem_append.1 ho with ho | ho
  · exact (sideN_ids h1 o ho).1
  · exact (sideN_ids h2 o ho).1
theorem right_peaks {B A : List Lv.E} {n : Int} (h : right B A n = true) : ∀ o ∈ flat B ++ flat A, 0 ≤ o.2.2.2.2.2.1 := by
  simp only [right, Bool.and_eq_true] at h
  have := (upTo_all _ peak).1 h.2.2.2
  intro o ho
  have := this o ho
  simp only [peak, Bool.and_eq_true, decide_eq_true_eq] at this
  exact this.1.1
/-- the program's two looks -/
theorem look_both {B A : List Lv.E} {n : Int} (h : right B A n = true) : (flat A).foldl look ((flat B).foldl look 0) = first (flat B ++ flat A) := by
  rw [← List.foldl_append]
  exact fold_first _ (right_ids h)
end Nb
end Go.Proofs.Ytnhpcknbnmhlhaa
