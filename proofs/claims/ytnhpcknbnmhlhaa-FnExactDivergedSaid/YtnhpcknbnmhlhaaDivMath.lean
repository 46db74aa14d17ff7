/- The first place at which two lists of events differ: plain mathematics. -/
import Derived.Test.YtnhpcknbnmhlhaaEventsKit
namespace Go.Proofs.Ytnhpcknbnmhlhaa
open Go.RowKit
set_option linter.unusedVariables false
namespace Dv
def go : List Vt.E → List Vt.E → Nat → Int
  | [], [], _ => -1
  | x :: F, y :: G, s => if x = y then go F G (s + 1) else s
  | _ :: _, [], s => s
  | [], _ :: _, s => s
def div (F G : List Vt.E) : Int := go F G 0
/-- what Diverged tells: of lists that are too long 0 -/
def told (F G : List Vt.E) : Int := if F.length > 400 ∨ G.length > 400 then 0 else div F G
theorem go_first : ∀ (k : Nat) (F G : List Vt.E) (s : Nat), (∀ i, i < k → F[i]? = G[i]?) → F[k]? ≠ G[k]? → go F G s = ((s + k : Nat) : Int)
  | 0, [], [], _, _, h => absurd rfl h
  | 0, _ :: _, [], s, _, _ => by simp [go]
  | 0, [], _ :: _, s, _, _ => by simp [go]
  | 0, x :: F, y :: G, s, _, h => by
    have h' : ¬ x = y := by simpa using h
    simp [go, h']
  | k + 1, [], [], _, _, h => absurd rfl h
  | k + 1, _ :: _, [], _, h, _ => by have := h 0 (by omega); simp at this
  | k + 1, [], _ :: _, _, h, _ => by have := h 0 (by omega); simp at this
  | k + 1, x :: F, y :: G, s, h, h2 => by
    have h0 : x = y := by simpa using h 0 (by omega)
    have ih := go_first k F G (s + 1) (fun i hi => by simpa using h (i + 1) (by omega)) (by simpa using h2)
    simp only [go, h0, if_true, ih]
    congr 1
    omega
theorem go_self : ∀ (F : List Vt.E) (s : Nat), go F F s = -1
  | [], _ => rfl
  | x :: F, s => by simp [go, go_self F (s + 1)]
/-- as they are read: alike up to k -/
def Upto (F G : List Vt.E) (k : Nat) : Prop := ∀ i, i < k → Rk.at_ Vt.S F i = Rk.at_ Vt.S G i
theorem Upto.get {F G : List Vt.E} {k : Nat} (h : Upto F G k) (h1 : k ≤ F.length) (h2 : k ≤ G.length) : ∀ i, i < k → F[i]? = G[i]? := by
  intro i hi
  have := h i hi
  rw [Rk.at_get _ _ (by omega), Rk.at_get _ _ (by omega)] at this
  rw [List.getElem?_eq_getElem (by omega), List.getElem?_eq_getElem (by omega), this]
theorem Upto.step {F G : List Vt.E} {k : Nat} (h : Upto F G k) (e : Rk.at_ Vt.S F k = Rk.at_ Vt.S G k) : Upto F G (k + 1) := by
  intro i hi
  by_cases c : i < k
  · exact h i c
  · rw [show i = k by omega]; exact e
theorem Upto.differ {F G : List Vt.E} {k : Nat} (h : Upto F G k) (h1 : k < F.length) (h2 : k < G.length) (e : ¬ Rk.at_ Vt.S F k = Rk.at_ Vt.S G k) : div F G = (k : Int) := by
  unfold div
  rw [go_first k F G 0 (h.get (by omega) (by omega)) (fun he => e (by rw [Rk.at_get _ _ h1, Rk.at_get _ _ h2]; rw [List.getElem?_eq_getElem h1, List.getElem?_eq_getElem h2] at he; exact Option.some.inj he))]
  simp
theorem Upto.ended {F G : List Vt.E} {k : Nat} (h : Upto F G k) (h1 : k ≤ F.length) (h2 : k ≤ G.length) (hk : k = F.length ∨ k = G.length) (hne : ¬ F.length = G.length) : div F G = (k : Int) := by
  unfold div
  rw [go_first k F G 0 (h.get h1 h2) (fun he => ?_)]
  · simp
  · rcases hk with hk | hk
    · rw [List.getElem?_eq_none (by omega), List.getElem?_eq_getElem (by omega)] at he; cases he
    · rw [List.getElem?_eq_getElem (by omega), List.getElem?_eq_none (by omega)] at he; cases he
theorem Upto.whole {F G : List Vt.E} {k : Nat} (h : Upto F G k) (h1 : k = F.length) (h2 : k = G.length) : F = G := by
  apply List.ext_getElem? ; intro i
  by_cases c : i < k
  · exact h.get (by omega) (by omega) i c
  · rw [List.getElem?_eq_none (by omega), List.getElem?_eq_none (by omega)]
theorem Upto.alike {F G : List Vt.E} {k : Nat} (h : Upto F G k) (h1 : k = F.length) (h2 : k = G.length) : div F G = -1 := by
  rw [h.whole h1 h2]; exact go_self G 0
theorem div_self (F : List Vt.E) : div F F = -1 := go_self F 0
theorem div_alike (F G : List Vt.E) (h : div F G = -1) : F = G := by
  apply Classical.byContradiction
  intro hne
  have : ∃ k : Nat, F[k]? ≠ G[k]? := Classical.byContradiction fun hh => hne (List.ext_getElem? fun i => Classical.byContradiction fun c => hh ⟨i, c⟩)
  obtain ⟨k, hk⟩ := this
  have hmin : ∃ k : Nat, F[k]? ≠ G[k]? ∧ ∀ i, i < k → F[i]? = G[i]? := by
    induction k using Nat.strongRecOn with
    | _ k ih =>
      by_cases c : ∀ i, i < k → F[i]? = G[i]?
      · exact ⟨k, hk, c⟩
      · simp only [Classical.not_forall] at c
        obtain ⟨i, hi, hc⟩ := c
        exact ih i hi hc
  obtain ⟨k, h1, h2⟩ := hmin
  have := go_first k F G 0 h2 h1
  unfold div at h
  omega
end Dv
end Go.Proofs.Ytnhpcknbnmhlhaa
