/- The walk of what the program does to a map of files: rename. -/
import Derived.Test.YtfefafmcaepoiaaGreatDoorFsCutMethod
namespace Go.Proofs.YtfefafmcaepoiaaGreatDoor
open Go.RowKit Go.Maps
open Go.WideMaps (keyOf_string_mk)
set_option linter.unusedVariables false
set_option linter.unusedSimpArgs false
namespace Fk
theorem box_kept {w1 w2 : World} {b : Nat} {t : TypeId} {fa fb : ByteArray} {fc : Int} (g : (w1.alloc (.cells #[.string fa, .string fb, .int .i64 fc] t)).grownBy w2 (some b)) (hb : b < w1.heap.size) :
    w2.cell? ⟨w1.heap.size, 0, none⟩ = some (.string fa) ∧ w2.cell? ⟨w1.heap.size, 1, none⟩ = some (.string fb) ∧ w2.cell? ⟨w1.heap.size, 2, none⟩ = some (.int .i64 fc) ∧ ∀ j, w2.frozen? ⟨w1.heap.size, j, none⟩ = false := by
  have hne : some w1.heap.size ≠ some b := fun e => by have := Option.some.inj e; omega
  have hB := g.block w1.heap.size (by simp) hne
  refine ⟨?_, ?_, ?_, fun j => ?_⟩
  · rw [World.cell?_of_block hB, cellTop _ _ _ _ _ rfl]; rfl
  · rw [World.cell?_of_block hB, cellTop _ _ _ _ _ rfl]; rfl
  · rw [World.cell?_of_block hB, cellTop _ _ _ _ _ rfl]; rfl
  · rw [World.frozen?_of_block hB, frozTop _ _ _ _ _ rfl]
theorem grownBy_setNew {w w2 : World} {r : Option Nat} (h : w.grownBy w2 r) (g j : Nat) (hg : w.heap.size ≤ g) (u : Value) : w.grownBy (w2.setCell ⟨g, j, none⟩ u) r :=
  ⟨h.os, h.tape, h.output, by simpa [World.setCell] using h.size, fun k hk hr => (Deep.blk_setCell_other w2 ⟨g, j, none⟩ u k (fun e => by simp only at e; omega)).trans (h.block k hk hr)⟩
def resRename (L : List Fl) (name to : ByteArray) : Int ⊕ List Fl :=
  match get L name with
  | none => .inl 6
  | some f => .inr (without (without L name) to ++ [(to, f.2.1, f.2.2)])
theorem opn_two (L : List Fl) (a b : ByteArray) (h : opn L [a, b] = 0) : a.size ≤ 8000 ∧ b.size ≤ 8000 := by
  unfold opn at h
  split at h
  · cases h
  · rename_i hl
    simp at hl
    omega
theorem rename_fit {L : List Fl} (h : right L = true) {name to : ByteArray} {M : List Fl} (hM : resRename L name to = .inr M) (ho : opn L [name, to] = 0) : M.length ≤ 1000 ∧ ∀ f ∈ M, f.1.size ≤ 1073741824 ∧ f.2.1.size ≤ 1073741824 := by
  have h12 := (right_inv L h).1
  have hfit := right_fit h
  have h2 := opn_two L name to ho
  have hw : (without L name).length ≤ L.length := List.length_filter_le _ _
  have hw2 : (without (without L name) to).length ≤ (without L name).length := List.length_filter_le _ _
  unfold resRename at hM
  split at hM
  · cases hM
  · rename_i f hg
    obtain rfl := Sum.inr.inj hM
    refine ⟨by simp; omega, fun x hx => ?_⟩
    rcases List.mem_append.1 hx with hx | hx
    · have := hfit x (without_sub x (without_sub x hx)); omega
    · have e : x = (to, f.2.1, f.2.2) := by simpa using hx
      subst e
      have hf := hfit f (get_some hg).1
      exact ⟨by show to.size ≤ _; omega, by show f.2.1.size ≤ _; omega⟩
theorem rename_short (L : List Fl) (name to : ByteArray) : opn L [name, to] = 0 → ∀ M, resRename L name to = .inr M → M.length ≤ 1000 := fun h0 _ hM => (rename_fit (opn_right L _ h0) hM h0).1
end Fk

end Go.Proofs.YtfefafmcaepoiaaGreatDoor
