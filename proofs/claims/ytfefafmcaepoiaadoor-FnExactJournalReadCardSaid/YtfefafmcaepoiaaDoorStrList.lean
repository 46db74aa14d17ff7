/- Lists of texts in memory. No function of the program here. -/
import Derived.Test.YtfefafmcaepoiaaDoorFsKit
namespace Go.Proofs.YtfefafmcaepoiaaDoor
open Go.RowKit
set_option linter.unusedVariables false
namespace Sk
def tc (T : List ByteArray) : List Value := T.map .string
def at_ (T : List ByteArray) (i : Nat) : ByteArray := T.getD i ByteArray.empty
def Own (w : World) (base : Nat) (e : TypeId) (v : Value) (T : List ByteArray) : Prop := w.ownsRow base e 1 v T.length (tc T)
def View (w : World) (v : Value) (T : List ByteArray) : Prop :=
  ∃ a cap, v = .slice a T.length cap ∧ (0 < T.length → ∃ b, a = some ⟨b, 0, none⟩ ∧ b < w.heap.size ∧ ∀ i, i < T.length → w.cell? ⟨b, i, none⟩ = some (.string (at_ T i)))
theorem tc_get (T : List ByteArray) (i : Nat) (h : i < T.length) : (tc T)[i]? = some (.string (at_ T i)) := by simp [tc, at_, List.getD, h]
theorem Own.form {w : World} {base : Nat} {e : TypeId} {v : Value} {T : List ByteArray} (h : Own w base e v T) : (v = .slice none 0 0 ∧ T = []) ∨ ∃ g c, v = .slice (some ⟨g, 0, none⟩) T.length c ∧ base ≤ g ∧ g < w.heap.size := by
  obtain ⟨_, hn | ⟨g, cap, cur, rfl, hb, hg, _⟩⟩ := h
  · exact .inl ⟨hn.1, List.length_eq_zero_iff.1 hn.2⟩
  · exact .inr ⟨g, cap, rfl, hb, (Array.getElem?_eq_some_iff.1 hg).1⟩
theorem Own.slice {w : World} {base : Nat} {e : TypeId} {v : Value} {T : List ByteArray} (h : Own w base e v T) : ∃ a c, v = .slice a T.length c := by
  rcases h.form with ⟨rfl, rfl⟩ | ⟨g, c, rfl, _⟩
  · exact ⟨_, _, rfl⟩
  · exact ⟨_, _, rfl⟩
theorem Own.at {w : World} {base g cap n : Nat} {e : TypeId} {T : List ByteArray} (h : Own w base e (.slice (some ⟨g, 0, none⟩) n cap) T) (hn : n = T.length) {k : Nat} (hk : k < T.length) :
    w.cell? ⟨g, k, none⟩ = some (.string (at_ T k)) ∧ w.frozen? ⟨g, k, none⟩ = false := by
  subst hn
  exact ⟨(World.ownsRow.cellAt h k (by omega)).trans (tc_get T k hk), World.ownsRow.frozenAt h k⟩
theorem Own.put {w : World} {base g cap n : Nat} {e : TypeId} {T : List ByteArray} (h : Own w base e (.slice (some ⟨g, 0, none⟩) n cap) T) (hn : n = T.length) (k : Nat) (s : ByteArray) :
    Own (w.setCell ⟨g, k, none⟩ (.string s)) base e (.slice (some ⟨g, 0, none⟩) n cap) (T.set k s) := by
  subst hn
  have := (World.ownsRow.stored h k (.string s)).1
  unfold Own
  rw [List.length_set]
  have e : tc (T.set k s) = (tc T).set k (.string s) := by simp [tc, List.map_set]
  rw [e]
  exact this
theorem Own.below {w w' : World} {base : Nat} {e : TypeId} {v : Value} {T : List ByteArray} (h : Own w base e v T) (hB : Below w.heap.size w w') : Own w' base e v T := Fk.owns_below h hB
theorem Own.kept {w w' : World} {base : Nat} {e : TypeId} {v : Value} {T : List ByteArray} {row : Option Nat} (h : Own w base e v T) (hg : w.grownBy w' row) (hne : ∀ k, v.ownBlock = some k → some k ≠ row) : Own w' base e v T := by
  refine World.ownsRow.kept h hg ?_
  cases hv : v.ownBlock with
  | none => exact .inl rfl
  | some k => exact .inr (hne k hv)
theorem Own.view {w : World} {base : Nat} {e : TypeId} {v : Value} {T : List ByteArray} (h : Own w base e v T) : View w v T := by
  rcases h.form with ⟨rfl, rfl⟩ | ⟨g, c, rfl, _, hg⟩
  · exact ⟨_, _, rfl, fun h0 => absurd h0 (Nat.lt_irrefl _)⟩
  · exact ⟨_, _, rfl, fun _ => ⟨g, rfl, hg, fun i hi => (h.at rfl hi).1⟩⟩
theorem View.below {w w' : World} {v : Value} {T : List ByteArray} (h : View w v T) (hB : Below w.heap.size w w') : View w' v T := by
  obtain ⟨a, cap, e, hs⟩ := h
  refine ⟨a, cap, e, fun h0 => ?_⟩
  obtain ⟨b, e', hb, hc⟩ := hs h0
  exact ⟨b, e', Nat.lt_of_lt_of_le hb hB.size, fun i hi => (hB.cell (by exact hb)).trans (hc i hi)⟩
theorem own_nil (w : World) (base : Nat) (e : TypeId) : Own w base e (.slice none 0 0) [] := World.ownsRow_nil w base e 1
theorem own_empty (w : World) (e : TypeId) (base : Nat) (hb : base ≤ w.heap.size) : Own (w.alloc (.cells #[] e)) base e (.slice (some ⟨w.heap.size, 0, none⟩) 0 0) [] :=
  World.ownsRow_lit w #[] 0 hb (by unfold maxLen; omega) rfl
/-- how many bytes the first texts have -/
def tot (T : List ByteArray) : Nat → Nat
  | 0 => 0
  | k + 1 => tot T k + (at_ T k).size
/-- the first texts, one behind the other -/
def cat (T : List ByteArray) : Nat → ByteArray
  | 0 => ByteArray.empty
  | k + 1 => cat T k ++ at_ T k
theorem cat_size (T : List ByteArray) : ∀ k, (cat T k).size = tot T k
  | 0 => rfl
  | k + 1 => by rw [cat, tot, ByteArray.size_append, cat_size T k]
theorem tot_mono (T : List ByteArray) {i j : Nat} (h : i ≤ j) : tot T i ≤ tot T j := by
  induction h with
  | refl => exact Nat.le_refl _
  | step _ ih => exact Nat.le_trans ih (Nat.le_add_right _ _)
theorem tot_more (T : List ByteArray) (k : Nat) (h : k < T.length) : tot T k + (at_ T k).size ≤ tot T T.length := tot_mono T (Nat.succ_le_of_lt h)
theorem view_two (w : World) (a b : ByteArray) (e : TypeId) : View (w.alloc (.cells #[.string a, .string b] e)) (.slice (some ⟨w.heap.size, 0, none⟩) 2 2) [a, b] := by
  refine ⟨_, 2, rfl, fun _ => ⟨w.heap.size, rfl, by simp, fun i hi => ?_⟩⟩
  rw [Fk.cellTop _ _ _ _ _ rfl]
  match i, hi with
  | 0, _ => rfl
  | 1, _ => rfl
theorem cat_two (a b : ByteArray) : cat [a, b] 2 = a ++ b := by
  apply ByteArray.ext
  simp [cat, at_, ByteArray.data_append]
end Sk
end Go.Proofs.YtfefafmcaepoiaaDoor
