/- Lists of texts in memory. No function of the program here. A block of bytes of the call's own: what it holds, a store into it, its text. The walk of the law's own mark: a text of its own for each number. Lists of numbers in memory, and the walks of the law's own functions on them: eq, mark, held. -/
import Derived.Test.YtojdfdlbdpdlkaaGreatDoorFsKit
import Derived.WalkKit
import Derived.Laws.BytesArg
import Derived.Test.YtojdfdlbdpdlkaaGreatDoorProg
import Derived.WalkSpells
import Derived.WalkLawsBesides
import Derived.BigQuiet
import Derived.Lib.QuietBelow
import Derived.BigRegion
import Derived.Deep.RegionWith
namespace Go.Proofs.YtojdfdlbdpdlkaaGreatDoor
open Go.RowKit
set_option linter.unusedVariables false
namespace Sk
def tc (T : List ByteArray) : List Value := T.map .string
def at_ (T : List ByteArray) (i : Nat) : ByteArray := T.getD i ByteArray.empty
def Own (w : World) (base : Nat) (e : TypeId) (v : Value) (T : List ByteArray) : Prop := w.ownsRow base e 1 v T.length (tc T)
def View (w : World) (v : Value) (T : List ByteArray) : Prop :=
  ∃ a cap, v = .slice a T.length cap ∧ (0 < T.length → ∃ b, a = some ⟨b, 0, none⟩ ∧ b < w.heap.size ∧ ∀ i, i < T.length → w.cell? ⟨b, i, none⟩ = some (.string (at_ T i)))
theorem tc_get (T : List ByteArray) (i : Nat) (h : i < T.length) : (tc T)[i]? = some (.string (at_ T i)) := by simp [tc, at_, List.getD, h]
theorem Own.form {w : World} {base : Nat} {e : TypeId} {v : Value} {T : List ByteArray} (h : Own w base e v T) : (v = .slice none 0 0 ∧ T = []) ∨ ∃ g c, v = .slice (some ⟨g, 0, none⟩) T.length c ∧ base ≤ g ∧ g < w.heap.size := by
  obtain ⟨_, hn | ⟨g, cap, cur, rfl, hb, hg, _⟩⟩ := h
  · exact .inl ⟨hn.1, List.length_eq_zero_iff.1 hn.2⟩
  · exact .inr ⟨g, cap, rfl, hb, (Array.getElem?_eq_some_iff.1 hg).1⟩
theorem Own.slice {w : World} {base : Nat} {e : TypeId} {v : Value} {T : List ByteArray} (h : Own w base e v T) : ∃ a c, v = .slice a T.length c := by
  rcases h.form with ⟨rfl, rfl⟩ | ⟨g, c, rfl, _⟩
  · exact ⟨_, _, rfl⟩
  · exact ⟨_, _, rfl⟩
theorem Own.at {w : World} {base g cap n : Nat} {e : TypeId} {T : List ByteArray} (h : Own w base e (.slice (some ⟨g, 0, none⟩) n cap) T) (hn : n = T.length) {k : Nat} (hk : k < T.length) :
    w.cell? ⟨g, k, none⟩ = some (.string (at_ T k)) ∧ w.frozen? ⟨g, k, none⟩ = false := by
  subst hn
  exact ⟨(World.ownsRow.cellAt h k (by omega)).trans (tc_get T k hk), World.ownsRow.frozenAt h k⟩
theorem Own.put {w : World} {base g cap n : Nat} {e : TypeId} {T : List ByteArray} (h : Own w base e (.slice (some ⟨g, 0, none⟩) n cap) T) (hn : n = T.length) (k : Nat) (s : ByteArray) :
    Own (w.setCell ⟨g, k, none⟩ (.string s)) base e (.slice (some ⟨g, 0, none⟩) n cap) (T.set k s) := by
  subst hn
  have := (World.ownsRow.stored h k (.string s)).1
  unfold Own
  rw [List.length_set]
  have e : tc (T.set k s) = (tc T).set k (.string s) := by simp [tc, List.map_set]
  rw [e]
  exact this
theorem Own.below {w w' : World} {base : Nat} {e : TypeId} {v : Value} {T : List ByteArray} (h : Own w base e v T) (hB : Below w.heap.size w w') : Own w' base e v T := Fk.owns_below h hB
theorem Own.kept {w w' : World} {base : Nat} {e : TypeId} {v : Value} {T : List ByteArray} {row : Option Nat} (h : Own w base e v T) (hg : w.grownBy w' row) (hne : ∀ k, v.ownBlock = some k → some k ≠ row) : Own w' base e v T := by
  refine World.ownsRow.kept h hg ?_
  cases hv : v.ownBlock with
  | none => exact .inl rfl
  | some k => exact .inr (hne k hv)
theorem Own.view {w : World} {base : Nat} {e : TypeId} {v : Value} {T : List ByteArray} (h : Own w base e v T) : View w v T := by
  rcases h.form with ⟨rfl, rfl⟩ | ⟨g, c, rfl, _, hg⟩
  · exact ⟨_, _, rfl, fun h0 => absurd h0 (Nat.lt_irrefl _)⟩
  · exact ⟨_, _, rfl, fun _ => ⟨g, rfl, hg, fun i hi => (h.at rfl hi).1⟩⟩
theorem View.below {w w' : World} {v : Value} {T : List ByteArray} (h : View w v T) (hB : Below w.heap.size w w') : View w' v T := by
  obtain ⟨a, cap, e, hs⟩ := h
  refine ⟨a, cap, e, fun h0 => ?_⟩
  obtain ⟨b, e', hb, hc⟩ := hs h0
  exact ⟨b, e', Nat.lt_of_lt_of_le hb hB.size, fun i hi => (hB.cell (by exact hb)).trans (hc i hi)⟩
theorem own_nil (w : World) (base : Nat) (e : TypeId) : Own w base e (.slice none 0 0) [] := World.ownsRow_nil w base e 1
theorem own_empty (w : World) (e : TypeId) (base : Nat) (hb : base ≤ w.heap.size) : Own (w.alloc (.cells #[] e)) base e (.slice (some ⟨w.heap.size, 0, none⟩) 0 0) [] :=
  World.ownsRow_lit w #[] 0 hb (by unfold maxLen; omega) rfl
/-- how many bytes the first texts have -/
def tot (T : List ByteArray) : Nat → Nat
  | 0 => 0
  | k + 1 => tot T k + (at_ T k).size
/-- the first texts, one behind the other -/
def cat (T : List ByteArray) : Nat → ByteArray
  | 0 => ByteArray.empty
  | k + 1 => cat T k ++ at_ T k
theorem cat_size (T : List ByteArray) : ∀ k, (cat T k).size = tot T k
  | 0 => rfl
  | k + 1 => by rw [cat, tot, ByteArray.size_append, cat_size T k]
theorem tot_mono (T : List ByteArray) {i j : Nat} (h : i ≤ j) : tot T i ≤ tot T j := by
  induction h with
  | refl => exact Nat.le_refl _
  | step _ ih => exact Nat.le_trans ih (Nat.le_add_right _ _)
theorem tot_more (T : List ByteArray) (k : Nat) (h : k < T.length) : tot T k + (at_ T k).size ≤ tot T T.length := tot_mono T (Nat.succ_le_of_lt h)
theorem view_two (w : World) (a b : ByteArray) (e : TypeId) : View (w.alloc (.cells #[.string a, .string b] e)) (.slice (some ⟨w.heap.size, 0, none⟩) 2 2) [a, b] := by
  refine ⟨_, 2, rfl, fun _ => ⟨w.heap.size, rfl, by simp, fun i hi => ?_⟩⟩
  rw [Fk.cellTop _ _ _ _ _ rfl]
  match i, hi with
  | 0, _ => rfl
  | 1, _ => rfl
theorem cat_two (a b : ByteArray) : cat [a, b] 2 = a ++ b := by
  apply ByteArray.ext
  simp [cat, at_, ByteArray.data_append]
end Sk
end Go.Proofs.YtojdfdlbdpdlkaaGreatDoor

namespace Go.Proofs.YtojdfdlbdpdlkaaGreatDoor
/-- block b holds the bytes ys, and may be written -/
def Row8 (w : World) (b : Nat) (ys : List Int) : Prop :=
  (∀ i, i < ys.length → w.cell? ⟨b, i, none⟩ = some (.int .u8 (ys.getD i 0))) ∧ ∀ i, w.frozen? ⟨b, i, none⟩ = false

theorem row8_set {w : World} {b : Nat} {ys : List Int} (h : Row8 w b ys) (i : Nat) (x : Int) (hi : i < ys.length) : Row8 (w.setCell ⟨b, i, none⟩ (.int .u8 x)) b (ys.set i x) := by
  refine ⟨fun j hj => ?_, fun j => ?_⟩
  · simp at hj
    by_cases e : j = i
    · subst e
      rw [World.cell?_setCell_same _ _ _ (h.1 j hi)]
      simp [hi]
    · rw [World.cell?_setCell_other _ _ _ _ (by simp), h.1 j hj]
      simp [Ne.symm e]
  · rw [World.frozen?_setCell]; exact h.2 j

theorem row8_new (w : World) (t : TypeId) (ys : List Int) : Row8 (w.alloc (.cells (ys.map (Value.int .u8)).toArray t)) w.heap.size ys := by
  refine ⟨fun i hi => ?_, fun i => World.frozen?_alloc_new _ _ _ _⟩
  rw [World.cell?_alloc_new]
  simp [hi]

/-- the first k of them as a text -/
theorem row8_text {P : Program} {w : World} {b : Nat} {ys : List Int} (h : Row8 w b ys) (src dst e : TypeId) (hs : P.underlying src = some (.slice e)) (he : P.underlying e = some (.int .u8))
    (hd : P.underlying dst = some .string) (k cap : Nat) (hk : k ≤ ys.length) : (convert src dst (.slice (some ⟨b, 0, none⟩) k cap)).run P w = .ok (.string (strOfNums (ys.take k))) w :=
  run_convert_bytes_arg w src e hs he b 0 k cap (ys.take k) (by simp; omega) (fun i hi => by
    rw [show 0 + i = i by omega, h.1 i (by omega)]
    simp [hi]) dst hd

/-- an owned row of bytes as a text -/
theorem own8_text {P : Program} {w : World} {base : Nat} {v : Value} {n : Nat} {xs : List Int} {e : TypeId} (h : w.ownsRow base e 1 v n (xs.map (Value.int .u8))) (src dst : TypeId)
    (hs : P.underlying src = some (.slice e)) (he : P.underlying e = some (.int .u8)) (hd : P.underlying dst = some .string) : (convert src dst v).run P w = .ok (.string (strOfNums xs)) w := by
  obtain ⟨hl, h⟩ := h
  simp at hl
  rcases h with ⟨rfl, rfl⟩ | ⟨g, cap, cur, rfl, _, hb, hn, _, hc, ht⟩
  · have : xs = [] := List.length_eq_zero_iff.1 hl
    subst this
    exact run_convert_bytes_nil w src e hs he 0 0 dst hd
  · refine run_convert_bytes_arg w src e hs he g 0 n cap xs hl (fun i hi => ?_) dst hd
    have e1 : w.cell? ⟨g, 0 + i, none⟩ = cur[i]? := by simp [World.cell?, hb]
    rw [e1]
    have e2 : (cur.toList.take (n * 1))[i]? = cur[i]? := by simp [hi]
    rw [← e2, ht]
    simp [List.getElem?_map, List.getElem?_eq_getElem (show i < xs.length by omega)]
end Go.Proofs.YtojdfdlbdpdlkaaGreatDoor

namespace Go.Proofs.YtojdfdlbdpdlkaaGreatDoor
open Go.RowKit
set_option linter.unusedVariables false
namespace Fk
/-- the digits of a number, ahead of a text -/
def digs : Nat → Nat → ByteArray → ByteArray
  | 0, _, t => t
  | f + 1, m, t => if m = 0 then t else digs f (m / 10) (strOfNums [48 + (m : Int) % 10] ++ t)
/-- the mark of a number -/
def mt (k : Nat) : ByteArray := { data := #[109] } ++ digs 20 k { data := #[] }
theorem digs_end (f : Nat) (t : ByteArray) : digs f 0 t = t := by cases f <;> simp [digs]
theorem digs_step (f m : Nat) (t : ByteArray) (h : 0 < m) : digs (f + 1) m t = digs f (m / 10) (strOfNums [48 + (m : Int) % 10] ++ t) := by
  have : ¬ m = 0 := by omega
  simp [digs, this]
end Fk

end Go.Proofs.YtojdfdlbdpdlkaaGreatDoor

namespace Go.Proofs.YtojdfdlbdpdlkaaGreatDoor
open Go.RowKit
set_option linter.unusedVariables false
set_option linter.unusedSimpArgs false
namespace Ik
def tc (T : List Int) : List Value := T.map (.int .i64)
def at_ (T : List Int) (i : Nat) : Int := T.getD i 0
def Own (w : World) (base : Nat) (e : TypeId) (v : Value) (T : List Int) : Prop := w.ownsRow base e 1 v T.length (tc T)
def View (w : World) (v : Value) (T : List Int) : Prop :=
  ∃ a cap, v = .slice a T.length cap ∧ (0 < T.length → ∃ b o, a = some ⟨b, o, none⟩ ∧ b < w.heap.size ∧ ∀ i, i < T.length → w.cell? ⟨b, o + i, none⟩ = some (.int .i64 (at_ T i)))
theorem tc_get (T : List Int) (i : Nat) (h : i < T.length) : (tc T)[i]? = some (.int .i64 (at_ T i)) := by simp [tc, at_, List.getD, h]
theorem Own.form {w : World} {base : Nat} {e : TypeId} {v : Value} {T : List Int} (h : Own w base e v T) : (v = .slice none 0 0 ∧ T = []) ∨ ∃ g c, v = .slice (some ⟨g, 0, none⟩) T.length c ∧ base ≤ g ∧ g < w.heap.size := by
  obtain ⟨_, hn | ⟨g, cap, cur, rfl, hb, hg, _⟩⟩ := h
  · exact .inl ⟨hn.1, List.length_eq_zero_iff.1 hn.2⟩
  · exact .inr ⟨g, cap, rfl, hb, (Array.getElem?_eq_some_iff.1 hg).1⟩
theorem Own.slice {w : World} {base : Nat} {e : TypeId} {v : Value} {T : List Int} (h : Own w base e v T) : ∃ a c, v = .slice a T.length c := by
  rcases h.form with ⟨rfl, rfl⟩ | ⟨g, c, rfl, _⟩
  · exact ⟨_, _, rfl⟩
  · exact ⟨_, _, rfl⟩
theorem Own.at {w : World} {base g cap n : Nat} {e : TypeId} {T : List Int} (h : Own w base e (.slice (some ⟨g, 0, none⟩) n cap) T) (hn : n = T.length) {k : Nat} (hk : k < T.length) :
    w.cell? ⟨g, k, none⟩ = some (.int .i64 (at_ T k)) ∧ w.frozen? ⟨g, k, none⟩ = false := by
  subst hn
  exact ⟨(World.ownsRow.cellAt h k (by omega)).trans (tc_get T k hk), World.ownsRow.frozenAt h k⟩
theorem Own.put {w : World} {base g cap n : Nat} {e : TypeId} {T : List Int} (h : Own w base e (.slice (some ⟨g, 0, none⟩) n cap) T) (hn : n = T.length) (k : Nat) (s : Int) :
    Own (w.setCell ⟨g, k, none⟩ (.int .i64 s)) base e (.slice (some ⟨g, 0, none⟩) n cap) (T.set k s) := by
  subst hn
  have := (World.ownsRow.stored h k (.int .i64 s)).1
  unfold Own
  rw [List.length_set]
  have e : tc (T.set k s) = (tc T).set k (.int .i64 s) := by simp [tc, List.map_set]
  rw [e]
  exact this
theorem Own.below {w w' : World} {base : Nat} {e : TypeId} {v : Value} {T : List Int} (h : Own w base e v T) (hB : Below w.heap.size w w') : Own w' base e v T := Fk.owns_below h hB
theorem Own.kept {w w' : World} {base : Nat} {e : TypeId} {v : Value} {T : List Int} {row : Option Nat} (h : Own w base e v T) (hg : w.grownBy w' row) (hne : ∀ k, v.ownBlock = some k → some k ≠ row) : Own w' base e v T := by
  refine World.ownsRow.kept h hg ?_
  cases hv : v.ownBlock with
  | none => exact .inl rfl
  | some k => exact .inr (hne k hv)
theorem Own.view {w : World} {base : Nat} {e : TypeId} {v : Value} {T : List Int} (h : Own w base e v T) : View w v T := by
  rcases h.form with ⟨rfl, rfl⟩ | ⟨g, c, rfl, _, hg⟩
  · exact ⟨_, _, rfl, fun h0 => absurd h0 (Nat.lt_irrefl _)⟩
  · exact ⟨_, _, rfl, fun _ => ⟨g, 0, rfl, hg, fun i hi => by rw [Nat.zero_add]; exact (h.at rfl hi).1⟩⟩
theorem View.below {w w' : World} {v : Value} {T : List Int} (h : View w v T) (hB : Below w.heap.size w w') : View w' v T := by
  obtain ⟨a, cap, e, hs⟩ := h
  refine ⟨a, cap, e, fun h0 => ?_⟩
  obtain ⟨b, o, e', hb, hc⟩ := hs h0
  exact ⟨b, o, e', Nat.lt_of_lt_of_le hb hB.size, fun i hi => (hB.cell (by exact hb)).trans (hc i hi)⟩
theorem own_nil (w : World) (base : Nat) (e : TypeId) : Own w base e (.slice none 0 0) [] := World.ownsRow_nil w base e 1
theorem own_empty (w : World) (e : TypeId) (base : Nat) (hb : base ≤ w.heap.size) : Own (w.alloc (.cells #[] e)) base e (.slice (some ⟨w.heap.size, 0, none⟩) 0 0) [] :=
  World.ownsRow_lit w #[] 0 hb (by unfold maxLen; omega) rfl
/-- the marks from k on -/
def marks (k n : Nat) : List Int := (List.range n).map fun i => ((k + i : Nat) : Int)
theorem marks_length (k n : Nat) : (marks k n).length = n := by simp [marks]
theorem marks_at (k n i : Nat) (h : i < n) : at_ (marks k n) i = ((k + i : Nat) : Int) := by simp [at_, marks, List.getD, h]
def part (k : Nat) (T : List Int) (j : Nat) : List Int := marks k j ++ T.drop j
theorem part_none (k : Nat) (T : List Int) : part k T 0 = T := by simp [part, marks]
theorem part_all (k : Nat) (T : List Int) : part k T T.length = marks k T.length := by simp [part]
theorem part_length (k : Nat) (T : List Int) (j : Nat) (h : j ≤ T.length) : (part k T j).length = T.length := by simp [part, marks_length]; omega
theorem part_step (k : Nat) (T : List Int) (j : Nat) (h : j < T.length) : (part k T j).set j (((k + j : Nat) : Int)) = part k T (j + 1) := by
  unfold part
  rw [List.set_append_right _ _ (by rw [marks_length]; exact Nat.le_refl _), marks_length, Nat.sub_self, List.drop_eq_getElem_cons h, List.set_cons_zero]
  simp [marks, List.range_succ]
theorem made (n : Nat) : (madeCells (Value.int .i64 0).cells n).toList = List.replicate n (.int .i64 0) := by
  have e : (Value.int .i64 0).cells = #[.int .i64 0] := rfl
  rw [e]
  apply List.ext_getElem?
  intro i
  by_cases h : i < n <;> simp [madeCells, List.getElem?_replicate, h, Nat.mod_one]
/-- the first numbers, and zeros behind them -/
def fill (T : List Int) (k : Nat) : List Int := T.take k ++ List.replicate (T.length - k) 0
theorem fill_length (T : List Int) (k : Nat) (h : k ≤ T.length) : (fill T k).length = T.length := by simp [fill]; omega
theorem fill_all (T : List Int) : fill T T.length = T := by simp [fill]
theorem fill_step (T : List Int) (k : Nat) (h : k < T.length) : (fill T k).set k (at_ T k) = fill T (k + 1) := by
  unfold fill
  rw [List.set_append_right _ _ (by simp; omega)]
  have e : k - (T.take k).length = 0 := by simp; omega
  rw [e, show T.length - k = (T.length - (k + 1)) + 1 by omega, List.replicate_succ, List.set_cons_zero]
  have e2 : T.take (k + 1) = T.take k ++ [at_ T k] := by rw [List.take_add_one]; simp [at_, List.getD, h]
  rw [e2]
  simp
end Ik
theorem infoI64 : (Tryz.prog.info? 2).map (fun i => (i.zero, i.size, i.bytes)) = some (some (.int .i64 0), 1, 8) := by kernel_rfl


end Go.Proofs.YtojdfdlbdpdlkaaGreatDoor
