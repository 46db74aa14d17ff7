/- The walk of codeOfBytes: an error's code, by errors.As. -/
import Derived.Test.YtoilomknfheboafDoorAsWalks
import Derived.WalkSpells
import Derived.WalkLawsBesides
namespace Go.Proofs.YtoilomknfheboafDoor
open Go.RowKit
set_option linter.unusedVariables false

/-- the package-level variable that errors.As reads -/
def HasErr (w : World) : Prop := w.cell? ⟨0, 0, none⟩ = some (.iface 59 (.agg #[.pointer (some ⟨1, 30, none⟩)]))
theorem HasErr.pos {w : World} (h : HasErr w) : 0 < w.heap.size := by
  unfold HasErr at h
  rcases Nat.eq_zero_or_pos w.heap.size with h0 | h1
  · simp [World.cell?, h0] at h
  · exact h1
theorem HasErr.below {w w' : World} {B : Nat} (h : HasErr w) (hB : 0 < B) (hb : Below B w w') : HasErr w' := by
  unfold HasErr
  rw [hb.cell (p := ⟨0, 0, none⟩) hB]; exact h

/-- an error of bytes by its code -/
def errv (c : Int) : Value := if c = 0 then .nilIface else .iface 38 (.agg #[.int .i64 c])

set_option maxHeartbeats 1000000 in
theorem codeOf_nil (w : World) :
    Calls Tryd.prog 10 #[.nilIface] w fun e w' => e = .returned (.int .i64 0) ∧ Below w.heap.size w w' := by
  have HB := fun o => ((Below.refl w.heap.size w).alloc (Nat.le_refl _) o)
  go_enter Tryd.func10, Tryd.ntmps10
  go_wp2_with (go_at_call 14; refine (as_nil _ _).mono ?_; rintro e w' ⟨rfl, rfl⟩)
  go_ret
  exact ⟨rfl, HB _⟩

/-- errors.As of a byteFault, said of what is behind it -/
theorem as_hit2 (c : Int) (tb : Nat) (old : Value) (w : World) (hg : HasErr w) (ht0 : w.cell? ⟨tb, 0, none⟩ = some old) (hf0 : w.frozen? ⟨tb, 0, none⟩ = false) :
    Calls Tryd.prog 14 #[.iface 38 (.agg #[.int .i64 c]), .iface 42 (.pointer (some ⟨tb, 0, none⟩))] w fun ev w' => ev = .returned (.bool true) ∧ w'.cell? ⟨tb, 0, none⟩ = some (.int .i64 c) ∧ Below tb w w' := by
  have htl : tb < w.heap.size := by
    rcases Nat.lt_or_ge tb w.heap.size with h | h
    · exact h
    · simp [World.cell?, Array.getElem?_eq_none h] at ht0
  refine (as_hit c tb old w hg ht0 hf0).mono ?_
  rintro e w' ⟨rfl, rfl⟩
  refine ⟨rfl, ?_, ?_⟩
  · refine World.cell?_setCell_same _ _ _ (u := old) ?_
    rw [World.cell?_alloc_lt _ _ ⟨tb, 0, none⟩ (by simp; omega), World.cell?_alloc_lt _ _ ⟨tb, 0, none⟩ (by simp; omega), World.cell?_alloc_lt _ _ ⟨tb, 0, none⟩ (by simp; omega), World.cell?_alloc_lt _ _ ⟨tb, 0, none⟩ htl]
    exact ht0
  · exact (((((Below.refl tb w).alloc (by omega) _).alloc (by simp; omega) _).alloc (by simp; omega) _).alloc (by simp; omega) _).setCell (Nat.le_refl _) _

set_option maxHeartbeats 1000000 in
theorem codeOf_hit (c : Int) (w : World) (hg : HasErr w) :
    Calls Tryd.prog 10 #[.iface 38 (.agg #[.int .i64 c])] w fun e w' => e = .returned (.int .i64 c) ∧ Below w.heap.size w w' := by
  have HB : Hid (∀ o, Below w.heap.size w (w.alloc o)) := fun o => ((Below.refl w.heap.size w).alloc (Nat.le_refl _) o)
  have hp := hg.pos
  have HG : Hid (∀ o, HasErr (w.alloc o)) := fun o => hg.below hp (HB.out o)
  go_enter Tryd.func10, Tryd.ntmps10
  go_wp2_with fail
  refine (as_hit2 c w.heap.size (.int .i64 0) _ (HG.out _) (by simp) (by simp)).mono ?_
  rintro e w1 ⟨rfl, hc1, hb1⟩
  have HE : Hid (Below w.heap.size w w1) := (HB.out _).trans hb1
  clear hb1
  go_wp2
  go_ret
  exact ⟨rfl, HE.out⟩

theorem codeOf_any (c : Int) (w : World) (hg : HasErr w) :
    Calls Tryd.prog 10 #[errv c] w fun e w' => e = .returned (.int .i64 c) ∧ Below w.heap.size w w' := by
  unfold errv
  split
  · rename_i h; subst h; exact codeOf_nil w
  · exact codeOf_hit c w hg

end Go.Proofs.YtoilomknfheboafDoor
