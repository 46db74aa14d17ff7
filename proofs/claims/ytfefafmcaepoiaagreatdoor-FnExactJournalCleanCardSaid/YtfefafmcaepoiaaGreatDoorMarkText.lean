/- The walk of the law's own mark: a text of its own for each number. -/
import Derived.Test.YtfefafmcaepoiaaGreatDoorProg
import Derived.Test.YtfefafmcaepoiaaGreatDoorFsKit
import Derived.Test.YtfefafmcaepoiaaGreatDoorJoined3
import Derived.WalkKit
import Derived.WalkSpells
import Derived.WalkLawsBesides
import Derived.BigQuiet
import Derived.Lib.QuietBelow
namespace Go.Proofs.YtfefafmcaepoiaaGreatDoor
open Go.RowKit
set_option linter.unusedVariables false
namespace Fk
/-- the digits of a number, ahead of a text -/
def digs : Nat → Nat → ByteArray → ByteArray
  | 0, _, t => t
  | f + 1, m, t => if m = 0 then t else digs f (m / 10) (strOfNums [48 + (m : Int) % 10] ++ t)
/-- the mark of a number -/
def mt (k : Nat) : ByteArray := { data := #[109] } ++ digs 20 k { data := #[] }
theorem digs_end (f : Nat) (t : ByteArray) : digs f 0 t = t := by cases f <;> simp [digs]
theorem digs_step (f m : Nat) (t : ByteArray) (h : 0 < m) : digs (f + 1) m t = digs f (m / 10) (strOfNums [48 + (m : Int) % 10] ++ t) := by
  have : ¬ m = 0 := by omega
  simp [digs, this]
end Fk

set_option maxHeartbeats 1000000 in
theorem markText_any (k : Nat) (w : World) (hk0 : 0 < k) (hk : k ≤ 100000000) :
    Calls Tryz.prog 57 #[.int .i64 k] w fun e w' => e = .returned (.string (Fk.mt k)) ∧ Below w.heap.size w w' := by
  have hcv : ∀ (wr : World) (x : Int), (convert 95 9 (.slice (some ⟨wr.heap.size, 0, none⟩) 1 1)).run Tryz.prog (wr.alloc (.cells #[.int .u8 x] 5)) = .ok (.string (strOfNums [x])) (wr.alloc (.cells #[.int .u8 x] 5)) := fun wr x =>
    row8_text (row8_new wr 5 [x]) 95 9 5 Tryz.underlying95 Tryz.underlying5 Tryz.underlying9 1 1 (Nat.le_refl _)
  go_enter Tryz.func57, Tryz.ntmps57
  go_wp2_with fail
  go_loopw [0, 3] (fun i s wr => ∃ (m f : Nat) (t : ByteArray), i = .int .i64 m ∧ s = .string t ∧ m ≤ 100000000 ∧ t.size ≤ 20 ∧ Hid (m < 10 ^ f ∧ t.size + f ≤ 20 ∧ Fk.digs f m t = Fk.digs 20 k { data := #[] }) ∧ Below w.heap.size w wr) (fun i _ _ => (intOf i).toNat)
  case atStart => exact ⟨k, 20, _, rfl, rfl, hk, (by decide), ⟨Nat.lt_of_le_of_lt hk (by decide), (by decide), rfl⟩, Below.refl _ _⟩
  case round =>
    obtain ⟨m, f, t, rfl, rfl, hm, ht, HD, bel⟩ := hrel
    by_cases hlt : 0 < m
    · obtain ⟨f', hf'⟩ : ∃ f', Hid (f = f' + 1) := by
        cases f with
        | zero => have := HD.out.1; simp at this; omega
        | succ f' => exact ⟨f', rfl⟩
      have hz : (strOfNums [48 + (m : Int) % 10]).size = 1 := by simp [strOfNums_size]
      have HT : Hid ((strOfNums [48 + (m : Int) % 10] ++ t).size + f' ≤ 20) := by
        show _ ≤ _
        have h1 := HD.out.2.1
        have h2 := hf'.out
        simp [hz]; omega
      go_wp2_with fail
      go_roundw
      case rel =>
        refine ⟨m / 10, f', strOfNums [48 + (m : Int) % 10] ++ t, by go_num, rfl, by omega, ?_, ⟨?_, HT.out, ?_⟩, ?_⟩
        · have := HT.out; omega
        · have h1 := HD.out.1
          rw [hf'.out, Nat.pow_succ] at h1
          exact Nat.div_lt_of_lt_mul (by omega)
        · have h1 := HD.out.2.2
          rw [hf'.out, Fk.digs_step _ _ _ hlt] at h1
          exact h1
        · exact bel.alloc bel.size _
      case measure => simp [intOf]; omega
    · have e : m = 0 := by omega
      have HE : Hid (Fk.mt k = { data := #[109] } ++ t) := by
        show Fk.mt k = _
        unfold Fk.mt
        rw [← HD.out.2.2, e, Fk.digs_end]
      subst e
      go_wp2_with fail
      go_ret
      exact ⟨by rw [HE.out]; rfl, bel⟩

theorem markText_int (n : Int) (k : Nat) (hn : n = k) (w : World) (hk0 : 0 < k) (hk : k ≤ 100000000) :
    Calls Tryz.prog 57 #[.int .i64 n] w fun e w' => e = .returned (.string (Fk.mt k)) ∧ Below w.heap.size w w' := by
  subst hn
  exact markText_any k w hk0 hk
end Go.Proofs.YtfefafmcaepoiaaGreatDoor
