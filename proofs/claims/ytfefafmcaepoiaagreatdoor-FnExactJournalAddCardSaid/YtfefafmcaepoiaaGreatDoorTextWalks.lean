/- The walks of both PutText. -/
import Derived.Test.YtfefafmcaepoiaaGreatDoorNumSpecWalk
import Derived.Test.YtfefafmcaepoiaaGreatDoorJoinWalks
namespace Go.Proofs.YtfefafmcaepoiaaGreatDoor
open Go.RowKit
set_option linter.unusedVariables false

/-- a text with its length ahead of it; the empty text, where it is too long -/
def putText (s : ByteArray) : ByteArray := if s.size ≤ 8000 then Pn.putNum s.size ++ s else ByteArray.empty

set_option maxHeartbeats 1000000 in
theorem implPutText_any (s : ByteArray) (w : World) (hs : s.size ≤ maxLen) :
    Calls Tryz.prog 52 #[.string s] w fun e w' => e = .returned (.string (putText s)) ∧ Below w.heap.size w w' := by
  unfold maxLen at hs
  by_cases h : 8000 < s.size
  · have H : Hid (putText s = ByteArray.empty) := if_neg (by omega)
    go_enter Tryz.func52, Tryz.ntmps52
    go_wp2_with fail
    go_ret
    exact ⟨by rw [H.out]; rfl, Below.refl _ _⟩
  · have H : Hid (putText s = Pn.putNum s.size ++ s) := if_pos (by omega)
    go_enter Tryz.func52, Tryz.ntmps52
    go_wp2_with fail
    refine (implPut_any _ _ (by omega) (by omega)).mono ?_
    rintro e w1 ⟨rfl, hb1⟩
    go_wp2_with fail
    refine (join_two _ _ _ _ (by have := Pn.put_size s.size; omega) (by omega)).mono ?_
    rintro e w2 ⟨rfl, hb2⟩
    go_wp2_with fail
    go_ret
    exact ⟨by rw [H.out]; rfl, hb1.trans (hb2.mono hb1.size)⟩

set_option maxHeartbeats 1000000 in
theorem specPutText_any (s : ByteArray) (w : World) (hs : s.size ≤ maxLen) :
    Calls Tryz.prog 20 #[.string s] w fun e w' => e = .returned (.string (putText s)) ∧ Below w.heap.size w w' := by
  unfold maxLen at hs
  by_cases h : 8000 < s.size
  · have H : Hid (putText s = ByteArray.empty) := if_neg (by omega)
    go_enter Tryz.func20, Tryz.ntmps20
    go_wp2_with fail
    go_ret
    exact ⟨by rw [H.out]; rfl, Below.refl _ _⟩
  · have H : Hid (putText s = Pn.putNum s.size ++ s) := if_pos (by omega)
    go_enter Tryz.func20, Tryz.ntmps20
    go_wp2_with fail
    refine (specPut_any _ _ (by omega) (by omega)).mono ?_
    rintro e w1 ⟨rfl, hb1⟩
    have hp := Pn.put_size s.size
    go_wp2_with fail
    go_ret
    exact ⟨by rw [H.out]; rfl, hb1⟩
end Go.Proofs.YtfefafmcaepoiaaGreatDoor
