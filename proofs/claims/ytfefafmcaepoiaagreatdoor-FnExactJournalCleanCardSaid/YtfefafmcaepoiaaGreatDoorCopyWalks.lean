/- The walk of copyText: a text in memory of its own. -/
import Derived.Test.YtfefafmcaepoiaaGreatDoorJoined3
import Derived.WalkSpells
import Derived.WalkLawsBesides
namespace Go.Proofs.YtfefafmcaepoiaaGreatDoor
open Go.RowKit
set_option linter.unusedVariables false

set_option maxHeartbeats 1000000 in
theorem copyText_any (a : ByteArray) (w : World) (ha : a.size ≤ 1073741824) :
    Calls Tryz.prog 84 #[.string a] w fun e w' => e = .returned (.string a) ∧ Below w.heap.size w w' := by
  obtain ⟨i0, hi, hz0, hz1, hz2⟩ := info_parts Tryz.infoU8
  go_enter Tryz.func84, Tryz.ntmps84
  go_wp2_with (at_make; refine wpList_make8 _ rfl _ _ 95 rfl 5 i0 Tryz.underlying95 hi hz0 hz1 hz2 a.size rfl rfl ?c1 ?_)
  case c1 => omega
  intro w1 hr1 hb1 hs1
  obtain ⟨w2, hc2, hr2, hb2, hs2⟩ := copy8_run (P := Tryz.prog) 95 9 3 5 Tryz.underlying95 size8 w.heap.size 0 a.size a.size a _ hr1 (by omega) (by simp)
  have e2 : List.take 0 (List.replicate a.size (0 : Int)) ++ nums a ++ List.drop (0 + a.size) (List.replicate a.size 0) = nums a := by simp
  rw [e2] at hr2
  have ht := row8_text (P := Tryz.prog) hr2 95 9 5 Tryz.underlying95 Tryz.underlying5 Tryz.underlying9 a.size a.size (by rw [nums_length]; exact Nat.le_refl _)
  have HB : Hid (Below w.heap.size w w2) := hb1.trans hb2
  have HT : Hid (strOfNums ((nums a).take a.size) = a) := by
    show strOfNums ((nums a).take a.size) = a
    rw [List.take_of_length_le (by rw [nums_length]; exact Nat.le_refl _), str_nums]
  clear hb1 hb2 hr1 hr2 e2
  go_wp2
  go_ret
  exact ⟨congrArg (fun x => Ending.returned (.string x)) HT.out, HB.out⟩
end Go.Proofs.YtfefafmcaepoiaaGreatDoor
