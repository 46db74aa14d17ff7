/- The walk of joinTexts: two texts put together with copy. -/
import Derived.Test.YtkjmcedlnfnccaaDoorProg
import Derived.Test.YtkjmcedlnfnccaaDoorCopy8
import Derived.WalkSpells
import Derived.WalkLawsBesides
namespace Go.Proofs.YtkjmcedlnfnccaaDoor
open Go.RowKit
set_option linter.unusedVariables false

set_option maxHeartbeats 1000000 in
theorem join_none (a : ByteArray) (w : World) (ha : a.size ≤ 1073741824) :
    Calls Tryd.prog 83 #[.string a, .string ByteArray.empty] w fun e w' => e = .returned (.string a) ∧ Below w.heap.size w w' := by
  obtain ⟨i0, hi, hz0, hz1, hz2⟩ := info_parts Tryd.infoU8
  go_enter Tryd.func83, Tryd.ntmps83
  go_wp2_with (at_make; refine wpList_make8 _ rfl _ _ 22 rfl 5 i0 Tryd.underlying22 hi hz0 hz1 hz2 a.size rfl rfl ?c1 ?_)
  case c1 => omega
  intro w1 hr1 hb1 hs1
  obtain ⟨w2, hc2, hr2, hb2, hs2⟩ := copy8_run (P := Tryd.prog) 22 9 3 5 Tryd.underlying22 size8 w.heap.size 0 a.size a.size a _ hr1 (by omega) (by simp)
  have e2 : List.take 0 (List.replicate a.size (0 : Int)) ++ nums a ++ List.drop (0 + a.size) (List.replicate a.size 0) = nums a := by simp
  rw [e2] at hr2
  obtain ⟨w3, hc3, hr3, hb3, hs3⟩ := copy8_run (P := Tryd.prog) 22 9 3 5 Tryd.underlying22 size8 w.heap.size 0 0 0 ByteArray.empty _ hr2 (by simp) (by simp)
  have e3 : List.take 0 (nums a) ++ nums ByteArray.empty ++ List.drop (0 + ByteArray.empty.size) (nums a) = nums a := by simp [nums]
  rw [e3] at hr3
  have ht := row8_text (P := Tryd.prog) hr3 22 9 5 Tryd.underlying22 Tryd.underlying5 Tryd.underlying9 a.size a.size (by rw [nums_length]; exact Nat.le_refl _)
  have HB : Hid (Below w.heap.size w w3) := (hb1.trans hb2).trans hb3
  have HT : Hid (strOfNums ((nums a).take a.size) = a) := by
    show strOfNums ((nums a).take a.size) = a
    rw [List.take_of_length_le (by rw [nums_length]; exact Nat.le_refl _), str_nums]
  clear hb1 hb2 hb3 hr1 hr2 hr3 e2 e3
  go_wp2
  go_ret
  exact ⟨congrArg (fun x => Ending.returned (.string x)) HT.out, HB.out⟩

set_option maxHeartbeats 1000000 in
theorem join_some (a b : ByteArray) (w : World) (ha : a.size ≤ 1073741824) (hb : b.size ≤ 1073741824) (hne : ¬ b = ByteArray.empty) :
    Calls Tryd.prog 83 #[.string a, .string b] w fun e w' => e = .returned (.string (a ++ b)) ∧ Below w.heap.size w w' := by
  obtain ⟨i0, hi, hz0, hz1, hz2⟩ := info_parts Tryd.infoU8
  go_enter Tryd.func83, Tryd.ntmps83
  go_wp2_with (at_make; refine wpList_make8 _ rfl _ _ 22 rfl 5 i0 Tryd.underlying22 hi hz0 hz1 hz2 (a.size + b.size) rfl rfl ?c1 ?_)
  case c1 => omega
  intro w1 hr1 hb1 hs1
  obtain ⟨w2, hc2, hr2, hb2, hs2⟩ := copy8_run (P := Tryd.prog) 22 9 3 5 Tryd.underlying22 size8 w.heap.size 0 (a.size + b.size) (a.size + b.size) a _ hr1 (by omega) (by simp)
  obtain ⟨w3, hc3, hr3, hb3, hs3⟩ := copy8_run (P := Tryd.prog) 22 9 3 5 Tryd.underlying22 size8 w.heap.size a.size b.size b.size b _ hr2 (by omega) (by simp [nums_length])
  have e3 : (List.take a.size (List.take 0 (List.replicate (a.size + b.size) (0 : Int)) ++ nums a ++ List.drop (0 + a.size) (List.replicate (a.size + b.size) 0)) ++ nums b ++
      List.drop (a.size + b.size) (List.take 0 (List.replicate (a.size + b.size) (0 : Int)) ++ nums a ++ List.drop (0 + a.size) (List.replicate (a.size + b.size) 0))) = nums a ++ nums b := by
    simp [List.drop_append, nums_length]
  rw [e3] at hr3
  have ht := row8_text (P := Tryd.prog) hr3 22 9 5 Tryd.underlying22 Tryd.underlying5 Tryd.underlying9 (a.size + b.size) (a.size + b.size) (by simp [nums_length])
  have HB : Hid (Below w.heap.size w w3) := (hb1.trans hb2).trans hb3
  have HT : Hid (strOfNums ((nums a ++ nums b).take (a.size + b.size)) = a ++ b) := by
    show strOfNums ((nums a ++ nums b).take (a.size + b.size)) = a ++ b
    rw [List.take_of_length_le (by simp [nums_length]), str_join]
  clear hb1 hb2 hb3 hr1 hr2 hr3 e3
  go_wp2
  go_ret
  exact ⟨congrArg (fun x => Ending.returned (.string x)) HT.out, HB.out⟩

theorem join_any (a b : ByteArray) (w : World) (ha : a.size ≤ 1073741824) (hb : b.size ≤ 1073741824) :
    Calls Tryd.prog 83 #[.string a, .string b] w fun e w' => e = .returned (.string (a ++ b)) ∧ Below w.heap.size w w' := by
  by_cases hne : b = ByteArray.empty
  · subst hne
    simpa using join_none a w ha
  · exact join_some a b w ha hb hne

end Go.Proofs.YtkjmcedlnfnccaaDoor
