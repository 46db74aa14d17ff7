/- The walk of the specification's PutNum: a slice that it appends to. -/
import Derived.Test.YtfefafmcaepoiaaGreatDoorNumWalks
import Derived.Test.YtfefafmcaepoiaaGreatDoorCopy8
namespace Go.Proofs.YtfefafmcaepoiaaGreatDoor
open Go.RowKit
set_option linter.unusedVariables false

theorem own8_new (w : World) (e : TypeId) : (w.alloc (.cells #[] e)).ownsRow w.heap.size e 1 (.slice (some ⟨w.heap.size, 0, none⟩) 0 0) 0 [] := by
  refine ⟨rfl, .inr ⟨w.heap.size, 0, #[], rfl, Nat.le_refl _, ?_, Nat.le_refl _, Nat.zero_le _, rfl, rfl⟩⟩
  exact (MapKept.heap_alloc w _).1

/-- behind an append the row is still the call's own, and what was there is as it was -/
theorem own8_step {w wr w1 : World} {B : Nat} {e : TypeId} {v : Value} {k : Nat} {xs : List Value} {o : Obj} (hB : B ≤ wr.heap.size) (hb : Below B w wr) (hown : wr.ownsRow B e 1 v k xs) (hg : (wr.alloc o).grownBy w1 v.ownBlock) : Below B w w1 ∧ B ≤ w1.heap.size := by
  have h1 : Below B w (wr.alloc o) := hb.alloc hB o
  have h2 : Below B w w1 := h1.grown hg (by simp; omega) (fun j hj => by
    obtain ⟨_, h⟩ := hown
    rcases h with ⟨rfl, _⟩ | ⟨g, cap, cur, rfl, hg, _⟩
    · simp [Value.ownBlock] at hj
    · simp [Value.ownBlock] at hj; omega)
  exact ⟨h2, Nat.le_trans (by simp; omega) hg.size⟩

set_option maxHeartbeats 1000000 in
theorem specPut_any (n : Int) (w : World) (h1 : -9223372036854775808 ≤ n) (h2 : n ≤ 9223372036854775807) :
    Calls Tryz.prog 44 #[.int .i64 n] w fun e w' => e = .returned (.string (Pn.putNum n)) ∧ Below w.heap.size w w' := by
  have hb := Pn.fold_bd n h1 h2
  obtain ⟨u0, hu0⟩ := Int.eq_ofNat_of_zero_le hb.1
  have HU : Hid (Pn.putNum n = strOfNums (Pn.encU 10 u0)) := by show Pn.putNum n = _; rw [Pn.putNum, hu0]; rfl
  have hu1 : u0 ≤ 18446744073709551615 := by omega
  have HF : Hid (Pn.fold n = (u0 : Int)) := hu0
  clear hu0 hb
  obtain ⟨i0, hi, hz0, hz1, hz2⟩ := info_parts Tryz.infoU8
  go_enter Tryz.func44, Tryz.ntmps44
  go_wp2_with fail
  refine (specFold_any n _ h1 h2).mono ?_
  rintro e w' ⟨rfl, hw⟩
  obtain rfl := hw.symm
  rw [HF.out]
  go_wp2_with fail
  go_loopw [3, 4] (fun u l wr => ∃ (v f : Nat) (xs : List Int), u = .int .u64 v ∧ (v : Int) ≤ 18446744073709551615 ∧ xs.length ≤ 9 ∧ Hid (1 ≤ f ∧ Pn.Left u0 v f xs) ∧
      Hid (wr.ownsRow w.heap.size 5 1 l xs.length (xs.map (Value.int .u8))) ∧ Hid (Below w.heap.size w wr ∧ w.heap.size ≤ wr.heap.size)) (fun u _ _ => (intOf u).toNat)
  case atStart =>
    refine ⟨u0, 10, [], rfl, by omega, by simp, ⟨by omega, Pn.left_start u0 hu1⟩, own8_new _ _, (Below.refl _ _).alloc (Nat.le_refl _) _, by simp⟩
  case round =>
    obtain ⟨v, f, xs, rfl, hv, hx, HL, HR, HB⟩ := hrel
    have hown := HR.out
    by_cases h128 : (128 : Int) ≤ v
    · go_wp2_with (at_builtin; refine wpList_append_own _ rfl _ _ 95 rfl w.heap.size 5 i0 (.int .u8 0) 1 1 Tryz.underlying95 hi hz0 hz1 hz2 rfl (by decide) _ _ _ rfl (hown.alloc _) ⟨wr.heap.size, 0, none⟩ 1 1 [.int .u8 ((v : Int) % 128 + 128)] rfl rfl ?c1 ?c2 ?c3 ?c4 ?c5 ?_)
      try (case c1 => exact cell_one_new _ _ _)
      case c2 => first | rfl | (intro u hu; simp at hu; subst hu; rfl)
      case c3 => unfold maxLen; omega
      case c4 => omega
      case c5 => have := HB.out.2; simp; omega
      · intro v' w1 hown' hgrow _
        have HO : Hid (w1.ownsRow w.heap.size 5 1 v' (xs ++ [(v : Int) % 128 + 128]).length ((xs ++ [(v : Int) % 128 + 128]).map (Value.int .u8))) := by show w1.ownsRow _ _ _ _ _ _; simpa using hown'
        have HE : Hid (Below w.heap.size w w1 ∧ w.heap.size ≤ w1.heap.size) := own8_step HB.out.2 HB.out.1 hown hgrow
        clear hown' hgrow hown
        go_wp2
        go_roundw
        case rel =>
          obtain ⟨g, hg, hL⟩ := Pn.left_step HL.out.2 (by omega)
          exact ⟨v / 128, g, xs ++ [(v : Int) % 128 + 128], by go_num, by omega, Pn.left_pos hL hg, ⟨hg, hL⟩, HO, HE⟩
        case measure => simp [intOf]; omega
    · go_wp2_with (at_builtin; refine wpList_append_own _ rfl _ _ 95 rfl w.heap.size 5 i0 (.int .u8 0) 1 1 Tryz.underlying95 hi hz0 hz1 hz2 rfl (by decide) _ _ _ rfl (hown.alloc _) ⟨wr.heap.size, 0, none⟩ 1 1 [.int .u8 (v : Int)] rfl rfl ?d1 ?d2 ?d3 ?d4 ?d5 ?_)
      try (case d1 => exact cell_one_new _ _ _)
      case d2 => first | rfl | (intro u hu; simp at hu; subst hu; rfl)
      case d3 => unfold maxLen; omega
      case d4 => omega
      case d5 => have := HB.out.2; simp; omega
      · intro v' w1 hown' hgrow _
        have ho : w1.ownsRow w.heap.size 5 1 v' (xs.length + 1) ((xs ++ [(v : Int)]).map (Value.int .u8)) := by simpa using hown'
        have ht := own8_text (P := Tryz.prog) ho 95 9 Tryz.underlying95 Tryz.underlying5 Tryz.underlying9
        have HE : Hid (Below w.heap.size w w1 ∧ w.heap.size ≤ w1.heap.size) := own8_step HB.out.2 HB.out.1 hown hgrow
        have HT : Hid (Pn.putNum n = strOfNums (xs ++ [(v : Int)])) := by
          show Pn.putNum n = _
          rw [HU.out, Pn.left_last HL.out.2 (by omega)]
        clear hown' hgrow hown ho
        go_wp2
        go_ret
        exact ⟨by rw [HT.out]; rfl, HE.out.1⟩
end Go.Proofs.YtfefafmcaepoiaaGreatDoor
