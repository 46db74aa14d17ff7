/- The walks of PutNum, the program's and the specification's. -/
import Derived.Test.YtfefafmcaepoiaaGreatDoorProg
import Derived.Test.YtfefafmcaepoiaaGreatDoorNumMath
import Derived.Test.YtfefafmcaepoiaaGreatDoorRows8
import Derived.WalkKit
import Derived.WalkSpells
import Derived.WalkLawsBesides
namespace Go.Proofs.YtfefafmcaepoiaaGreatDoor
open Go.RowKit
set_option linter.unusedVariables false

theorem ret_u64 {a b : Int} (h : a = b) : Ending.returned (.int .u64 a) = .returned (.int .u64 b) := by rw [h]

set_option maxHeartbeats 400000 in
theorem foldSign_any (n : Int) (w : World) (h1 : -9223372036854775808 ≤ n) (h2 : n ≤ 9223372036854775807) :
    Calls Tryz.prog 79 #[.int .i64 n] w fun e w' => e = .returned (.int .u64 (Pn.fold n)) ∧ w' = w := by
  by_cases hn : 0 ≤ n
  all_goals
    go_enter Tryz.func79, Tryz.ntmps79
    go_wp2
    go_ret
    exact ⟨ret_u64 (by simp only [Pn.fold]; split <;> omega), rfl⟩

set_option maxHeartbeats 400000 in
theorem specFold_any (n : Int) (w : World) (h1 : -9223372036854775808 ≤ n) (h2 : n ≤ 9223372036854775807) :
    Calls Tryz.prog 64 #[.int .i64 n] w fun e w' => e = .returned (.int .u64 (Pn.fold n)) ∧ w' = w := by
  by_cases hn : n < 0
  all_goals
    go_enter Tryz.func64, Tryz.ntmps64
    go_wp2
    go_ret
    exact ⟨ret_u64 (by simp only [Pn.fold]; split <;> omega), rfl⟩

theorem un10 : Tryz.prog.underlying 129 = some (.array (Tryz.prog.arrayLen 129) (Tryz.prog.elem 129)) := by kernel_rfl
theorem len10 : Tryz.prog.arrayLen 129 = 10 := by kernel_rfl
theorem size10 (w : World) : (sizeOf (Tryz.prog.elem 129)).run Tryz.prog w = .ok 1 w := by kernel_rfl

theorem slice10 (b k : Nat) (hk : k ≤ 9) (w : World) :
    (Instr.sliceAt 129 (.pointer (some ⟨b, 0, none⟩)) none (some (.int .i64 ((k : Int) + 1))) none).run Tryz.prog w = .ok (.slice (some ⟨b, 0, none⟩) (k + 1) 10) w := by
  rw [run_sliceAt_array_h w _ _ un10 .i64 _ (by omega) (by rw [len10]; omega), size10]
  have e : ((k : Int) + 1).toNat = k + 1 := by omega
  simp [Result.andThen, slicedAt, len10, e, Addr.add]

set_option maxHeartbeats 1000000 in
theorem implPut_any (n : Int) (w : World) (h1 : -9223372036854775808 ≤ n) (h2 : n ≤ 9223372036854775807) :
    Calls Tryz.prog 71 #[.int .i64 n] w fun e w' => e = .returned (.string (Pn.putNum n)) ∧ Below w.heap.size w w' := by
  have hb := Pn.fold_bd n h1 h2
  obtain ⟨u0, hu0⟩ := Int.eq_ofNat_of_zero_le hb.1
  have HU : Hid (Pn.putNum n = strOfNums (Pn.encU 10 u0)) := by show Pn.putNum n = _; rw [Pn.putNum, hu0]; rfl
  have hu1 : u0 ≤ 18446744073709551615 := by omega
  have HF : Hid (Pn.fold n = (u0 : Int)) := hu0
  clear hu0 hb
  go_enter Tryz.func71, Tryz.ntmps71
  go_wp2_with fail
  refine (foldSign_any n _ h1 h2).mono ?_
  rintro e w' ⟨rfl, rfl⟩
  rw [HF.out]
  go_wp2_with fail
  go_loopw [4, 5] (fun u l wr => ∃ (v f : Nat) (xs ys : List Int), u = .int .u64 v ∧ l = .int .i64 xs.length ∧ (v : Int) ≤ 18446744073709551615 ∧ xs.length ≤ 9 ∧ Hid (1 ≤ f ∧ Pn.Left u0 v f xs) ∧
      Hid (Row8 wr w.heap.size ys ∧ ys.length = 10 ∧ ys.take xs.length = xs) ∧ Hid (Below w.heap.size w wr)) (fun u _ _ => (intOf u).toNat)
  case atStart =>
    refine ⟨u0, 10, [], List.replicate 10 0, rfl, rfl, by omega, by simp, ⟨by omega, Pn.left_start u0 hu1⟩, ⟨row8_new _ _ _, by simp, by simp⟩, ?_⟩
    exact (Below.refl _ _).alloc (Nat.le_refl _) _
  case round =>
    obtain ⟨v, f, xs, ys, rfl, rfl, hv, hx, HL, HR, HB⟩ := hrel
    obtain ⟨k, hk⟩ : ∃ k, k = xs.length := ⟨_, rfl⟩
    rw [← hk] at hx ⊢
    have HK : Hid (k = xs.length) := hk
    clear hk
    have hc := HR.out.1.1 k (by have := HR.out.2.1; omega)
    have hz := HR.out.1.2 k
    by_cases h128 : (128 : Int) ≤ v
    · go_wp2
      go_roundw
      case rel =>
        obtain ⟨g, hg, hL⟩ := Pn.left_step HL.out.2 (by omega)
        have hk := HK.out
        refine ⟨v / 128, g, xs ++ [(v : Int) % 128 + 128], ys.set k ((v : Int) % 128 + 128), by go_num, by simp [hk], by omega, Pn.left_pos hL hg, ⟨hg, hL⟩, ⟨row8_set HR.out.1 k _ (by have := HR.out.2.1; omega), by simpa using HR.out.2.1, ?_⟩, HB.out.setCell (Nat.le_refl _) _⟩
        rw [List.length_append, ← hk]
        exact Pn.take_set ys xs k _ hk (by have := HR.out.2.1; omega) HR.out.2.2
      case measure => simp [intOf]; omega
    · have hR := row8_set HR.out.1 k (v : Int) (by have := HR.out.2.1; omega)
      have ht := row8_text (P := Tryz.prog) hR 95 9 5 Tryz.underlying95 Tryz.underlying5 Tryz.underlying9 (k + 1) 10 (by have := HR.out.2.1; simp; omega)
      have hsl := fun W => slice10 w.heap.size k hx W
      have HT : Hid (Pn.putNum n = strOfNums ((ys.set k (v : Int)).take (k + 1))) := by
        show Pn.putNum n = _
        rw [HU.out, Pn.left_last HL.out.2 (by omega), Pn.take_set ys xs k _ HK.out (by have := HR.out.2.1; omega) HR.out.2.2]
      have HE : Hid (Below w.heap.size w (wr.setCell ⟨w.heap.size, k, none⟩ (.int .u8 (v : Int)))) := HB.out.setCell (Nat.le_refl _) _
      clear hR
      go_wp2
      go_ret
      exact ⟨by rw [HT.out]; rfl, HE.out⟩
end Go.Proofs.YtfefafmcaepoiaaGreatDoor
