/- The walks of the four bytes of a CRC, and of both Seal. -/
import Derived.Test.YtfefafmcaepoiaaGreatDoorJoined2
import Derived.Test.YtfefafmcaepoiaaGreatDoorJoined3
import Derived.Test.YtfefafmcaepoiaaGreatDoorJoined4
namespace Go.Proofs.YtfefafmcaepoiaaGreatDoor
open Go.RowKit
set_option linter.unusedVariables false

theorem un4 : Tryz.prog.underlying 130 = some (.array (Tryz.prog.arrayLen 130) (Tryz.prog.elem 130)) := by kernel_rfl
theorem len4 : Tryz.prog.arrayLen 130 = 4 := by kernel_rfl
theorem size4 (w : World) : (sizeOf (Tryz.prog.elem 130)).run Tryz.prog w = .ok 1 w := by kernel_rfl

theorem slice4 (b : Nat) (w : World) :
    (Instr.sliceAt 130 (.pointer (some ⟨b, 0, none⟩)) none none none).run Tryz.prog w = .ok (.slice (some ⟨b, 0, none⟩) 4 4) w := by
  rw [run_sliceAt_array_all w _ _ un4, size4]
  simp [Result.andThen, slicedAt, len4, Addr.add]

/-- four bytes, the lowest first -/
def four (c : Int) : List Int := [c % 256, c / 256 % 256, c / 65536 % 256, c / 16777216 % 256]

theorem four_text {P : Program} (w : World) (t : TypeId) (c : Int) (src dst e : TypeId) (hs : P.underlying src = some (.slice e)) (he : P.underlying e = some (.int .u8)) (hd : P.underlying dst = some .string) (x0 x1 x2 x3 : Int)
    (h0 : x0 = c % 256) (h1 : x1 = c / 256 % 256) (h2 : x2 = c / 65536 % 256) (h3 : x3 = c / 16777216 % 256) :
    (convert src dst (.slice (some ⟨w.heap.size, 0, none⟩) 4 4)).run P (w.alloc (.cells #[.int .u8 x0, .int .u8 x1, .int .u8 x2, .int .u8 x3] t)) = .ok (.string (strOfNums (four c))) (w.alloc (.cells #[.int .u8 x0, .int .u8 x1, .int .u8 x2, .int .u8 x3] t)) := by
  subst h0 h1 h2 h3
  have h := row8_new w t (four c)
  exact row8_text h src dst e hs he hd 4 4 (by simp [four])

set_option maxHeartbeats 1000000 in
theorem sumText_any (c : Int) (w : World) (h0 : 0 ≤ c) (h1 : c ≤ 4294967295) :
    Calls Tryz.prog 72 #[.int .i64 c] w fun e w' => e = .returned (.string (strOfNums (four c))) ∧ Below w.heap.size w w' := by
  have hsl := fun W => slice4 w.heap.size W
  have ht := four_text (P := Tryz.prog) w 130 c 95 9 5 Tryz.underlying95 Tryz.underlying5 Tryz.underlying9 (c % 256) (c / 256 % 256) (c / 256 / 256 % 256) (c / 256 / 256 / 256 % 256) rfl rfl (by omega) (by omega)
  have HB := fun cs => ((Below.refl w.heap.size w).alloc (Nat.le_refl _) (.cells cs 130))
  go_enter Tryz.func72, Tryz.ntmps72
  go_wp2_with fail
  refine wp_loop_rounds 5 ?_
  rw [rounds_succ]
  go_wp2
  rw [rounds_succ]
  go_wp2
  rw [rounds_succ]
  go_wp2
  rw [rounds_succ]
  go_wp2
  rw [rounds_succ]
  go_wp2
  go_ret
  exact ⟨rfl, HB _⟩

set_option maxHeartbeats 1000000 in
theorem l01Four_any (c : Int) (w : World) (h0 : 0 ≤ c) (h1 : c ≤ 4294967295) :
    Calls Tryz.prog 45 #[.int .i64 c] w fun e w' => e = .returned (.string (strOfNums (four c))) ∧ Below w.heap.size w w' := by
  have HB := fun cs => ((Below.refl w.heap.size w).alloc (Nat.le_refl _) (.cells cs 5))
  have ht := four_text (P := Tryz.prog) w 5 c 95 9 5 Tryz.underlying95 Tryz.underlying5 Tryz.underlying9 (c % 256) (c / 256 % 256) (c / 65536 % 256) (c / 16777216) rfl rfl rfl (by omega)
  go_enter Tryz.func45, Tryz.ntmps45
  go_wp2
  go_ret
  exact ⟨rfl, HB _⟩

theorem more_bd (s : ByteArray) : 0 ≤ crcMore 0 s ∧ crcMore 0 s ≤ 4294967295 := by
  unfold crcMore
  split
  · omega
  · have := Cr.more_lt s (c := Int.toNat 0) (by decide)
    omega

theorem more_small (s : ByteArray) (h : s.size ≤ 8000) : crcMore 0 s = (Cr.more 0 s : Int) := if_neg (by omega)

/-- a text with the four bytes of its CRC behind it; the empty text, where it is too long -/
def sealed (s : ByteArray) : ByteArray := if s.size ≤ 7996 then s ++ strOfNums (four (crcMore 0 s)) else ByteArray.empty

theorem four_size (c : Int) : (strOfNums (four c)).size = 4 := by simp [strOfNums_size, four]

set_option maxHeartbeats 1000000 in
theorem implSeal_any (s : ByteArray) (w : World) (hs : s.size ≤ maxLen) :
    Calls Tryz.prog 53 #[.string s] w fun e w' => e = .returned (.string (sealed s)) ∧ Below w.heap.size w w' := by
  have hs0 := hs
  unfold maxLen at hs
  by_cases h : 7996 < s.size
  · have H : Hid (sealed s = ByteArray.empty) := if_neg (by omega)
    go_enter Tryz.func53, Tryz.ntmps53
    go_wp2_with fail
    go_ret
    exact ⟨by rw [H.out]; rfl, Below.refl _ _⟩
  · have H : Hid (sealed s = s ++ strOfNums (four (crcMore 0 s))) := if_pos (by omega)
    have hb := more_bd s
    go_enter Tryz.func53, Tryz.ntmps53
    go_wp2_with fail
    refine (implCrc_any s _ hs0).mono ?_
    rintro e w1 ⟨rfl, hw⟩
    obtain rfl := hw.symm
    go_wp2_with fail
    refine (sumText_any _ _ hb.1 hb.2).mono ?_
    rintro e w2 ⟨rfl, hb2⟩
    go_wp2_with fail
    refine (join_two _ _ _ _ (by omega) (by rw [four_size]; omega)).mono ?_
    rintro e w3 ⟨rfl, hb3⟩
    go_wp2_with fail
    go_ret
    exact ⟨by rw [H.out]; rfl, hb2.trans (hb3.mono hb2.size)⟩

set_option maxHeartbeats 1000000 in
theorem specSeal_any (s : ByteArray) (w : World) (hs : s.size ≤ maxLen) :
    Calls Tryz.prog 21 #[.string s] w fun e w' => e = .returned (.string (sealed s)) ∧ Below w.heap.size w w' := by
  unfold maxLen at hs
  by_cases h : 7996 < s.size
  · have H : Hid (sealed s = ByteArray.empty) := if_neg (by omega)
    go_enter Tryz.func21, Tryz.ntmps21
    go_wp2_with fail
    go_ret
    exact ⟨by rw [H.out]; rfl, Below.refl _ _⟩
  · have hb := more_bd s
    rw [more_small s (by omega)] at hb
    have H : Hid (sealed s = s ++ strOfNums (four (Cr.more 0 s : Int))) := by show sealed s = _; rw [sealed, if_pos (by omega), more_small s (by omega)]
    have h4 := four_size (Cr.more 0 s : Int)
    go_enter Tryz.func21, Tryz.ntmps21
    go_wp2_with fail
    refine (l01Crc_any 0 s _ (by omega) (by omega)).mono ?_
    rintro e w1 ⟨rfl, hw⟩
    obtain rfl := hw.symm
    go_wp2_with fail
    refine (l01Four_any _ _ hb.1 hb.2).mono ?_
    rintro e w2 ⟨rfl, hb2⟩
    go_wp2_with fail
    go_ret
    exact ⟨by rw [H.out]; rfl, hb2⟩

end Go.Proofs.YtfefafmcaepoiaaGreatDoor
