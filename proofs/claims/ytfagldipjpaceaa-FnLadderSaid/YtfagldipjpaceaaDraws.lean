/- The walks of the specification's source of draws: whatever it draws lies in its bounds, and it writes into itself alone. -/
import Derived.Test.YtfagldipjpaceaaProg
import Derived.Test.YtfagldipjpaceaaFsKit
import Derived.WalkKit
import Derived.WalkSpells
import Derived.WalkLawsBesides
import Derived.BigRegion
import Derived.BigQuiet
import Derived.Deep.RegionWith
import Derived.Lib.QuietBelow
import Derived.Deep.AppendLies
import Derived.Laws.Bits64
namespace Go.Proofs.Ytfagldipjpaceaa
open Go.RowKit
set_option linter.unusedVariables false
set_option linter.unusedSimpArgs false
namespace Dk
theorem u64_range (n : Int) : 0 ≤ IntKind.u64.wrap n ∧ IntKind.u64.wrap n < 18446744073709551616 := by rw [IntKind.wrap_u64]; omega
theorem bits_range (op : BinOp) (a b : Int) : 0 ≤ bits op .u64 a b ∧ bits op .u64 a b < 18446744073709551616 := u64_range _
/-- the four cells of a source -/
structure At (w : World) (S : Nat) (a : Option Addr) (n c : Nat) (k : Nat) (mix size : Int) : Prop where
  c0 : w.cell? ⟨S, 0, none⟩ = some (.slice a n c)
  c1 : w.cell? ⟨S, 1, none⟩ = some (.int .i64 k)
  c2 : w.cell? ⟨S, 2, none⟩ = some (.int .u64 mix)
  c3 : w.cell? ⟨S, 3, none⟩ = some (.int .i64 size)
  fr : ∀ j, w.frozen? ⟨S, j, none⟩ = false
section
variable {w w' : World} {S : Nat} {a : Option Addr} {n c k : Nat} {mix size : Int}
theorem At.below (h : At w S a n c k mix size) (hS : S < w.heap.size) (hB : Below w.heap.size w w') : At w' S a n c k mix size :=
  ⟨(hB.cell hS).trans h.c0, (hB.cell hS).trans h.c1, (hB.cell hS).trans h.c2, (hB.cell hS).trans h.c3, fun j => (hB.frozen hS).trans (h.fr j)⟩
theorem At.far {r : Option Nat} (h : At w S a n c k mix size) (hS : S < w.heap.size) (hg : w.grownBy w' r) (hr : some S ≠ r) : At w' S a n c k mix size :=
  ⟨(hg.cell_far ⟨S, 0, none⟩ hS hr).trans h.c0, (hg.cell_far ⟨S, 1, none⟩ hS hr).trans h.c1, (hg.cell_far ⟨S, 2, none⟩ hS hr).trans h.c2, (hg.cell_far ⟨S, 3, none⟩ hS hr).trans h.c3, fun j => (hg.frozen_far ⟨S, j, none⟩ hS hr).trans (h.fr j)⟩
theorem At.mixed (h : At w S a n c k mix size) (m : Int) : At (w.setCell ⟨S, 2, none⟩ (.int .u64 m)).drew S a n c k m size where
  c0 := by show (w.setCell _ _).cell? _ = _; rw [World.cell?_setCell_other _ _ _ _ (by simp)]; exact h.c0
  c1 := by show (w.setCell _ _).cell? _ = _; rw [World.cell?_setCell_other _ _ _ _ (by simp)]; exact h.c1
  c2 := World.cell?_setCell_same _ _ _ h.c2
  c3 := by show (w.setCell _ _).cell? _ = _; rw [World.cell?_setCell_other _ _ _ _ (by simp)]; exact h.c3
  fr := fun j => by show (w.setCell _ _).frozen? _ = _; rw [World.frozen?_setCell]; exact h.fr j
theorem At.sized (h : At w S a n c k mix size) (s : Int) : At (w.setCell ⟨S, 3, none⟩ (.int .i64 s)) S a n c k mix s where
  c0 := by rw [World.cell?_setCell_other _ _ _ _ (by simp)]; exact h.c0
  c1 := by rw [World.cell?_setCell_other _ _ _ _ (by simp)]; exact h.c1
  c2 := by rw [World.cell?_setCell_other _ _ _ _ (by simp)]; exact h.c2
  c3 := World.cell?_setCell_same _ _ _ h.c3
  fr := fun j => by rw [World.frozen?_setCell]; exact h.fr j
theorem At.pos (h : At w S a n c k mix size) (k' : Nat) : At (w.setCell ⟨S, 1, none⟩ (.int .i64 (k' : Int))) S a n c k' mix size where
  c0 := by rw [World.cell?_setCell_other _ _ _ _ (by simp)]; exact h.c0
  c1 := World.cell?_setCell_same _ _ _ h.c1
  c2 := by rw [World.cell?_setCell_other _ _ _ _ (by simp)]; exact h.c2
  c3 := by rw [World.cell?_setCell_other _ _ _ _ (by simp)]; exact h.c3
  fr := fun j => by rw [World.frozen?_setCell]; exact h.fr j
end
/-- bytes that lie below B -/
def Bytes (B : Nat) (w : World) (a : Option Addr) (n : Nat) : Prop := ∀ i, i < n → ∃ b o x, a = some ⟨b, o, none⟩ ∧ b < B ∧ (0 ≤ x ∧ x < 256) ∧ w.cell? ⟨b, o + i, none⟩ = some (.int .u8 x)
/-- a source of draws: a block S of its own, over bytes that lie below B -/
def Src (B : Nat) (w : World) (S : Nat) : Prop :=
  ∃ (a : Option Addr) (n c k : Nat) (mix size : Int), B ≤ S ∧ S < w.heap.size ∧ n ≤ 1048576 ∧ k ≤ n ∧ (0 ≤ mix ∧ mix < 18446744073709551616) ∧ (0 ≤ size ∧ size ≤ 12) ∧ At w S a n c k mix size ∧ Bytes B w a n
theorem Bytes.grown {B : Nat} {w w' : World} {a : Option Addr} {n : Nat} {r : Option Nat} (h : Bytes B w a n) (hB : B ≤ w.heap.size) (hg : w.grownBy w' r) (hr : ∀ b, b < B → some b ≠ r) : Bytes B w' a n := by
  intro i hi
  obtain ⟨b, o, x, e, hb, hx, hc⟩ := h i hi
  exact ⟨b, o, x, e, hb, hx, (hg.cell_far ⟨b, o + i, none⟩ (by show b < _; omega) (hr b hb)).trans hc⟩
/-- a source is as it was where memory has grown, but for a block that is neither its own nor below B -/
theorem Src.far {B : Nat} {w w' : World} {S : Nat} {r : Option Nat} (h : Src B w S) (hg : w.grownBy w' r) (hr : some S ≠ r) (hb : ∀ b, b < B → some b ≠ r) : Src B w' S := by
  obtain ⟨a, n, c, k, mix, size, h1, h2, h3, h4, h5, h6, h7, h8⟩ := h
  exact ⟨a, n, c, k, mix, size, h1, Nat.lt_of_lt_of_le h2 hg.size, h3, h4, h5, h6, h7.far h2 hg hr, h8.grown (by omega) hg hb⟩
theorem Src.below {B : Nat} {w w' : World} {S : Nat} (h : Src B w S) (hB : Below w.heap.size w w') : Src B w' S := h.far (Fk.grownBy_below none hB) (by simp) (fun _ _ => by simp)
theorem Src.lt {B : Nat} {w : World} {S : Nat} (h : Src B w S) : B ≤ S ∧ S < w.heap.size := by
  obtain ⟨a, n, c, k, mix, size, h1, h2, _⟩ := h
  exact ⟨h1, h2⟩
end Dk

set_option maxHeartbeats 8000000 in
theorem drawN_any (B S : Nat) (most : Int) (w : World) (hs : Dk.Src B w S) (hmx : most ≤ 9223372036854775807) :
    Calls Try.prog 39 #[.pointer (some ⟨S, 0, none⟩), .int .i64 most] w fun e w' => (∃ r : Int, e = .returned (.int .i64 r) ∧ 0 ≤ r ∧ (1 < most → r < most) ∧ (most ≤ 1 → r = 0)) ∧ Dk.Src B w' S ∧ w.grownBy w' (some S) := by
  by_cases hm : most ≤ 1
  · go_enter Try.func39, Try.ntmps39
    go_wp2_with fail
    go_ret
    exact ⟨⟨0, rfl, Int.le_refl _, fun h => by omega, fun _ => rfl⟩, hs, World.grownBy.refl _ _⟩
  · obtain ⟨a, n, c, k, mix, size, hBS, hSw, hn, hk, ⟨hm0, hm1⟩, ⟨hz0, hz1⟩, A0, hby⟩ := hs
    have HBY := Fk.hide hby
    have hwm : IntKind.u64.wrap most = most := by rw [IntKind.wrap_u64]; omega
    have hmz : (most == 0) = false := by simp; omega
    have r0 := cell_regrown A0.c0
    have r1 := cell_regrown A0.c1
    by_cases hkn : k < n
    · obtain ⟨b, o, x, rfl, hb, ⟨hx0, hx1⟩, cx⟩ := hby k hkn
      clear hby
      have d1 : (k : Int) < (n : Int) := by omega
      have d0 : (0 : Int) ≤ (k : Int) := by omega
      go_enter Try.func39, Try.ntmps39
      go_wp2_with fail
      refine wp_region_quiet_below (by kernel_rfl) (by kernel_rfl) ?_
      repeat (go_big_quiet_step (fail))
      refine wpQuiet_nil ?_
      intro w4 hw'
      obtain ⟨⟨dqw4, osw4⟩, hw''⟩ := hw'
      have bw4 : Below w.heap.size w w4 := by rw [hw'']; exact below_regrown w dqw4 osw4
      clear hw''
      have A4 := A0.below hSw bw4
      have B4 := Fk.hide bw4
      have ex := (bw4.cell (p := ⟨b, o + k, none⟩) (by show b < _; omega)).trans cx
      clear bw4 r0 r1
      have s0 := cell_regrown A4.c0
      have s1 := cell_regrown A4.c1
      have sx := cell_regrown ex
      go_wp2_with fail
      refine wp_region_quiet_below (by kernel_rfl) (by kernel_rfl) ?_
      repeat (go_big_quiet_step (fail))
      refine wpQuiet_nil ?_
      intro w5 hw'
      obtain ⟨⟨dqw5, osw5⟩, hw''⟩ := hw'
      have bw5 : Below w4.heap.size w4 w5 := by rw [hw'']; exact below_regrown w4 dqw5 osw5
      clear hw''
      have hS4 : S < w4.heap.size := Nat.lt_of_lt_of_le hSw B4.out.size
      have A5 := A4.below hS4 bw5
      have G5 : Hid (w.grownBy w5 (some S)) := Fk.grownBy_below (some S) (B4.out.trans (bw5.mono B4.out.size))
      clear bw5 s0 s1 sx ex A4
      have g0 := A5.c0
      have g1 := A5.c1
      have g2 := A5.c2
      have g3 := A5.c3
      have gf := A5.fr
      go_wp2_with fail
      go_region
      obtain ⟨mA, hmA⟩ : ∃ m, m = bits BinOp.xor IntKind.u64 mix (IntKind.u64.wrap (mix * 8192)) := ⟨_, rfl⟩
      have rmA : 0 ≤ mA ∧ mA < 18446744073709551616 := by rw [hmA]; exact Dk.bits_range _ _ _
      rw [← hmA]
      clear hmA
      obtain ⟨x0, hx0⟩ : ∃ x, x = ((w5.setCell ⟨S, 1, none⟩ (.int .i64 ((k : Int) + 1))).setCell ⟨S, 2, none⟩ (.int .u64 mA)).drew := ⟨_, rfl⟩
      have A_x0 : Dk.At x0 S (some ⟨b, o, none⟩) n c (k + 1) mA size := by rw [hx0]; exact (A5.pos (k + 1)).mixed mA
      have G_x0 : Hid (w.grownBy x0 (some S)) := by show w.grownBy _ _; rw [hx0]; exact Fk.grownBy_trans (Fk.grownBy_trans (Fk.grownBy_trans G5.out (Fk.grownBy_setCell _ S _ _)) (Fk.grownBy_setCell _ S _ _)) (Fk.grownBy_below (some S) (Below.drew (Below.refl _ _)))
      rw [← hx0]
      clear hx0 
      clear g0 g1 g2 g3 gf
      have g0 := A_x0.c0
      have g1 := A_x0.c1
      have g2 := A_x0.c2
      have g3 := A_x0.c3
      have gf := A_x0.fr
      go_wp2_with fail
      go_region
      obtain ⟨mB, hmB⟩ : ∃ m, m = bits BinOp.xor IntKind.u64 mA (mA / 128) := ⟨_, rfl⟩
      have rmB : 0 ≤ mB ∧ mB < 18446744073709551616 := by rw [hmB]; exact Dk.bits_range _ _ _
      rw [← hmB]
      clear hmB
      obtain ⟨x1, hx1⟩ : ∃ x, x = ((x0).setCell ⟨S, 2, none⟩ (.int .u64 mB)).drew := ⟨_, rfl⟩
      have A_x1 : Dk.At x1 S (some ⟨b, o, none⟩) n c (k + 1) mB size := by rw [hx1]; exact A_x0.mixed mB
      have G_x1 : Hid (w.grownBy x1 (some S)) := by show w.grownBy _ _; rw [hx1]; exact Fk.grownBy_trans (Fk.grownBy_trans G_x0.out (Fk.grownBy_setCell _ S _ _)) (Fk.grownBy_below (some S) (Below.drew (Below.refl _ _)))
      rw [← hx1]
      clear hx1 g0 g1 g2 g3 gf
      have g0 := A_x1.c0
      have g1 := A_x1.c1
      have g2 := A_x1.c2
      have g3 := A_x1.c3
      have gf := A_x1.fr
      go_wp2_with fail
      go_region
      obtain ⟨mC, hmC⟩ : ∃ m, m = bits BinOp.xor IntKind.u64 mB (IntKind.u64.wrap (mB * 131072)) := ⟨_, rfl⟩
      have rmC : 0 ≤ mC ∧ mC < 18446744073709551616 := by rw [hmC]; exact Dk.bits_range _ _ _
      rw [← hmC]
      clear hmC
      obtain ⟨x2, hx2⟩ : ∃ x, x = ((x1).setCell ⟨S, 2, none⟩ (.int .u64 mC)).drew := ⟨_, rfl⟩
      have A_x2 : Dk.At x2 S (some ⟨b, o, none⟩) n c (k + 1) mC size := by rw [hx2]; exact A_x1.mixed mC
      have G_x2 : Hid (w.grownBy x2 (some S)) := by show w.grownBy _ _; rw [hx2]; exact Fk.grownBy_trans (Fk.grownBy_trans G_x1.out (Fk.grownBy_setCell _ S _ _)) (Fk.grownBy_below (some S) (Below.drew (Below.refl _ _)))
      rw [← hx2]
      clear hx2 g0 g1 g2 g3 gf
      have g0 := A_x2.c0
      have g1 := A_x2.c1
      have g2 := A_x2.c2
      have g3 := A_x2.c3
      have gf := A_x2.fr
      go_wp2_with fail
      go_ret
      have hw3 : wrap64 ((x + mC / 1048576) % most) = (x + mC / 1048576) % most := by
        have h1 := Int.emod_nonneg (x + mC / 1048576) (by omega : most ≠ 0)
        have h2 := Int.emod_lt_of_pos (x + mC / 1048576) (by omega : 0 < most)
        unfold wrap64
        omega
      refine ⟨⟨_, rfl, ?_, fun _ => ?_, fun h => by omega⟩, ⟨(some ⟨b, o, none⟩), n, c, (k + 1), mC, size, hBS, Nat.lt_of_lt_of_le hSw G_x2.out.size, hn, by omega, rmC, ⟨hz0, hz1⟩, A_x2, HBY.out.grown (by omega) G_x2.out (fun b hb h => by have := Option.some.inj h; omega)⟩, G_x2.out⟩
      · show 0 ≤ wrap64 _
        rw [hw3]
        exact Int.emod_nonneg _ (by omega)
      · show wrap64 _ < most
        rw [hw3]
        exact Int.emod_lt_of_pos _ (by omega)
    · clear hby
      have d1 : ¬ (k : Int) < (n : Int) := by omega
      have d0 : (0 : Int) ≤ (k : Int) := by omega
      go_enter Try.func39, Try.ntmps39
      go_wp2_with fail
      refine wp_region_quiet_below (by kernel_rfl) (by kernel_rfl) ?_
      repeat (go_big_quiet_step (fail))
      refine wpQuiet_nil ?_
      intro w4 hw'
      obtain ⟨⟨dqw4, osw4⟩, hw''⟩ := hw'
      have bw4 : Below w.heap.size w w4 := by rw [hw'']; exact below_regrown w dqw4 osw4
      clear hw''
      have A5 := A0.below hSw bw4
      have G5 : Hid (w.grownBy w4 (some S)) := Fk.grownBy_below (some S) bw4
      clear bw4 r0 r1
      have g0 := A5.c0
      have g1 := A5.c1
      have g2 := A5.c2
      have g3 := A5.c3
      have gf := A5.fr
      go_wp2_with fail
      go_region
      obtain ⟨mA, hmA⟩ : ∃ m, m = bits BinOp.xor IntKind.u64 mix (IntKind.u64.wrap (mix * 8192)) := ⟨_, rfl⟩
      have rmA : 0 ≤ mA ∧ mA < 18446744073709551616 := by rw [hmA]; exact Dk.bits_range _ _ _
      rw [← hmA]
      clear hmA
      obtain ⟨x0, hx0⟩ : ∃ x, x = ((w4).setCell ⟨S, 2, none⟩ (.int .u64 mA)).drew := ⟨_, rfl⟩
      have A_x0 : Dk.At x0 S a n c k mA size := by rw [hx0]; exact A5.mixed mA
      have G_x0 : Hid (w.grownBy x0 (some S)) := by show w.grownBy _ _; rw [hx0]; exact Fk.grownBy_trans (Fk.grownBy_trans G5.out (Fk.grownBy_setCell _ S _ _)) (Fk.grownBy_below (some S) (Below.drew (Below.refl _ _)))
      rw [← hx0]
      clear hx0 
      clear g0 g1 g2 g3 gf
      have g0 := A_x0.c0
      have g1 := A_x0.c1
      have g2 := A_x0.c2
      have g3 := A_x0.c3
      have gf := A_x0.fr
      go_wp2_with fail
      go_region
      obtain ⟨mB, hmB⟩ : ∃ m, m = bits BinOp.xor IntKind.u64 mA (mA / 128) := ⟨_, rfl⟩
      have rmB : 0 ≤ mB ∧ mB < 18446744073709551616 := by rw [hmB]; exact Dk.bits_range _ _ _
      rw [← hmB]
      clear hmB
      obtain ⟨x1, hx1⟩ : ∃ x, x = ((x0).setCell ⟨S, 2, none⟩ (.int .u64 mB)).drew := ⟨_, rfl⟩
      have A_x1 : Dk.At x1 S a n c k mB size := by rw [hx1]; exact A_x0.mixed mB
      have G_x1 : Hid (w.grownBy x1 (some S)) := by show w.grownBy _ _; rw [hx1]; exact Fk.grownBy_trans (Fk.grownBy_trans G_x0.out (Fk.grownBy_setCell _ S _ _)) (Fk.grownBy_below (some S) (Below.drew (Below.refl _ _)))
      rw [← hx1]
      clear hx1 g0 g1 g2 g3 gf
      have g0 := A_x1.c0
      have g1 := A_x1.c1
      have g2 := A_x1.c2
      have g3 := A_x1.c3
      have gf := A_x1.fr
      go_wp2_with fail
      go_region
      obtain ⟨mC, hmC⟩ : ∃ m, m = bits BinOp.xor IntKind.u64 mB (IntKind.u64.wrap (mB * 131072)) := ⟨_, rfl⟩
      have rmC : 0 ≤ mC ∧ mC < 18446744073709551616 := by rw [hmC]; exact Dk.bits_range _ _ _
      rw [← hmC]
      clear hmC
      obtain ⟨x2, hx2⟩ : ∃ x, x = ((x1).setCell ⟨S, 2, none⟩ (.int .u64 mC)).drew := ⟨_, rfl⟩
      have A_x2 : Dk.At x2 S a n c k mC size := by rw [hx2]; exact A_x1.mixed mC
      have G_x2 : Hid (w.grownBy x2 (some S)) := by show w.grownBy _ _; rw [hx2]; exact Fk.grownBy_trans (Fk.grownBy_trans G_x1.out (Fk.grownBy_setCell _ S _ _)) (Fk.grownBy_below (some S) (Below.drew (Below.refl _ _)))
      rw [← hx2]
      clear hx2 g0 g1 g2 g3 gf
      have g0 := A_x2.c0
      have g1 := A_x2.c1
      have g2 := A_x2.c2
      have g3 := A_x2.c3
      have gf := A_x2.fr
      go_wp2_with fail
      go_ret
      have hw3 : wrap64 ((mC / 1048576) % most) = (mC / 1048576) % most := by
        have h1 := Int.emod_nonneg (mC / 1048576) (by omega : most ≠ 0)
        have h2 := Int.emod_lt_of_pos (mC / 1048576) (by omega : 0 < most)
        unfold wrap64
        omega
      refine ⟨⟨_, rfl, ?_, fun _ => ?_, fun h => by omega⟩, ⟨a, n, c, k, mC, size, hBS, Nat.lt_of_lt_of_le hSw G_x2.out.size, hn, by omega, rmC, ⟨hz0, hz1⟩, A_x2, HBY.out.grown (by omega) G_x2.out (fun b hb h => by have := Option.some.inj h; omega)⟩, G_x2.out⟩
      · show 0 ≤ wrap64 _
        rw [hw3]
        exact Int.emod_nonneg _ (by omega)
      · show wrap64 _ < most
        rw [hw3]
        exact Int.emod_lt_of_pos _ (by omega)

set_option maxHeartbeats 2000000 in
theorem drawOne_any (B S : Nat) (most : Int) (w : World) (hs : Dk.Src B w S) (hmx : most ≤ 9223372036854775807) :
    Calls Try.prog 31 #[.pointer (some ⟨S, 0, none⟩), .int .i64 most] w fun e w' => (∃ r : Bool, e = .returned (.bool r)) ∧ Dk.Src B w' S ∧ w.grownBy w' (some S) := by
  go_enter Try.func31, Try.ntmps31
  go_wp2_with fail
  refine (drawN_any B S most w hs hmx).mono ?_
  rintro e w1 ⟨⟨r, rfl, _⟩, h1, h2⟩
  have H1 := Fk.hide h1
  have H2 := Fk.hide h2
  clear h1 h2
  go_wp2_with fail
  go_ret
  exact ⟨⟨_, rfl⟩, H1.out, H2.out⟩


set_option maxHeartbeats 4000000 in
theorem source_any (B : Nat) (a : Option Addr) (n c : Nat) (w : World) (hB : B ≤ w.heap.size) (hn : n ≤ 1048576) (hby : Dk.Bytes B w a n) :
    Calls Try.prog 29 #[.slice a n c] w fun e w' => e = .returned (.pointer (some ⟨w.heap.size, 0, none⟩)) ∧ Dk.Src B w' w.heap.size ∧ Below w.heap.size w w' := by
  obtain ⟨W, hW⟩ : ∃ W, W = w.alloc (.cells #[.slice a n c, .int .i64 0, .int .u64 88172645463325252, .int .i64 0] 95) := ⟨_, rfl⟩
  have b0 : Below w.heap.size w W := by rw [hW]; exact (Below.refl _ _).alloc (Nat.le_refl _) _
  have hsz : w.heap.size < W.heap.size := by rw [hW]; simp
  have A0 : Dk.At W w.heap.size a n c 0 88172645463325252 0 := ⟨by rw [hW, Fk.cellTop _ _ _ _ _ rfl]; rfl, by rw [hW, Fk.cellTop _ _ _ _ _ rfl]; rfl, by rw [hW, Fk.cellTop _ _ _ _ _ rfl]; rfl, by rw [hW, Fk.cellTop _ _ _ _ _ rfl]; rfl, fun j => by rw [hW, Fk.frozTop _ _ _ _ _ rfl]⟩
  have HW := Fk.hide hW
  have HB0 := Fk.hide b0
  have HBY := Fk.hide hby
  clear hW b0 hby
  go_enter Try.func29, Try.ntmps29
  go_wp2_with fail
  rw [← HW.out]
  go_loopw [4] (fun i wr => ∃ (k : Nat) (mix : Int), k ≤ n ∧ k ≤ 64 ∧ i = .int .i64 k ∧ (0 ≤ mix ∧ mix < 18446744073709551616) ∧ Hid (Dk.At wr w.heap.size a n c 0 mix 0) ∧ Hid (Below w.heap.size w wr) ∧ w.heap.size < wr.heap.size) (fun i _ => n - (intOf i).toNat)
  case atStart => exact ⟨0, _, Nat.zero_le _, by decide, rfl, ⟨by decide, by decide⟩, A0, HB0.out, hsz⟩
  case round =>
    obtain ⟨k, mix, hk, hk6, rfl, ⟨hm0, hm1⟩, HA, HB, hzr⟩ := hrel
    have d0 : (0 : Int) ≤ (k : Int) := by omega
    have g2 := HA.out.c2
    have gf := HA.out.fr
    by_cases hkn : k < n
    · have d1 : (k : Int) < (n : Int) := by omega
      by_cases hk64 : k < 64
      · have d2 : (k : Int) < 64 := by omega
        obtain ⟨b, o, x, rfl, hb, ⟨hx0, hx1⟩, cx⟩ := HBY.out k hkn
        have cx1 : wr.cell? ⟨b, o + k, none⟩ = some (.int .u8 x) := (HB.out.cell (by show b < _; omega)).trans cx
        clear cx
        go_wp2_with fail
        go_region
        obtain ⟨m, hm⟩ : ∃ m, m = IntKind.u64.wrap (bits BinOp.xor IntKind.u64 mix x * 1099511628211) := ⟨_, rfl⟩
        have rm : 0 ≤ m ∧ m < 18446744073709551616 := by rw [hm]; exact Dk.u64_range _
        rw [← hm]
        clear hm
        have HA2 := Fk.hide (HA.out.mixed m)
        have HB2 : Hid (Below w.heap.size w (wr.setCell ⟨w.heap.size, 2, none⟩ (.int .u64 m)).drew) := Below.drew (HB.out.setCell (by exact Nat.le_refl _) _)
        have hz2 : Hid (w.heap.size < (wr.setCell ⟨w.heap.size, 2, none⟩ (.int .u64 m)).drew.heap.size) := by show w.heap.size < (wr.setCell _ _).heap.size; simpa using hzr
        clear g2 gf cx1
        go_wp2_with fail
        go_roundw
        case rel => exact ⟨k + 1, m, by omega, by omega, by go_num, rm, HA2.out, HB2.out, hz2.out⟩
        case measure => simp [intOf]; omega
      · have d2 : ¬ (k : Int) < 64 := by omega
        have g3 := HA.out.c3
        go_wp2_with fail
        all_goals go_ret
        all_goals first
          | exact ⟨rfl, ⟨a, n, c, 0, mix, _, hB, by simpa using hzr, hn, Nat.zero_le _, ⟨hm0, hm1⟩, ⟨by omega, by omega⟩, HA.out.sized _, HBY.out.grown hB (Fk.grownBy_below none (HB.out.setCell (by exact Nat.le_refl _) _)) (fun _ _ => by simp)⟩, HB.out.setCell (by exact Nat.le_refl _) _⟩
          | exact ⟨rfl, ⟨a, n, c, 0, mix, _, hB, by simpa using hzr, hn, Nat.zero_le _, ⟨hm0, hm1⟩, ⟨by omega, by omega⟩, (HA.out.sized _).sized _, HBY.out.grown hB (Fk.grownBy_below none ((HB.out.setCell (by exact Nat.le_refl _) _).setCell (by exact Nat.le_refl _) _)) (fun _ _ => by simp)⟩, (HB.out.setCell (by exact Nat.le_refl _) _).setCell (by exact Nat.le_refl _) _⟩
    · have d1 : ¬ (k : Int) < (n : Int) := by omega
      have g3 := HA.out.c3
      go_wp2_with fail
      all_goals go_ret
      all_goals first
        | exact ⟨rfl, ⟨a, n, c, 0, mix, _, hB, by simpa using hzr, hn, Nat.zero_le _, ⟨hm0, hm1⟩, ⟨by omega, by omega⟩, HA.out.sized _, HBY.out.grown hB (Fk.grownBy_below none (HB.out.setCell (by exact Nat.le_refl _) _)) (fun _ _ => by simp)⟩, HB.out.setCell (by exact Nat.le_refl _) _⟩
        | exact ⟨rfl, ⟨a, n, c, 0, mix, _, hB, by simpa using hzr, hn, Nat.zero_le _, ⟨hm0, hm1⟩, ⟨by omega, by omega⟩, (HA.out.sized _).sized _, HBY.out.grown hB (Fk.grownBy_below none ((HB.out.setCell (by exact Nat.le_refl _) _).setCell (by exact Nat.le_refl _) _)) (fun _ _ => by simp)⟩, (HB.out.setCell (by exact Nat.le_refl _) _).setCell (by exact Nat.le_refl _) _⟩
end Go.Proofs.Ytfagldipjpaceaa
