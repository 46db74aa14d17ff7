/- The walks of readText, of both GetText, and of the comparison of two answers with a text. -/
import Derived.Test.YtfefafmcaepoiaaGreatDoorJoined10
import Derived.Test.YtfefafmcaepoiaaGreatDoorErrvKit
import Derived.Test.YtfefafmcaepoiaaGreatDoorJoined1
import Derived.Test.YtfefafmcaepoiaaGreatDoorCopyWalks
import Derived.Test.YtfefafmcaepoiaaGreatDoorEqText
import Derived.BigRegion
namespace Go.Proofs.YtfefafmcaepoiaaGreatDoor
open Go.RowKit
set_option linter.unusedVariables false

/-- what readText hands back -/
def readTextRes (r : ByteArray × Int × Int) : Value := .tuple #[.string r.1, .int .i64 r.2.1, errv r.2.2]

set_option maxHeartbeats 2000000 in
theorem specGetText_any (s : ByteArray) (p : Int) (w : World) (hs : s.size ≤ maxLen) (h1 : p ≤ 9223372036854775807) :
    Calls Tryz.prog 59 #[.string s, .int .i64 p] w fun e w' => e = .returned (textOut (Dc.getText s p)) ∧ Below w.heap.size w w' := by
  have HB : Hid (∀ o, Below w.heap.size w (w.alloc o)) := fun o => ((Below.refl w.heap.size w).alloc (Nat.le_refl _) o)
  obtain ⟨⟨n, x, c⟩, hr⟩ : ∃ r, r = Dc.getNum s p := ⟨_, rfl⟩
  have HR : Hid ((n, x, c) = Dc.getNum s p) := hr
  by_cases hc : c = 0
  · subst hc
    have hb := Dc.get_bd s p n x hr.symm
    clear hr
    by_cases hn : n < 0 ∨ 8000 < n
    · have HE : Hid (Dc.getText s p = (ByteArray.empty, 0, 3)) := Dc.text_size HR.out.symm hn
      by_cases hn0 : n < 0
      all_goals
        go_enter Tryz.func59, Tryz.ntmps59
        go_wp2_with fail
        refine (specGetNum_any s p _ hs h1).mono ?_
        rintro e w1 ⟨rfl, hb1⟩
        rw [← HR.out, show numOut (n, x, 0) = .agg #[.int .i64 n, .int .i64 x, .int .i64 0] from rfl]
        have HB1 : Hid (Below w.heap.size w w1) := (HB.out _).trans (hb1.mono (by simp))
        have hs1 : w.heap.size < w1.heap.size := by have := hb1.size; simp at this; omega
        have hd0 : w1.cell? ⟨w.heap.size, 0, none⟩ = some (.string ByteArray.empty) := (hb1.cell (p := ⟨w.heap.size, 0, none⟩) (by simp)).trans (by simp; rfl)
        have hd1 : w1.cell? ⟨w.heap.size, 1, none⟩ = some (.int .i64 0) := (hb1.cell (p := ⟨w.heap.size, 1, none⟩) (by simp)).trans (by simp)
        have hd2 : w1.cell? ⟨w.heap.size, 2, none⟩ = some (.int .i64 0) := (hb1.cell (p := ⟨w.heap.size, 2, none⟩) (by simp)).trans (by simp)
        have hdz : ∀ o, w1.frozen? ⟨w.heap.size, o, none⟩ = false := fun o => (hb1.frozen (p := ⟨w.heap.size, o, none⟩) (by simp)).trans (by simp)
        clear hb1
        go_wp2
        refine bodyPost_ret (v := textOut (ByteArray.empty, 0, 3)) (by simp [results, Tryz.results59, go_sem, textOut, hd0, hd1, hd2, hs1] <;> rfl) rfl ⟨by rw [HE.out], ?_⟩
        exact (((HB1.out.setCell (Nat.le_refl _) _).setCell (Nat.le_refl _) _).setCell (Nat.le_refl _) _).alloc (by simp; omega) _
    · by_cases hsh : (s.size : Int) - n < x
      · have HE : Hid (Dc.getText s p = (ByteArray.empty, 0, 4)) := Dc.text_short HR.out.symm hn (by omega)
        go_enter Tryz.func59, Tryz.ntmps59
        go_wp2_with fail
        refine (specGetNum_any s p _ hs h1).mono ?_
        rintro e w1 ⟨rfl, hb1⟩
        rw [← HR.out, show numOut (n, x, 0) = .agg #[.int .i64 n, .int .i64 x, .int .i64 0] from rfl]
        have HB1 : Hid (Below w.heap.size w w1) := (HB.out _).trans (hb1.mono (by simp))
        have hs1 : w.heap.size < w1.heap.size := by have := hb1.size; simp at this; omega
        have hd0 : w1.cell? ⟨w.heap.size, 0, none⟩ = some (.string ByteArray.empty) := (hb1.cell (p := ⟨w.heap.size, 0, none⟩) (by simp)).trans (by simp; rfl)
        have hd1 : w1.cell? ⟨w.heap.size, 1, none⟩ = some (.int .i64 0) := (hb1.cell (p := ⟨w.heap.size, 1, none⟩) (by simp)).trans (by simp)
        have hd2 : w1.cell? ⟨w.heap.size, 2, none⟩ = some (.int .i64 0) := (hb1.cell (p := ⟨w.heap.size, 2, none⟩) (by simp)).trans (by simp)
        have hdz : ∀ o, w1.frozen? ⟨w.heap.size, o, none⟩ = false := fun o => (hb1.frozen (p := ⟨w.heap.size, o, none⟩) (by simp)).trans (by simp)
        clear hb1
        go_wp2
        refine bodyPost_ret (v := textOut (ByteArray.empty, 0, 4)) (by simp [results, Tryz.results59, go_sem, textOut, hd0, hd1, hd2, hs1] <;> rfl) rfl ⟨by rw [HE.out], ?_⟩
        exact (((HB1.out.setCell (Nat.le_refl _) _).setCell (Nat.le_refl _) _).setCell (Nat.le_refl _) _).alloc (by simp; omega) _
      · have HE : Hid (Dc.getText s p = (s.extract x.toNat (x + n).toNat, x + n, 0)) := Dc.text_ok HR.out.symm hn (by omega)
        go_enter Tryz.func59, Tryz.ntmps59
        go_wp2_with fail
        refine (specGetNum_any s p _ hs h1).mono ?_
        rintro e w1 ⟨rfl, hb1⟩
        rw [← HR.out, show numOut (n, x, 0) = .agg #[.int .i64 n, .int .i64 x, .int .i64 0] from rfl]
        have HB1 : Hid (Below w.heap.size w w1) := (HB.out _).trans (hb1.mono (by simp))
        have hs1 : w.heap.size < w1.heap.size := by have := hb1.size; simp at this; omega
        have hd0 : w1.cell? ⟨w.heap.size, 0, none⟩ = some (.string ByteArray.empty) := (hb1.cell (p := ⟨w.heap.size, 0, none⟩) (by simp)).trans (by simp; rfl)
        have hd1 : w1.cell? ⟨w.heap.size, 1, none⟩ = some (.int .i64 0) := (hb1.cell (p := ⟨w.heap.size, 1, none⟩) (by simp)).trans (by simp)
        have hd2 : w1.cell? ⟨w.heap.size, 2, none⟩ = some (.int .i64 0) := (hb1.cell (p := ⟨w.heap.size, 2, none⟩) (by simp)).trans (by simp)
        have hdz : ∀ o, w1.frozen? ⟨w.heap.size, o, none⟩ = false := fun o => (hb1.frozen (p := ⟨w.heap.size, o, none⟩) (by simp)).trans (by simp)
        clear hb1
        go_wp2
        obtain ⟨W, hW⟩ : ∃ W, W = w1.alloc (.cells #[.int .i64 n, .int .i64 x, .int .i64 0] 114) := ⟨_, rfl⟩
        rw [← hW]
        have hn0 : W.cell? ⟨w1.heap.size, 0, none⟩ = some (.int .i64 n) := by rw [hW]; simp
        have hn1 : W.cell? ⟨w1.heap.size, 1, none⟩ = some (.int .i64 x) := by rw [hW]; simp
        have HBW : Hid (Below w.heap.size w W) := by rw [hW]; exact HB1.out.alloc (by omega) _
        have hq0 : W.cell? ⟨w.heap.size, 0, none⟩ = some (.string ByteArray.empty) := by rw [hW, World.cell?_alloc_lt _ _ _ hs1]; exact hd0
        have hq1 : W.cell? ⟨w.heap.size, 1, none⟩ = some (.int .i64 0) := by rw [hW, World.cell?_alloc_lt _ _ _ hs1]; exact hd1
        have hq2 : W.cell? ⟨w.heap.size, 2, none⟩ = some (.int .i64 0) := by rw [hW, World.cell?_alloc_lt _ _ _ hs1]; exact hd2
        have hqz : ∀ o, W.frozen? ⟨w.heap.size, o, none⟩ = false := fun o => by rw [hW, World.frozen?_alloc_old _ _ _ (Nat.ne_of_lt hs1)]; exact hdz o
        clear hd0 hd1 hd2 hdz hW
        go_region
        go_wp2
        refine bodyPost_ret (v := textOut (s.extract x.toNat (x + n).toNat, x + n, 0)) (by simp [results, Tryz.results59, go_sem, textOut, hq0, hq1, hq2]) rfl ⟨by rw [HE.out], ?_⟩
        exact (((HBW.out.setCell (Nat.le_refl _) _).setCell (Nat.le_refl _) _).setCell (Nat.le_refl _) _).drew
  · have HE : Hid (Dc.getText s p = (ByteArray.empty, 0, c)) := Dc.text_code hr.symm hc
    have hcb : (c != 0) = true := by simpa using hc
    clear hr hc
    go_enter Tryz.func59, Tryz.ntmps59
    go_wp2_with fail
    refine (specGetNum_any s p _ hs h1).mono ?_
    rintro e w1 ⟨rfl, hb1⟩
    rw [← HR.out, show numOut (n, x, c) = .agg #[.int .i64 n, .int .i64 x, .int .i64 c] from rfl]
    have HB1 : Hid (Below w.heap.size w w1) := (HB.out _).trans (hb1.mono (by simp))
    have hs1 : w.heap.size < w1.heap.size := by have := hb1.size; simp at this; omega
    have hd0 : w1.cell? ⟨w.heap.size, 0, none⟩ = some (.string ByteArray.empty) := (hb1.cell (p := ⟨w.heap.size, 0, none⟩) (by simp)).trans (by simp; rfl)
    have hd1 : w1.cell? ⟨w.heap.size, 1, none⟩ = some (.int .i64 0) := (hb1.cell (p := ⟨w.heap.size, 1, none⟩) (by simp)).trans (by simp)
    have hd2 : w1.cell? ⟨w.heap.size, 2, none⟩ = some (.int .i64 0) := (hb1.cell (p := ⟨w.heap.size, 2, none⟩) (by simp)).trans (by simp)
    have hdz : ∀ o, w1.frozen? ⟨w.heap.size, o, none⟩ = false := fun o => (hb1.frozen (p := ⟨w.heap.size, o, none⟩) (by simp)).trans (by simp)
    clear hb1
    go_wp2
    refine bodyPost_ret (v := textOut (ByteArray.empty, 0, c)) (by simp [results, Tryz.results59, go_sem, textOut, hd0, hd1, hd2, hs1] <;> rfl) rfl ⟨by rw [HE.out], ?_⟩
    exact (((HB1.out.setCell (Nat.le_refl _) _).setCell (Nat.le_refl _) _).setCell (Nat.le_refl _) _).alloc (by simp; omega) _
end Go.Proofs.YtfefafmcaepoiaaGreatDoor
