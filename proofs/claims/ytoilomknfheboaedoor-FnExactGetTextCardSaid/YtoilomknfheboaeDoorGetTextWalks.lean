/- The walks of readText, of both GetText, and of the comparison of two answers with a text. -/
import Derived.Test.YtoilomknfheboaeDoorGetNumSpec
import Derived.Test.YtoilomknfheboaeDoorDecMore
import Derived.Test.YtoilomknfheboaeDoorCopyWalks
import Derived.BigRegion
namespace Go.Proofs.YtoilomknfheboaeDoor
open Go.RowKit
set_option linter.unusedVariables false

/-- an answer with a text -/
def textOut (r : ByteArray × Int × Int) : Value := .agg #[.string r.1, .int .i64 r.2.1, .int .i64 r.2.2]
/-- what readText hands back -/
def readTextRes (r : ByteArray × Int × Int) : Value := .tuple #[.string r.1, .int .i64 r.2.1, errv r.2.2]

set_option maxHeartbeats 1000000 in
theorem readText_any (s : ByteArray) (p : Int) (w : World) (hs : s.size ≤ maxLen) (h1 : p ≤ 9223372036854775807) :
    Calls Tryd.prog 13 #[.string s, .int .i64 p] w fun e w' => e = .returned (readTextRes (Dc.getText s p)) ∧ Below w.heap.size w w' := by
  obtain ⟨⟨n, x, c⟩, hr⟩ : ∃ r, r = Dc.getNum s p := ⟨_, rfl⟩
  by_cases hc : c = 0
  · subst hc
    have hb := Dc.get_bd s p n x hr.symm
    have HR : Hid ((n, x, 0) = Dc.getNum s p) := hr
    clear hr
    by_cases hn : n < 0 ∨ 8000 < n
    · have HE : Hid (Dc.getText s p = (ByteArray.empty, 0, 3)) := Dc.text_size HR.out.symm hn
      by_cases hn0 : n < 0
      all_goals
        go_enter Tryd.func13, Tryd.ntmps13
        go_wp2_with fail
        refine (readNum_any s p _ hs h1).mono ?_
        rintro e w1 ⟨rfl, rfl⟩
        rw [← HR.out, show readRes (n, x, 0) = .tuple #[.int .i64 n, .int .i64 x, .nilIface] from rfl]
        go_wp2_with fail
        go_ret3
        exact ⟨by rw [HE.out]; rfl, Below.refl _ _⟩
    · by_cases hsh : (s.size : Int) - x < n
      · have HE : Hid (Dc.getText s p = (ByteArray.empty, 0, 4)) := Dc.text_short HR.out.symm hn hsh
        go_enter Tryd.func13, Tryd.ntmps13
        go_wp2_with fail
        refine (readNum_any s p _ hs h1).mono ?_
        rintro e w1 ⟨rfl, rfl⟩
        rw [← HR.out, show readRes (n, x, 0) = .tuple #[.int .i64 n, .int .i64 x, .nilIface] from rfl]
        go_wp2_with fail
        go_ret3
        exact ⟨by rw [HE.out]; rfl, Below.refl _ _⟩
      · have HE : Hid (Dc.getText s p = (s.extract x.toNat (x + n).toNat, x + n, 0)) := Dc.text_ok HR.out.symm hn hsh
        go_enter Tryd.func13, Tryd.ntmps13
        go_wp2_with fail
        refine (readNum_any s p _ hs h1).mono ?_
        rintro e w1 ⟨rfl, rfl⟩
        rw [← HR.out, show readRes (n, x, 0) = .tuple #[.int .i64 n, .int .i64 x, .nilIface] from rfl]
        go_wp2_with fail
        refine (copyText_any _ _ ?_).mono ?_
        · simp only [ByteArray.size_extract]; omega
        rintro e w2 ⟨rfl, hb2⟩
        go_wp2_with fail
        go_ret3
        exact ⟨by rw [HE.out]; rfl, hb2⟩
  · have HE : Hid (Dc.getText s p = (ByteArray.empty, 0, c)) := Dc.text_code hr.symm hc
    have HR : Hid ((n, x, c) = Dc.getNum s p) := hr
    clear hr
    have HV : Hid (readRes (n, x, c) = .tuple #[.int .i64 n, .int .i64 x, .iface 42 (.agg #[.int .i64 c])]) := by
      show readRes (n, x, c) = _
      unfold readRes; simp only [if_neg hc]
    go_enter Tryd.func13, Tryd.ntmps13
    go_wp2_with fail
    refine (readNum_any s p _ hs h1).mono ?_
    rintro e w1 ⟨rfl, rfl⟩
    rw [← HR.out, HV.out]
    go_wp2_with fail
    go_ret3
    exact ⟨by rw [HE.out]; simp only [readTextRes, errv, if_neg hc]; rfl, Below.refl _ _⟩

set_option maxHeartbeats 1000000 in
theorem implGetText_any (s : ByteArray) (p : Int) (w : World) (hs : s.size ≤ maxLen) (h1 : p ≤ 9223372036854775807) (hg : HasErr w) :
    Calls Tryd.prog 9 #[.string s, .int .i64 p] w fun e w' => e = .returned (textOut (Dc.getText s p)) ∧ Below w.heap.size w w' := by
  have HB : Hid (∀ o, Below w.heap.size w (w.alloc o)) := fun o => ((Below.refl w.heap.size w).alloc (Nat.le_refl _) o)
  have hp := hg.pos
  have HG : Hid (HasErr w) := hg
  clear hg
  obtain ⟨⟨n, x, c⟩, hr⟩ : ∃ r, r = Dc.getText s p := ⟨_, rfl⟩
  rw [← hr]
  have HR : Hid ((n, x, c) = Dc.getText s p) := hr
  clear hr
  go_enter Tryd.func9, Tryd.ntmps9
  go_wp2_with fail
  refine (readText_any s p _ hs h1).mono ?_
  rintro e w1 ⟨rfl, hb1⟩
  rw [← HR.out, show readTextRes (n, x, c) = .tuple #[.string n, .int .i64 x, errv c] from rfl]
  have HB1 : Hid (Below w.heap.size w w1) := (HB.out _).trans (hb1.mono (by simp))
  have hs1 : w.heap.size < w1.heap.size := by have := hb1.size; simp at this; omega
  have hd0 : w1.cell? ⟨w.heap.size, 0, none⟩ = some (.string ByteArray.empty) := (hb1.cell (p := ⟨w.heap.size, 0, none⟩) (by simp)).trans (by simp; rfl)
  have hd1 : w1.cell? ⟨w.heap.size, 1, none⟩ = some (.int .i64 0) := (hb1.cell (p := ⟨w.heap.size, 1, none⟩) (by simp)).trans (by simp)
  have hd2 : w1.cell? ⟨w.heap.size, 2, none⟩ = some (.int .i64 0) := (hb1.cell (p := ⟨w.heap.size, 2, none⟩) (by simp)).trans (by simp)
  have hdz : ∀ o, w1.frozen? ⟨w.heap.size, o, none⟩ = false := fun o => (hb1.frozen (p := ⟨w.heap.size, o, none⟩) (by simp)).trans (by simp)
  clear hb1
  go_wp2_with fail
  refine (codeOf_any c _ (HG.out.below hp HB1.out)).mono ?_
  rintro e w2 ⟨rfl, hb2⟩
  have HE : Hid (Below w.heap.size w w2) := HB1.out.trans (hb2.mono (by omega))
  have hc0 : w2.cell? ⟨w.heap.size, 0, none⟩ = some (.string ByteArray.empty) := (hb2.cell (p := ⟨w.heap.size, 0, none⟩) hs1).trans hd0
  have hc1 : w2.cell? ⟨w.heap.size, 1, none⟩ = some (.int .i64 0) := (hb2.cell (p := ⟨w.heap.size, 1, none⟩) hs1).trans hd1
  have hc2 : w2.cell? ⟨w.heap.size, 2, none⟩ = some (.int .i64 0) := (hb2.cell (p := ⟨w.heap.size, 2, none⟩) hs1).trans hd2
  have hfz : ∀ o, w2.frozen? ⟨w.heap.size, o, none⟩ = false := fun o => (hb2.frozen (p := ⟨w.heap.size, o, none⟩) hs1).trans (hdz o)
  clear hb2 hd0 hd1 hd2 hdz
  go_wp2
  refine bodyPost_ret (v := textOut (n, x, c)) (by simp [results, Tryd.results9, go_sem, textOut, hc0, hc1, hc2]) rfl ⟨rfl, ?_⟩
  exact ((HE.out.setCell (Nat.le_refl _) _).setCell (Nat.le_refl _) _).setCell (Nat.le_refl _) _

set_option maxHeartbeats 1000000 in
theorem eqTextOut_same (r : ByteArray × Int × Int) (w : World) :
    Calls Tryd.prog 10 #[textOut r, textOut r] w fun e w' => e = .returned (.bool true) ∧ Below w.heap.size w w' := by
  obtain ⟨a, b, c⟩ := r
  unfold textOut
  have HB : Hid (∀ o o', Below w.heap.size w ((w.alloc o).alloc o')) := fun o o' => ((Below.refl w.heap.size w).alloc (Nat.le_refl _) o).alloc (by simp) o'
  go_enter Tryd.func10, Tryd.ntmps10
  go_wp2
  go_ret
  exact ⟨rfl, HB.out _ _⟩

set_option maxHeartbeats 2000000 in
theorem specGetText_any (s : ByteArray) (p : Int) (w : World) (hs : s.size ≤ maxLen) (h1 : p ≤ 9223372036854775807) :
    Calls Tryd.prog 8 #[.string s, .int .i64 p] w fun e w' => e = .returned (textOut (Dc.getText s p)) ∧ Below w.heap.size w w' := by
  have HB : Hid (∀ o, Below w.heap.size w (w.alloc o)) := fun o => ((Below.refl w.heap.size w).alloc (Nat.le_refl _) o)
  obtain ⟨⟨n, x, c⟩, hr⟩ : ∃ r, r = Dc.getNum s p := ⟨_, rfl⟩
  have HR : Hid ((n, x, c) = Dc.getNum s p) := hr
  by_cases hc : c = 0
  · subst hc
    have hb := Dc.get_bd s p n x hr.symm
    clear hr
    by_cases hn : n < 0 ∨ 8000 < n
    · have HE : Hid (Dc.getText s p = (ByteArray.empty, 0, 3)) := Dc.text_size HR.out.symm hn
      by_cases hn0 : n < 0
      all_goals
        go_enter Tryd.func8, Tryd.ntmps8
        go_wp2_with fail
        refine (specGetNum_any s p _ hs h1).mono ?_
        rintro e w1 ⟨rfl, hb1⟩
        rw [← HR.out, show numOut (n, x, 0) = .agg #[.int .i64 n, .int .i64 x, .int .i64 0] from rfl]
        have HB1 : Hid (Below w.heap.size w w1) := (HB.out _).trans (hb1.mono (by simp))
        have hs1 : w.heap.size < w1.heap.size := by have := hb1.size; simp at this; omega
        have hd0 : w1.cell? ⟨w.heap.size, 0, none⟩ = some (.string ByteArray.empty) := (hb1.cell (p := ⟨w.heap.size, 0, none⟩) (by simp)).trans (by simp; rfl)
        have hd1 : w1.cell? ⟨w.heap.size, 1, none⟩ = some (.int .i64 0) := (hb1.cell (p := ⟨w.heap.size, 1, none⟩) (by simp)).trans (by simp)
        have hd2 : w1.cell? ⟨w.heap.size, 2, none⟩ = some (.int .i64 0) := (hb1.cell (p := ⟨w.heap.size, 2, none⟩) (by simp)).trans (by simp)
        have hdz : ∀ o, w1.frozen? ⟨w.heap.size, o, none⟩ = false := fun o => (hb1.frozen (p := ⟨w.heap.size, o, none⟩) (by simp)).trans (by simp)
        clear hb1
        go_wp2
        refine bodyPost_ret (v := textOut (ByteArray.empty, 0, 3)) (by simp [results, Tryd.results8, go_sem, textOut, hd0, hd1, hd2, hs1] <;> rfl) rfl ⟨by rw [HE.out], ?_⟩
        exact (((HB1.out.setCell (Nat.le_refl _) _).setCell (Nat.le_refl _) _).setCell (Nat.le_refl _) _).alloc (by simp; omega) _
    · by_cases hsh : (s.size : Int) - n < x
      · have HE : Hid (Dc.getText s p = (ByteArray.empty, 0, 4)) := Dc.text_short HR.out.symm hn (by omega)
        go_enter Tryd.func8, Tryd.ntmps8
        go_wp2_with fail
        refine (specGetNum_any s p _ hs h1).mono ?_
        rintro e w1 ⟨rfl, hb1⟩
        rw [← HR.out, show numOut (n, x, 0) = .agg #[.int .i64 n, .int .i64 x, .int .i64 0] from rfl]
        have HB1 : Hid (Below w.heap.size w w1) := (HB.out _).trans (hb1.mono (by simp))
        have hs1 : w.heap.size < w1.heap.size := by have := hb1.size; simp at this; omega
        have hd0 : w1.cell? ⟨w.heap.size, 0, none⟩ = some (.string ByteArray.empty) := (hb1.cell (p := ⟨w.heap.size, 0, none⟩) (by simp)).trans (by simp; rfl)
        have hd1 : w1.cell? ⟨w.heap.size, 1, none⟩ = some (.int .i64 0) := (hb1.cell (p := ⟨w.heap.size, 1, none⟩) (by simp)).trans (by simp)
        have hd2 : w1.cell? ⟨w.heap.size, 2, none⟩ = some (.int .i64 0) := (hb1.cell (p := ⟨w.heap.size, 2, none⟩) (by simp)).trans (by simp)
        have hdz : ∀ o, w1.frozen? ⟨w.heap.size, o, none⟩ = false := fun o => (hb1.frozen (p := ⟨w.heap.size, o, none⟩) (by simp)).trans (by simp)
        clear hb1
        go_wp2
        refine bodyPost_ret (v := textOut (ByteArray.empty, 0, 4)) (by simp [results, Tryd.results8, go_sem, textOut, hd0, hd1, hd2, hs1] <;> rfl) rfl ⟨by rw [HE.out], ?_⟩
        exact (((HB1.out.setCell (Nat.le_refl _) _).setCell (Nat.le_refl _) _).setCell (Nat.le_refl _) _).alloc (by simp; omega) _
      · have HE : Hid (Dc.getText s p = (s.extract x.toNat (x + n).toNat, x + n, 0)) := Dc.text_ok HR.out.symm hn (by omega)
        go_enter Tryd.func8, Tryd.ntmps8
        go_wp2_with fail
        refine (specGetNum_any s p _ hs h1).mono ?_
        rintro e w1 ⟨rfl, hb1⟩
        rw [← HR.out, show numOut (n, x, 0) = .agg #[.int .i64 n, .int .i64 x, .int .i64 0] from rfl]
        have HB1 : Hid (Below w.heap.size w w1) := (HB.out _).trans (hb1.mono (by simp))
        have hs1 : w.heap.size < w1.heap.size := by have := hb1.size; simp at this; omega
        have hd0 : w1.cell? ⟨w.heap.size, 0, none⟩ = some (.string ByteArray.empty) := (hb1.cell (p := ⟨w.heap.size, 0, none⟩) (by simp)).trans (by simp; rfl)
        have hd1 : w1.cell? ⟨w.heap.size, 1, none⟩ = some (.int .i64 0) := (hb1.cell (p := ⟨w.heap.size, 1, none⟩) (by simp)).trans (by simp)
        have hd2 : w1.cell? ⟨w.heap.size, 2, none⟩ = some (.int .i64 0) := (hb1.cell (p := ⟨w.heap.size, 2, none⟩) (by simp)).trans (by simp)
        have hdz : ∀ o, w1.frozen? ⟨w.heap.size, o, none⟩ = false := fun o => (hb1.frozen (p := ⟨w.heap.size, o, none⟩) (by simp)).trans (by simp)
        clear hb1
        go_wp2
        obtain ⟨W, hW⟩ : ∃ W, W = w1.alloc (.cells #[.int .i64 n, .int .i64 x, .int .i64 0] 23) := ⟨_, rfl⟩
        rw [← hW]
        have hn0 : W.cell? ⟨w1.heap.size, 0, none⟩ = some (.int .i64 n) := by rw [hW]; simp
        have hn1 : W.cell? ⟨w1.heap.size, 1, none⟩ = some (.int .i64 x) := by rw [hW]; simp
        have HBW : Hid (Below w.heap.size w W) := by rw [hW]; exact HB1.out.alloc (by omega) _
        have hq0 : W.cell? ⟨w.heap.size, 0, none⟩ = some (.string ByteArray.empty) := by rw [hW, World.cell?_alloc_lt _ _ _ hs1]; exact hd0
        have hq1 : W.cell? ⟨w.heap.size, 1, none⟩ = some (.int .i64 0) := by rw [hW, World.cell?_alloc_lt _ _ _ hs1]; exact hd1
        have hq2 : W.cell? ⟨w.heap.size, 2, none⟩ = some (.int .i64 0) := by rw [hW, World.cell?_alloc_lt _ _ _ hs1]; exact hd2
        have hqz : ∀ o, W.frozen? ⟨w.heap.size, o, none⟩ = false := fun o => by rw [hW, World.frozen?_alloc_old _ _ _ (Nat.ne_of_lt hs1)]; exact hdz o
        clear hd0 hd1 hd2 hdz hW
        go_region
        go_wp2
        refine bodyPost_ret (v := textOut (s.extract x.toNat (x + n).toNat, x + n, 0)) (by simp [results, Tryd.results8, go_sem, textOut, hq0, hq1, hq2]) rfl ⟨by rw [HE.out], ?_⟩
        exact (((HBW.out.setCell (Nat.le_refl _) _).setCell (Nat.le_refl _) _).setCell (Nat.le_refl _) _).drew
  · have HE : Hid (Dc.getText s p = (ByteArray.empty, 0, c)) := Dc.text_code hr.symm hc
    have hcb : (c != 0) = true := by simpa using hc
    clear hr hc
    go_enter Tryd.func8, Tryd.ntmps8
    go_wp2_with fail
    refine (specGetNum_any s p _ hs h1).mono ?_
    rintro e w1 ⟨rfl, hb1⟩
    rw [← HR.out, show numOut (n, x, c) = .agg #[.int .i64 n, .int .i64 x, .int .i64 c] from rfl]
    have HB1 : Hid (Below w.heap.size w w1) := (HB.out _).trans (hb1.mono (by simp))
    have hs1 : w.heap.size < w1.heap.size := by have := hb1.size; simp at this; omega
    have hd0 : w1.cell? ⟨w.heap.size, 0, none⟩ = some (.string ByteArray.empty) := (hb1.cell (p := ⟨w.heap.size, 0, none⟩) (by simp)).trans (by simp; rfl)
    have hd1 : w1.cell? ⟨w.heap.size, 1, none⟩ = some (.int .i64 0) := (hb1.cell (p := ⟨w.heap.size, 1, none⟩) (by simp)).trans (by simp)
    have hd2 : w1.cell? ⟨w.heap.size, 2, none⟩ = some (.int .i64 0) := (hb1.cell (p := ⟨w.heap.size, 2, none⟩) (by simp)).trans (by simp)
    have hdz : ∀ o, w1.frozen? ⟨w.heap.size, o, none⟩ = false := fun o => (hb1.frozen (p := ⟨w.heap.size, o, none⟩) (by simp)).trans (by simp)
    clear hb1
    go_wp2
    refine bodyPost_ret (v := textOut (ByteArray.empty, 0, c)) (by simp [results, Tryd.results8, go_sem, textOut, hd0, hd1, hd2, hs1] <;> rfl) rfl ⟨by rw [HE.out], ?_⟩
    exact (((HB1.out.setCell (Nat.le_refl _) _).setCell (Nat.le_refl _) _).setCell (Nat.le_refl _) _).alloc (by simp; omega) _
end Go.Proofs.YtoilomknfheboaeDoor
