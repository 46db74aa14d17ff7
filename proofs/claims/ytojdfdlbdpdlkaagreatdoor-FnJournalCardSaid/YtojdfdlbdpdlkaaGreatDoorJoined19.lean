/- What the specification's drawing calls keep from draw to draw: their files behind a variable, their result's variable, their source. The walks of the specification's drawing calls over journals. -/
import Derived.Test.YtojdfdlbdpdlkaaGreatDoorDrawFs
import Derived.Test.YtojdfdlbdpdlkaaGreatDoorDrawJournals
namespace Go.Proofs.YtojdfdlbdpdlkaaGreatDoor
open Go.RowKit
set_option linter.unusedVariables false
set_option linter.unusedSimpArgs false
namespace Dk
def Bx (B S : Nat) (w wr : World) (fb : Nat) (u : Value) (R : List Fk.Fl) : Prop :=
  wr.cell? ⟨fb, 0, none⟩ = some u ∧ (wr.cell? ⟨w.heap.size, 0, none⟩ = some (.slice none 0 0) ∧ ∀ j, wr.frozen? ⟨w.heap.size, j, none⟩ = false) ∧ Fk.Own wr (w.heap.size + 1) 75 u R ∧ Src B wr S ∧ Below w.heap.size w wr ∧ (w.heap.size < fb ∧ fb < wr.heap.size ∧ w.heap.size < S ∧ fb ≠ S) ∧ u.ownBlock ≠ some S
theorem Bx.draw {B S fb : Nat} {w wr w' : World} {u : Value} {R : List Fk.Fl} (h : Bx B S w wr fb u R) (hs : Src B w' S) (hg : wr.grownBy w' (some S)) : Bx B S w w' fb u R := by
  obtain ⟨h1, ⟨r1, r2⟩, h3, h4, h5, ⟨h6, h7, h8, h9⟩, h10⟩ := h
  have hw : w.heap.size < wr.heap.size := by omega
  refine ⟨(hg.cell_far ⟨fb, 0, none⟩ h7 (fun e => h9 (Option.some.inj e))).trans h1, ⟨(hg.cell_far ⟨w.heap.size, 0, none⟩ hw (fun e => by have h11 : w.heap.size = S := Option.some.inj e; omega)).trans r1, fun j => (hg.frozen_far ⟨w.heap.size, j, none⟩ hw (fun e => by have h11 : w.heap.size = S := Option.some.inj e; omega)).trans (r2 j)⟩, World.ownsRow.kept h3 hg ?_, hs, h5.grown hg (by omega) (fun j hj => by have h11 : S = j := Option.some.inj hj; omega), ⟨h6, Nat.lt_of_lt_of_le h7 hg.size, h8, h9⟩, h10⟩
  cases hv : u.ownBlock with
  | none => exact .inl rfl
  | some g => exact .inr (fun e => h10 (by rw [hv]; exact e))
theorem Bx.below {B S fb : Nat} {w wr w' : World} {u : Value} {R : List Fk.Fl} (h : Bx B S w wr fb u R) (hb : Below wr.heap.size wr w') : Bx B S w w' fb u R := by
  obtain ⟨h1, ⟨r1, r2⟩, h3, h4, h5, ⟨h6, h7, h8, h9⟩, h10⟩ := h
  have hw : w.heap.size < wr.heap.size := by omega
  exact ⟨(hb.cell h7).trans h1, ⟨(hb.cell hw).trans r1, fun j => (hb.frozen hw).trans (r2 j)⟩, Fk.Own.below h3 hb, h4.below hb, h5.trans (hb.mono (Nat.le_of_lt hw)), ⟨h6, Nat.lt_of_lt_of_le h7 hb.size, h8, h9⟩, h10⟩
/-- the files are handed over -/
theorem Bx.done {B S fb : Nat} {w wr : World} {u : Value} {R : List Fk.Fl} (h : Bx B S w wr fb u R) : Fk.Own (wr.setCell ⟨w.heap.size, 0, none⟩ u) w.heap.size 75 u R ∧ Below w.heap.size w (wr.setCell ⟨w.heap.size, 0, none⟩ u) := by
  obtain ⟨h1, ⟨r1, r2⟩, h3, h4, h5, ⟨h6, h7, h8, h9⟩, h10⟩ := h
  exact ⟨Fk.Own.mono (ownsRow_setCell_below h3 (by show w.heap.size < w.heap.size + 1; omega) _) (by omega), h5.setCell (by exact Nat.le_refl _) _⟩
/-- the bytes that 'make([]byte, n)' makes, and their text -/
def zo (n : Int) : Obj := .cells ((List.replicate n.toNat (0 : Int)).map (Value.int .u8)).toArray 5
def zt (n : Int) : ByteArray := strOfNums (List.replicate n.toNat 0)
theorem zt_size (n : Int) (h : 0 ≤ n) : ((zt n).size : Int) = n := by
  have e : (strOfNums (List.replicate n.toNat 0)).size = n.toNat := by show (strOfNums _).data.size = _; simp [strOfNums]
  unfold zt
  rw [e]; omega
theorem zero_make (X : World) (n : Int) (h0 : 0 ≤ n) (h1 : n ≤ 100000) : (Instr.makeSlice 22 (.int .i64 n) (.int .i64 n)).run Tryz.prog X = .ok (.slice (some ⟨X.heap.size, 0, none⟩) n.toNat n.toNat) (X.alloc (zo n)) := by
  obtain ⟨i0, hi, hz0, hz1, hz2⟩ := info_parts Tryz.infoU8
  have hrun := run_make (P := Tryz.prog) X 22 5 i0 (.int .u8 0) Tryz.underlying22 hi hz0 .i64 .i64 n n h0 (Int.le_refl _) (by rw [hz2]; omega) (by omega)
  have e1 : madeCells (Value.int .u8 0).cells (n.toNat * i0.size) = ((List.replicate n.toNat (0 : Int)).map (Value.int .u8)).toArray := by
    rw [hz1]
    apply Array.ext
    · simp [size_madeCells]
    · intro j _ _
      simp [madeCells, Value.cells, Nat.mod_one]
  rw [e1] at hrun
  exact hrun
theorem zero_text (X W' : World) (n : Int) (hW : ∀ j, W'.cell? ⟨X.heap.size, j, none⟩ = (X.alloc (zo n)).cell? ⟨X.heap.size, j, none⟩) : (convert 22 9 (.slice (some ⟨X.heap.size, 0, none⟩) n.toNat n.toNat)).run Tryz.prog W' = .ok (.string (zt n)) W' := by
  refine run_convert_bytes_arg _ 22 5 Tryz.underlying22 Tryz.underlying5 _ 0 n.toNat n.toNat (List.replicate n.toNat 0) (by simp) (fun i hi => ?_) 9 Tryz.underlying9
  rw [hW]
  unfold zo
  rw [Fk.cellTop _ _ _ _ _ rfl]
  simp [hi, List.getD]
end Dk
end Go.Proofs.YtojdfdlbdpdlkaaGreatDoor

namespace Go.Proofs.YtojdfdlbdpdlkaaGreatDoor
open Go.RowKit
set_option linter.unusedVariables false
set_option linter.unusedSimpArgs false

set_option maxHeartbeats 8000000 in
theorem drawJournalClean_any (B : Nat) (a : Option Addr) (n c : Nat) (w : World) (hB : B ≤ w.heap.size) (hn : n ≤ 1048576) (hby : Dk.Bytes B w a n) :
    Calls Tryz.prog 6 #[.slice a n c] w fun e w' => (∃ u R, e = .returned (.agg #[u]) ∧ Fk.Own w' w.heap.size 75 u R ∧ Dj.Fit R ∧ R.length ≤ 2000) ∧ Below w.heap.size w w' := by
  have b0 : Below w.heap.size w (w.alloc (.cells #[.slice none 0 0] 25)) := (Below.refl _ _).alloc (Nat.le_refl _) _
  have hby0 := Fk.hide (hby.grown hB (Fk.grownBy_below none b0) (fun _ _ => by simp))
  obtain ⟨W0, hW0⟩ : ∃ W, W = w.alloc (.cells #[.slice none 0 0] 25) := ⟨_, rfl⟩
  have r0 : W0.cell? ⟨w.heap.size, 0, none⟩ = some (.slice none 0 0) := by rw [hW0, Fk.cellTop _ _ _ _ _ rfl]; rfl
  have f0 : ∀ j, W0.frozen? ⟨w.heap.size, j, none⟩ = false := fun j => by rw [hW0, Fk.frozTop _ _ _ _ _ rfl]
  have hz0 : W0.heap.size = w.heap.size + 1 := by rw [hW0]; simp
  rw [← hW0] at b0 hby0
  have HW0 := Fk.hide hW0
  have H0 := Fk.hide (⟨b0, r0, f0, hz0⟩ : Below w.heap.size w W0 ∧ _ ∧ (∀ j, _) ∧ _)
  clear hW0 b0 r0 f0 hz0 hby
  go_enter Tryz.func6, Tryz.ntmps6
  go_wp2_with fail
  rw [← HW0.out]
  refine (source_any B a n c W0 (by have := H0.out.2.2.2; omega) hn hby0.out).mono ?_
  rintro e w1 ⟨rfl, s1, b1⟩
  obtain ⟨S, hS⟩ : ∃ S, S = W0.heap.size := ⟨_, rfl⟩
  rw [← hS] at s1 ⊢
  have H1 : Hid (Dk.Src B w1 S ∧ Below w.heap.size w w1 ∧ (w1.cell? ⟨w.heap.size, 0, none⟩ = some (.slice none 0 0) ∧ ∀ j, w1.frozen? ⟨w.heap.size, j, none⟩ = false) ∧ S = w.heap.size + 1 ∧ S < w1.heap.size) := by
    obtain ⟨q1, q2, q3, q4⟩ := H0.out
    exact ⟨s1, q1.trans (b1.mono (by omega)), ⟨(b1.cell (by show w.heap.size < _; omega)).trans q2, fun j => (b1.frozen (by show w.heap.size < _; omega)).trans (q3 j)⟩, by rw [hS]; exact q4, s1.lt.2⟩
  clear hS s1 b1 HW0 H0 hby0
  go_wp2_with fail
  refine (l10Fs_any B S w1 H1.out.1).mono ?_
  rintro e w2 ⟨⟨u, R, rfl, ho, hf, hRl⟩, s2, g2⟩
  obtain ⟨ua, un, uc, rfl⟩ := ho.slice'
  have HF := Fk.hide hf
  have H4 : Hid (Below w.heap.size w (w2.setCell ⟨w.heap.size, 0, none⟩ (.slice ua un uc)) ∧ Fk.Own (w2.setCell ⟨w.heap.size, 0, none⟩ (.slice ua un uc)) w.heap.size 75 (.slice ua un uc) R) := by
    obtain ⟨q1, q2, q3, q4, q5⟩ := H1.out
    have e3 : Below w.heap.size w w2 := q2.grown g2 (by omega) (fun j hj => by have h9 : S = j := Option.some.inj hj; omega)
    exact ⟨e3.setCell (by exact Nat.le_refl _) _, Fk.Own.mono (ownsRow_setCell_below ho (by show w.heap.size < _; omega) _) (by omega)⟩
  have hne : some w.heap.size ≠ some S := fun e => by have h9 : w.heap.size = S := Option.some.inj e; have := H1.out.2.2.2.1; omega
  have r4 : w2.cell? ⟨w.heap.size, 0, none⟩ = some (.slice none 0 0) := (g2.cell_far ⟨w.heap.size, 0, none⟩ (by have := H1.out.2.2.2; show w.heap.size < _; omega) hne).trans H1.out.2.2.1.1
  have f4 : ∀ j, w2.frozen? ⟨w.heap.size, j, none⟩ = false := fun j => (g2.frozen_far ⟨w.heap.size, j, none⟩ (by have := H1.out.2.2.2; show w.heap.size < _; omega) hne).trans (H1.out.2.2.1.2 j)
  clear hf ho s2 g2 H1 hne
  go_wp2_with fail
  have g1 : (w2.setCell ⟨w.heap.size, 0, none⟩ (.slice ua un uc)).cell? ⟨w.heap.size, 0, none⟩ = some (.slice ua un uc) := World.cell?_setCell_same _ _ _ r4
  refine bodyPost_ret (v := .agg #[.slice ua un uc]) (by simp [results, Tryz.results6, go_sem, g1]) rfl ?_
  first | exact ⟨⟨_, R, rfl, H4.out.2, HF.out, hRl⟩, H4.out.1⟩ | exact ⟨⟨_, rfl, R, H4.out.2, HF.out, hRl⟩, H4.out.1⟩

set_option maxHeartbeats 8000000 in
theorem drawJournalDrop_any (B : Nat) (a : Option Addr) (n c : Nat) (w : World) (hB : B ≤ w.heap.size) (hn : n ≤ 1048576) (hby : Dk.Bytes B w a n) :
    Calls Tryz.prog 8 #[.slice a n c] w fun e w' => (∃ u R, e = .returned (.agg #[u]) ∧ Fk.Own w' w.heap.size 75 u R ∧ Dj.Fit R ∧ R.length ≤ 2000) ∧ Below w.heap.size w w' := by
  have b0 : Below w.heap.size w (w.alloc (.cells #[.slice none 0 0] 25)) := (Below.refl _ _).alloc (Nat.le_refl _) _
  have hby0 := Fk.hide (hby.grown hB (Fk.grownBy_below none b0) (fun _ _ => by simp))
  obtain ⟨W0, hW0⟩ : ∃ W, W = w.alloc (.cells #[.slice none 0 0] 25) := ⟨_, rfl⟩
  have r0 : W0.cell? ⟨w.heap.size, 0, none⟩ = some (.slice none 0 0) := by rw [hW0, Fk.cellTop _ _ _ _ _ rfl]; rfl
  have f0 : ∀ j, W0.frozen? ⟨w.heap.size, j, none⟩ = false := fun j => by rw [hW0, Fk.frozTop _ _ _ _ _ rfl]
  have hz0 : W0.heap.size = w.heap.size + 1 := by rw [hW0]; simp
  rw [← hW0] at b0 hby0
  have HW0 := Fk.hide hW0
  have H0 := Fk.hide (⟨b0, r0, f0, hz0⟩ : Below w.heap.size w W0 ∧ _ ∧ (∀ j, _) ∧ _)
  clear hW0 b0 r0 f0 hz0 hby
  go_enter Tryz.func8, Tryz.ntmps8
  go_wp2_with fail
  rw [← HW0.out]
  refine (source_any B a n c W0 (by have := H0.out.2.2.2; omega) hn hby0.out).mono ?_
  rintro e w1 ⟨rfl, s1, b1⟩
  obtain ⟨S, hS⟩ : ∃ S, S = W0.heap.size := ⟨_, rfl⟩
  rw [← hS] at s1 ⊢
  have H1 : Hid (Dk.Src B w1 S ∧ Below w.heap.size w w1 ∧ (w1.cell? ⟨w.heap.size, 0, none⟩ = some (.slice none 0 0) ∧ ∀ j, w1.frozen? ⟨w.heap.size, j, none⟩ = false) ∧ S = w.heap.size + 1 ∧ S < w1.heap.size) := by
    obtain ⟨q1, q2, q3, q4⟩ := H0.out
    exact ⟨s1, q1.trans (b1.mono (by omega)), ⟨(b1.cell (by show w.heap.size < _; omega)).trans q2, fun j => (b1.frozen (by show w.heap.size < _; omega)).trans (q3 j)⟩, by rw [hS]; exact q4, s1.lt.2⟩
  clear hS s1 b1 HW0 H0 hby0
  go_wp2_with fail
  refine (l10Fs_any B S w1 H1.out.1).mono ?_
  rintro e w2 ⟨⟨u, R, rfl, ho, hf, hRl⟩, s2, g2⟩
  obtain ⟨ua, un, uc, rfl⟩ := ho.slice'
  have HF := Fk.hide hf
  have H4 : Hid (Below w.heap.size w (w2.setCell ⟨w.heap.size, 0, none⟩ (.slice ua un uc)) ∧ Fk.Own (w2.setCell ⟨w.heap.size, 0, none⟩ (.slice ua un uc)) w.heap.size 75 (.slice ua un uc) R) := by
    obtain ⟨q1, q2, q3, q4, q5⟩ := H1.out
    have e3 : Below w.heap.size w w2 := q2.grown g2 (by omega) (fun j hj => by have h9 : S = j := Option.some.inj hj; omega)
    exact ⟨e3.setCell (by exact Nat.le_refl _) _, Fk.Own.mono (ownsRow_setCell_below ho (by show w.heap.size < _; omega) _) (by omega)⟩
  have hne : some w.heap.size ≠ some S := fun e => by have h9 : w.heap.size = S := Option.some.inj e; have := H1.out.2.2.2.1; omega
  have r4 : w2.cell? ⟨w.heap.size, 0, none⟩ = some (.slice none 0 0) := (g2.cell_far ⟨w.heap.size, 0, none⟩ (by have := H1.out.2.2.2; show w.heap.size < _; omega) hne).trans H1.out.2.2.1.1
  have f4 : ∀ j, w2.frozen? ⟨w.heap.size, j, none⟩ = false := fun j => (g2.frozen_far ⟨w.heap.size, j, none⟩ (by have := H1.out.2.2.2; show w.heap.size < _; omega) hne).trans (H1.out.2.2.1.2 j)
  clear hf ho s2 g2 H1 hne
  go_wp2_with fail
  have g1 : (w2.setCell ⟨w.heap.size, 0, none⟩ (.slice ua un uc)).cell? ⟨w.heap.size, 0, none⟩ = some (.slice ua un uc) := World.cell?_setCell_same _ _ _ r4
  refine bodyPost_ret (v := .agg #[.slice ua un uc]) (by simp [results, Tryz.results8, go_sem, g1]) rfl ?_
  first | exact ⟨⟨_, R, rfl, H4.out.2, HF.out, hRl⟩, H4.out.1⟩ | exact ⟨⟨_, rfl, R, H4.out.2, HF.out, hRl⟩, H4.out.1⟩

set_option maxHeartbeats 8000000 in
theorem drawJournalRead_any (B : Nat) (a : Option Addr) (n c : Nat) (w : World) (hB : B ≤ w.heap.size) (hn : n ≤ 1048576) (hby : Dk.Bytes B w a n) :
    Calls Tryz.prog 9 #[.slice a n c] w fun e w' => (∃ u R, e = .returned (.agg #[u]) ∧ Fk.Own w' w.heap.size 75 u R ∧ Dj.Fit R ∧ R.length ≤ 2000) ∧ Below w.heap.size w w' := by
  have b0 : Below w.heap.size w (w.alloc (.cells #[.slice none 0 0] 25)) := (Below.refl _ _).alloc (Nat.le_refl _) _
  have hby0 := Fk.hide (hby.grown hB (Fk.grownBy_below none b0) (fun _ _ => by simp))
  obtain ⟨W0, hW0⟩ : ∃ W, W = w.alloc (.cells #[.slice none 0 0] 25) := ⟨_, rfl⟩
  have r0 : W0.cell? ⟨w.heap.size, 0, none⟩ = some (.slice none 0 0) := by rw [hW0, Fk.cellTop _ _ _ _ _ rfl]; rfl
  have f0 : ∀ j, W0.frozen? ⟨w.heap.size, j, none⟩ = false := fun j => by rw [hW0, Fk.frozTop _ _ _ _ _ rfl]
  have hz0 : W0.heap.size = w.heap.size + 1 := by rw [hW0]; simp
  rw [← hW0] at b0 hby0
  have HW0 := Fk.hide hW0
  have H0 := Fk.hide (⟨b0, r0, f0, hz0⟩ : Below w.heap.size w W0 ∧ _ ∧ (∀ j, _) ∧ _)
  clear hW0 b0 r0 f0 hz0 hby
  go_enter Tryz.func9, Tryz.ntmps9
  go_wp2_with fail
  rw [← HW0.out]
  refine (source_any B a n c W0 (by have := H0.out.2.2.2; omega) hn hby0.out).mono ?_
  rintro e w1 ⟨rfl, s1, b1⟩
  obtain ⟨S, hS⟩ : ∃ S, S = W0.heap.size := ⟨_, rfl⟩
  rw [← hS] at s1 ⊢
  have H1 : Hid (Dk.Src B w1 S ∧ Below w.heap.size w w1 ∧ (w1.cell? ⟨w.heap.size, 0, none⟩ = some (.slice none 0 0) ∧ ∀ j, w1.frozen? ⟨w.heap.size, j, none⟩ = false) ∧ S = w.heap.size + 1 ∧ S < w1.heap.size) := by
    obtain ⟨q1, q2, q3, q4⟩ := H0.out
    exact ⟨s1, q1.trans (b1.mono (by omega)), ⟨(b1.cell (by show w.heap.size < _; omega)).trans q2, fun j => (b1.frozen (by show w.heap.size < _; omega)).trans (q3 j)⟩, by rw [hS]; exact q4, s1.lt.2⟩
  clear hS s1 b1 HW0 H0 hby0
  go_wp2_with fail
  refine (l10Fs_any B S w1 H1.out.1).mono ?_
  rintro e w2 ⟨⟨u, R, rfl, ho, hf, hRl⟩, s2, g2⟩
  obtain ⟨ua, un, uc, rfl⟩ := ho.slice'
  have HF := Fk.hide hf
  have H4 : Hid (Below w.heap.size w (w2.setCell ⟨w.heap.size, 0, none⟩ (.slice ua un uc)) ∧ Fk.Own (w2.setCell ⟨w.heap.size, 0, none⟩ (.slice ua un uc)) w.heap.size 75 (.slice ua un uc) R) := by
    obtain ⟨q1, q2, q3, q4, q5⟩ := H1.out
    have e3 : Below w.heap.size w w2 := q2.grown g2 (by omega) (fun j hj => by have h9 : S = j := Option.some.inj hj; omega)
    exact ⟨e3.setCell (by exact Nat.le_refl _) _, Fk.Own.mono (ownsRow_setCell_below ho (by show w.heap.size < _; omega) _) (by omega)⟩
  have hne : some w.heap.size ≠ some S := fun e => by have h9 : w.heap.size = S := Option.some.inj e; have := H1.out.2.2.2.1; omega
  have r4 : w2.cell? ⟨w.heap.size, 0, none⟩ = some (.slice none 0 0) := (g2.cell_far ⟨w.heap.size, 0, none⟩ (by have := H1.out.2.2.2; show w.heap.size < _; omega) hne).trans H1.out.2.2.1.1
  have f4 : ∀ j, w2.frozen? ⟨w.heap.size, j, none⟩ = false := fun j => (g2.frozen_far ⟨w.heap.size, j, none⟩ (by have := H1.out.2.2.2; show w.heap.size < _; omega) hne).trans (H1.out.2.2.1.2 j)
  clear hf ho s2 g2 H1 hne
  go_wp2_with fail
  have g1 : (w2.setCell ⟨w.heap.size, 0, none⟩ (.slice ua un uc)).cell? ⟨w.heap.size, 0, none⟩ = some (.slice ua un uc) := World.cell?_setCell_same _ _ _ r4
  refine bodyPost_ret (v := .agg #[.slice ua un uc]) (by simp [results, Tryz.results9, go_sem, g1]) rfl ?_
  first | exact ⟨⟨_, R, rfl, H4.out.2, HF.out, hRl⟩, H4.out.1⟩ | exact ⟨⟨_, rfl, R, H4.out.2, HF.out, hRl⟩, H4.out.1⟩
end Go.Proofs.YtojdfdlbdpdlkaaGreatDoor
