/- What the specification's drawing calls keep from draw to draw: their files behind a variable, their result's variable, their source. The walk of the specification's drawn files with a name. The walks of the specification's drawing calls over files. The walk of the specification's drawn files with a list of numbers. -/
import Derived.Test.YtlmbejldnfkfhaaDoorDrawFs
import Derived.Test.YtlmbejldnfkfhaaDoorJoined1
import Derived.Test.YtlmbejldnfkfhaaDoorNumKit
namespace Go.Proofs.YtlmbejldnfkfhaaDoor
open Go.RowKit
set_option linter.unusedVariables false
set_option linter.unusedSimpArgs false
namespace Dk
def Bx (B S : Nat) (w wr : World) (fb : Nat) (u : Value) (R : List Fk.Fl) : Prop :=
  wr.cell? ⟨fb, 0, none⟩ = some u ∧ (wr.cell? ⟨w.heap.size, 0, none⟩ = some (.slice none 0 0) ∧ ∀ j, wr.frozen? ⟨w.heap.size, j, none⟩ = false) ∧ Fk.Own wr (w.heap.size + 1) 48 u R ∧ Src B wr S ∧ Below w.heap.size w wr ∧ (w.heap.size < fb ∧ fb < wr.heap.size ∧ w.heap.size < S ∧ fb ≠ S) ∧ u.ownBlock ≠ some S
theorem Bx.draw {B S fb : Nat} {w wr w' : World} {u : Value} {R : List Fk.Fl} (h : Bx B S w wr fb u R) (hs : Src B w' S) (hg : wr.grownBy w' (some S)) : Bx B S w w' fb u R := by
  obtain ⟨h1, ⟨r1, r2⟩, h3, h4, h5, ⟨h6, h7, h8, h9⟩, h10⟩ := h
  have hw : w.heap.size < wr.heap.size := by omega
  refine ⟨(hg.cell_far ⟨fb, 0, none⟩ h7 (fun e => h9 (Option.some.inj e))).trans h1, ⟨(hg.cell_far ⟨w.heap.size, 0, none⟩ hw (fun e => by have h11 : w.heap.size = S := Option.some.inj e; omega)).trans r1, fun j => (hg.frozen_far ⟨w.heap.size, j, none⟩ hw (fun e => by have h11 : w.heap.size = S := Option.some.inj e; omega)).trans (r2 j)⟩, World.ownsRow.kept h3 hg ?_, hs, h5.grown hg (by omega) (fun j hj => by have h11 : S = j := Option.some.inj hj; omega), ⟨h6, Nat.lt_of_lt_of_le h7 hg.size, h8, h9⟩, h10⟩
  cases hv : u.ownBlock with
  | none => exact .inl rfl
  | some g => exact .inr (fun e => h10 (by rw [hv]; exact e))
theorem Bx.below {B S fb : Nat} {w wr w' : World} {u : Value} {R : List Fk.Fl} (h : Bx B S w wr fb u R) (hb : Below wr.heap.size wr w') : Bx B S w w' fb u R := by
  obtain ⟨h1, ⟨r1, r2⟩, h3, h4, h5, ⟨h6, h7, h8, h9⟩, h10⟩ := h
  have hw : w.heap.size < wr.heap.size := by omega
  exact ⟨(hb.cell h7).trans h1, ⟨(hb.cell hw).trans r1, fun j => (hb.frozen hw).trans (r2 j)⟩, Fk.Own.below h3 hb, h4.below hb, h5.trans (hb.mono (Nat.le_of_lt hw)), ⟨h6, Nat.lt_of_lt_of_le h7 hb.size, h8, h9⟩, h10⟩
/-- the files are handed over -/
theorem Bx.done {B S fb : Nat} {w wr : World} {u : Value} {R : List Fk.Fl} (h : Bx B S w wr fb u R) : Fk.Own (wr.setCell ⟨w.heap.size, 0, none⟩ u) w.heap.size 48 u R ∧ Below w.heap.size w (wr.setCell ⟨w.heap.size, 0, none⟩ u) := by
  obtain ⟨h1, ⟨r1, r2⟩, h3, h4, h5, ⟨h6, h7, h8, h9⟩, h10⟩ := h
  exact ⟨Fk.Own.mono (ownsRow_setCell_below h3 (by show w.heap.size < w.heap.size + 1; omega) _) (by omega), h5.setCell (by exact Nat.le_refl _) _⟩
/-- the bytes that 'make([]byte, n)' makes, and their text -/
def zo (n : Int) : Obj := .cells ((List.replicate n.toNat (0 : Int)).map (Value.int .u8)).toArray 5
def zt (n : Int) : ByteArray := strOfNums (List.replicate n.toNat 0)
theorem zt_size (n : Int) (h : 0 ≤ n) : ((zt n).size : Int) = n := by
  have e : (strOfNums (List.replicate n.toNat 0)).size = n.toNat := by show (strOfNums _).data.size = _; simp [strOfNums]
  unfold zt
  rw [e]; omega
theorem zero_make (X : World) (n : Int) (h0 : 0 ≤ n) (h1 : n ≤ 100000) : (Instr.makeSlice 22 (.int .i64 n) (.int .i64 n)).run Tryd.prog X = .ok (.slice (some ⟨X.heap.size, 0, none⟩) n.toNat n.toNat) (X.alloc (zo n)) := by
  obtain ⟨i0, hi, hz0, hz1, hz2⟩ := info_parts Tryd.infoU8
  have hrun := run_make (P := Tryd.prog) X 22 5 i0 (.int .u8 0) Tryd.underlying22 hi hz0 .i64 .i64 n n h0 (Int.le_refl _) (by rw [hz2]; omega) (by omega)
  have e1 : madeCells (Value.int .u8 0).cells (n.toNat * i0.size) = ((List.replicate n.toNat (0 : Int)).map (Value.int .u8)).toArray := by
    rw [hz1]
    apply Array.ext
    · simp [size_madeCells]
    · intro j _ _
      simp [madeCells, Value.cells, Nat.mod_one]
  rw [e1] at hrun
  exact hrun
theorem zero_text (X W' : World) (n : Int) (hW : ∀ j, W'.cell? ⟨X.heap.size, j, none⟩ = (X.alloc (zo n)).cell? ⟨X.heap.size, j, none⟩) : (convert 22 9 (.slice (some ⟨X.heap.size, 0, none⟩) n.toNat n.toNat)).run Tryd.prog W' = .ok (.string (zt n)) W' := by
  refine run_convert_bytes_arg _ 22 5 Tryd.underlying22 Tryd.underlying5 _ 0 n.toNat n.toNat (List.replicate n.toNat 0) (by simp) (fun i hi => ?_) 9 Tryd.underlying9
  rw [hW]
  unfold zo
  rw [Fk.cellTop _ _ _ _ _ rfl]
  simp [hi, List.getD]
end Dk
end Go.Proofs.YtlmbejldnfkfhaaDoor

namespace Go.Proofs.YtlmbejldnfkfhaaDoor
open Go.RowKit
set_option linter.unusedVariables false
set_option linter.unusedSimpArgs false

set_option maxHeartbeats 8000000 in
theorem drawFsRead_any (B : Nat) (a : Option Addr) (n c : Nat) (w : World) (hB : B ≤ w.heap.size) (hn : n ≤ 1048576) (hby : Dk.Bytes B w a n) :
    Calls Tryd.prog 67 #[.slice a n c] w fun e w' => (∃ u R t, e = .returned (.tuple #[.agg #[u], .string t]) ∧ Fk.Own w' w.heap.size 48 u R ∧ Dk.Fit R ∧ R.length ≤ 2000 ∧ t.size ≤ 100) ∧ Below w.heap.size w w' := by
  have b0 : Below w.heap.size w (w.alloc (.cells #[.slice none 0 0] 25)) := (Below.refl _ _).alloc (Nat.le_refl _) _
  have hby0 := Fk.hide (hby.grown hB (Fk.grownBy_below none b0) (fun _ _ => by simp))
  obtain ⟨W0, hW0⟩ : ∃ W, W = w.alloc (.cells #[.slice none 0 0] 25) := ⟨_, rfl⟩
  have r0 : W0.cell? ⟨w.heap.size, 0, none⟩ = some (.slice none 0 0) := by rw [hW0, Fk.cellTop _ _ _ _ _ rfl]; rfl
  have f0 : ∀ j, W0.frozen? ⟨w.heap.size, j, none⟩ = false := fun j => by rw [hW0, Fk.frozTop _ _ _ _ _ rfl]
  have hz0 : W0.heap.size = w.heap.size + 1 := by rw [hW0]; simp
  rw [← hW0] at b0 hby0
  have HW0 := Fk.hide hW0
  have H0 := Fk.hide (⟨b0, r0, f0, hz0⟩ : Below w.heap.size w W0 ∧ _ ∧ (∀ j, _) ∧ _)
  clear hW0 b0 r0 f0 hz0 hby
  go_enter Tryd.func67, Tryd.ntmps67
  go_wp2_with fail
  rw [← HW0.out]
  refine (source_any B a n c W0 (by have := H0.out.2.2.2; omega) hn hby0.out).mono ?_
  rintro e w1 ⟨rfl, s1, b1⟩
  obtain ⟨S, hS⟩ : ∃ S, S = W0.heap.size := ⟨_, rfl⟩
  rw [← hS] at s1 ⊢
  have H1 : Hid (Dk.Src B w1 S ∧ Below w.heap.size w w1 ∧ (w1.cell? ⟨w.heap.size, 0, none⟩ = some (.slice none 0 0) ∧ ∀ j, w1.frozen? ⟨w.heap.size, j, none⟩ = false) ∧ S = w.heap.size + 1 ∧ S < w1.heap.size) := by
    obtain ⟨q1, q2, q3, q4⟩ := H0.out
    exact ⟨s1, q1.trans (b1.mono (by omega)), ⟨(b1.cell (by show w.heap.size < _; omega)).trans q2, fun j => (b1.frozen (by show w.heap.size < _; omega)).trans (q3 j)⟩, by rw [hS]; exact q4, s1.lt.2⟩
  clear hS s1 b1 HW0 H0 hby0
  go_wp2_with fail
  refine (drawFs_any B S w1 H1.out.1).mono ?_
  rintro e w2 ⟨⟨u, R, rfl, ho, hf, hRl⟩, s2, g2⟩
  obtain ⟨ua, un, uc, rfl⟩ := ho.slice'
  obtain ⟨fb, hfb⟩ : ∃ b, b = w2.heap.size := ⟨_, rfl⟩
  have H2 : Hid (Dk.Bx B S w (w2.alloc (.cells #[.slice ua un uc] 25)) fb (.slice ua un uc) R) := by
    obtain ⟨q1, q2, ⟨q3, q4⟩, q5, q6⟩ := H1.out
    have bb : Below w2.heap.size w2 (w2.alloc (.cells #[.slice ua un uc] 25)) := (Below.refl _ _).alloc (Nat.le_refl _) _
    have hz := g2.size
    have hne : some w.heap.size ≠ some S := fun e => by have h9 : w.heap.size = S := Option.some.inj e; omega
    have e1 := (g2.cell_far ⟨w.heap.size, 0, none⟩ (by show w.heap.size < _; omega) hne).trans q3
    have e2 : ∀ j, w2.frozen? ⟨w.heap.size, j, none⟩ = false := fun j => (g2.frozen_far ⟨w.heap.size, j, none⟩ (by show w.heap.size < _; omega) hne).trans (q4 j)
    have e3 : Below w.heap.size w w2 := q2.grown g2 (by omega) (fun j hj => by have h9 : S = j := Option.some.inj hj; omega)
    subst hfb
    exact ⟨by rw [Fk.cellTop _ _ _ _ _ rfl]; rfl, ⟨(bb.cell (by show w.heap.size < _; omega)).trans e1, fun j => (bb.frozen (by show w.heap.size < _; omega)).trans (e2 j)⟩, Fk.Own.mono (Fk.Own.below ho bb) (by omega), s2.below bb, e3.trans (bb.mono (by omega)), ⟨by omega, by simp, by omega, by omega⟩, fun e => by have := (World.ownsRow.lt ho S e).1; omega⟩
  have HF := Fk.hide hf
  obtain ⟨W2, hW2⟩ : ∃ W, W = w2.alloc (.cells #[.slice ua un uc] 25) := ⟨_, rfl⟩
  have HW2 := Fk.hide hW2
  have HFB := Fk.hide hfb
  rw [← hW2] at H2
  clear hf ho s2 g2 H1 hW2 hfb
  go_wp2_with fail
  rw [← HW2.out, ← HFB.out]
  refine (drawOne_any B S 15 _ H2.out.2.2.2.1 (by omega)).mono ?_
  rintro e w3 ⟨⟨q, rfl⟩, s3, g3⟩
  have H3 := Fk.hide (H2.out.draw s3 g3)
  clear s3 g3 H2 HW2 HFB
  have c3 := H3.out.1
  cases q
  · have r3 := H3.out.2.1.1
    have f3 := H3.out.2.1.2
    have HD3 := Fk.hide (H3.out.below (Below.drew (Below.refl _ _)))
    clear r3 f3
    go_wp2_with fail
    set_option maxRecDepth 20000 in
    go_region_law
      (first | (go_simp; go_at_call 123; refine (drawName_any B S _ HD3.out.2.2.2.1).mono ?_; rintro e w4 ⟨⟨t, rfl, ht⟩, s4, g4⟩; have H4 := Fk.hide (HD3.out.draw s4 g4); have c4 := H4.out.1; have r4 := H4.out.2.1.1; have f4 := H4.out.2.1.2; have HT : Hid (t.size ≤ 100) := (by show t.size ≤ 100; unfold Dk.names at ht; simp only [List.mem_cons, List.not_mem_nil, or_false] at ht; rcases ht with rfl | rfl | rfl | rfl <;> decide); clear s4 g4 ht; go_wp2_with fail))
    all_goals
      clear c3
      have HE := Fk.hide H4.out.done
      have g1 : (w4.setCell ⟨w.heap.size, 0, none⟩ (.slice ua un uc)).cell? ⟨w.heap.size, 0, none⟩ = some (.slice ua un uc) := World.cell?_setCell_same _ _ _ r4
      clear c4 r4 f4
      go_wp2_with fail
      refine bodyPost_ret (v := .tuple #[.agg #[.slice ua un uc], .string t]) (by simp [results, Tryd.results67, go_sem, g1]) rfl ?_
      exact ⟨⟨_, R, t, rfl, HE.out.1, HF.out, hRl, HT.out⟩, HE.out.2⟩
  ·
    have bA : Below w3.heap.size w3 (w3.drew.alloc (.cells #[.string ⟨#[]⟩, .string ⟨#[65]⟩] 9)) := (Below.drew (Below.refl _ _)).alloc (Nat.le_refl _) _
    have HT3 : Hid (∀ i, i < 2 → (w3.drew.alloc (.cells #[.string ⟨#[]⟩, .string ⟨#[65]⟩] 9)).cell? ⟨w3.heap.size, i, none⟩ = some (.string (([⟨#[]⟩, ⟨#[65]⟩] : List ByteArray).getD i ByteArray.empty))) := by
      intro i hi
      rw [Fk.cellTop w3.drew _ _ w3.heap.size _ rfl]
      match i, hi with
      | 0, _ => rfl
      | 1, _ => rfl
    have HA3 := Fk.hide (H3.out.below bA)
    have c3a : ∀ o, (w3.alloc o).drew.cell? ⟨fb, 0, none⟩ = some (.slice ua un uc) := fun o => (H3.out.below (Below.drew ((Below.refl _ _).alloc (Nat.le_refl _) o))).1
    have hS3 : Hid (w3.heap.size ≠ S) := by have := H3.out.2.2.2.1.lt; show _ ≠ _; omega
    clear bA
    go_wp2_with fail
    set_option maxRecDepth 20000 in
    go_region_law
      (first | (go_simp; go_at_call 124; refine (drawPick_any B S w3.heap.size 2 2 [⟨#[]⟩, ⟨#[65]⟩] _ HA3.out.2.2.2.1 hS3.out rfl (by decide) (by decide) HT3.out).mono ?_; rintro e w4 ⟨⟨t, rfl, ht⟩, s4, g4⟩; have H4 := Fk.hide (HA3.out.draw s4 g4); have c4 := H4.out.1; have r4 := H4.out.2.1.1; have f4 := H4.out.2.1.2; have HT : Hid (t.size ≤ 100) := (by show t.size ≤ 100; simp only [List.mem_cons, List.not_mem_nil, or_false] at ht; rcases ht with rfl | rfl <;> decide); clear s4 g4 ht; go_wp2_with fail))
    all_goals
      clear c3 c3a
      have HE := Fk.hide H4.out.done
      have g1 : (w4.setCell ⟨w.heap.size, 0, none⟩ (.slice ua un uc)).cell? ⟨w.heap.size, 0, none⟩ = some (.slice ua un uc) := World.cell?_setCell_same _ _ _ r4
      clear c4 r4 f4
      go_wp2_with fail
      refine bodyPost_ret (v := .tuple #[.agg #[.slice ua un uc], .string t]) (by simp [results, Tryd.results67, go_sem, g1]) rfl ?_
      exact ⟨⟨_, R, t, rfl, HE.out.1, HF.out, hRl, HT.out⟩, HE.out.2⟩
end Go.Proofs.YtlmbejldnfkfhaaDoor

namespace Go.Proofs.YtlmbejldnfkfhaaDoor
open Go.RowKit
set_option linter.unusedVariables false
set_option linter.unusedSimpArgs false

set_option maxHeartbeats 8000000 in
theorem drawFsSync_any (B : Nat) (a : Option Addr) (n c : Nat) (w : World) (hB : B ≤ w.heap.size) (hn : n ≤ 1048576) (hby : Dk.Bytes B w a n) :
    Calls Tryd.prog 12 #[.slice a n c] w fun e w' => (∃ u R t, e = .returned (.tuple #[.agg #[u], .string t]) ∧ Fk.Own w' w.heap.size 48 u R ∧ Dk.Fit R ∧ R.length ≤ 2000 ∧ t.size ≤ 100) ∧ Below w.heap.size w w' := by
  have b0 : Below w.heap.size w (w.alloc (.cells #[.slice none 0 0] 25)) := (Below.refl _ _).alloc (Nat.le_refl _) _
  have hby0 := Fk.hide (hby.grown hB (Fk.grownBy_below none b0) (fun _ _ => by simp))
  obtain ⟨W0, hW0⟩ : ∃ W, W = w.alloc (.cells #[.slice none 0 0] 25) := ⟨_, rfl⟩
  have r0 : W0.cell? ⟨w.heap.size, 0, none⟩ = some (.slice none 0 0) := by rw [hW0, Fk.cellTop _ _ _ _ _ rfl]; rfl
  have f0 : ∀ j, W0.frozen? ⟨w.heap.size, j, none⟩ = false := fun j => by rw [hW0, Fk.frozTop _ _ _ _ _ rfl]
  have hz0 : W0.heap.size = w.heap.size + 1 := by rw [hW0]; simp
  rw [← hW0] at b0 hby0
  have HW0 := Fk.hide hW0
  have H0 := Fk.hide (⟨b0, r0, f0, hz0⟩ : Below w.heap.size w W0 ∧ _ ∧ (∀ j, _) ∧ _)
  clear hW0 b0 r0 f0 hz0 hby
  go_enter Tryd.func12, Tryd.ntmps12
  go_wp2_with fail
  rw [← HW0.out]
  refine (drawFsRead_any B a n c W0 (by have := H0.out.2.2.2; omega) hn hby0.out).mono ?_
  rintro e w1 ⟨⟨u, R, t, rfl, ho, hf, hRl, ht⟩, b1⟩
  obtain ⟨ua, un, uc, rfl⟩ := ho.slice'
  have HF := Fk.hide hf
  have HT1 := Fk.hide ht
  have H4 : Hid (Below w.heap.size w (w1.setCell ⟨w.heap.size, 0, none⟩ (.slice ua un uc)) ∧ Fk.Own (w1.setCell ⟨w.heap.size, 0, none⟩ (.slice ua un uc)) w.heap.size 48 (.slice ua un uc) R) := by
    obtain ⟨q1, q2, q3, q4⟩ := H0.out
    exact ⟨(q1.trans (b1.mono (by omega))).setCell (by exact Nat.le_refl _) _, Fk.Own.mono (ownsRow_setCell_below ho (by show w.heap.size < _; omega) _) (by omega)⟩
  have r4 : w1.cell? ⟨w.heap.size, 0, none⟩ = some (.slice none 0 0) := (b1.cell (by have := H0.out.2.2.2; show w.heap.size < _; omega)).trans H0.out.2.1
  have f4 : ∀ j, w1.frozen? ⟨w.heap.size, j, none⟩ = false := fun j => (b1.frozen (by have := H0.out.2.2.2; show w.heap.size < _; omega)).trans (H0.out.2.2.1 j)
  clear hf ht ho b1 H0 hby0 HW0
  go_wp2_with fail
  have g1 : (w1.setCell ⟨w.heap.size, 0, none⟩ (.slice ua un uc)).cell? ⟨w.heap.size, 0, none⟩ = some (.slice ua un uc) := World.cell?_setCell_same _ _ _ r4
  refine bodyPost_ret (v := .tuple #[.agg #[.slice ua un uc], .string t]) (by simp [results, Tryd.results12, go_sem, g1]) rfl ?_
  exact ⟨⟨_, R, t, rfl, H4.out.2, HF.out, hRl, HT1.out⟩, H4.out.1⟩
set_option maxHeartbeats 8000000 in
theorem drawFsCut_any (B : Nat) (a : Option Addr) (n c : Nat) (w : World) (hB : B ≤ w.heap.size) (hn : n ≤ 1048576) (hby : Dk.Bytes B w a n) :
    Calls Tryd.prog 14 #[.slice a n c] w fun e w' => (∃ u R t x, e = .returned (.tuple #[.agg #[u], .string t, .int .i64 x]) ∧ Fk.Own w' w.heap.size 48 u R ∧ Dk.Fit R ∧ R.length ≤ 2000 ∧ t.size ≤ 100 ∧ (-9223372036854775808 ≤ x ∧ x ≤ 9223372036854775807)) ∧ Below w.heap.size w w' := by
  have b0 : Below w.heap.size w (w.alloc (.cells #[.slice none 0 0] 25)) := (Below.refl _ _).alloc (Nat.le_refl _) _
  have hby0 := Fk.hide (hby.grown hB (Fk.grownBy_below none b0) (fun _ _ => by simp))
  obtain ⟨W0, hW0⟩ : ∃ W, W = w.alloc (.cells #[.slice none 0 0] 25) := ⟨_, rfl⟩
  have r0 : W0.cell? ⟨w.heap.size, 0, none⟩ = some (.slice none 0 0) := by rw [hW0, Fk.cellTop _ _ _ _ _ rfl]; rfl
  have f0 : ∀ j, W0.frozen? ⟨w.heap.size, j, none⟩ = false := fun j => by rw [hW0, Fk.frozTop _ _ _ _ _ rfl]
  have hz0 : W0.heap.size = w.heap.size + 1 := by rw [hW0]; simp
  rw [← hW0] at b0 hby0
  have HW0 := Fk.hide hW0
  have H0 := Fk.hide (⟨b0, r0, f0, hz0⟩ : Below w.heap.size w W0 ∧ _ ∧ (∀ j, _) ∧ _)
  clear hW0 b0 r0 f0 hz0 hby
  go_enter Tryd.func14, Tryd.ntmps14
  go_wp2_with fail
  rw [← HW0.out]
  refine (drawFsRead_any B a n c W0 (by have := H0.out.2.2.2; omega) hn hby0.out).mono ?_
  rintro e w1 ⟨⟨u, R, t, rfl, ho, hf, hRl, ht⟩, b1⟩
  obtain ⟨ua, un, uc, rfl⟩ := ho.slice'
  have HF := Fk.hide hf
  have HT1 := Fk.hide ht
  obtain ⟨fb, hfb⟩ : ∃ b, b = w1.heap.size := ⟨_, rfl⟩
  have H1 : Hid (Below w.heap.size w (w1.alloc (.cells #[.slice ua un uc] 25)) ∧ Dk.Bytes B (w1.alloc (.cells #[.slice ua un uc] 25)) a n ∧ ((w1.alloc (.cells #[.slice ua un uc] 25)).cell? ⟨w.heap.size, 0, none⟩ = some (.slice none 0 0) ∧ ∀ j, (w1.alloc (.cells #[.slice ua un uc] 25)).frozen? ⟨w.heap.size, j, none⟩ = false) ∧ (w1.alloc (.cells #[.slice ua un uc] 25)).cell? ⟨fb, 0, none⟩ = some (.slice ua un uc) ∧ Fk.Own (w1.alloc (.cells #[.slice ua un uc] 25)) (w.heap.size + 1) 48 (.slice ua un uc) R ∧ w.heap.size < fb ∧ (w1.alloc (.cells #[.slice ua un uc] 25)).heap.size = fb + 1) := by
    obtain ⟨q1, q2, q3, q4⟩ := H0.out
    have bb : Below w1.heap.size w1 (w1.alloc (.cells #[.slice ua un uc] 25)) := (Below.refl _ _).alloc (Nat.le_refl _) _
    have hz := b1.size
    subst hfb
    exact ⟨(q1.trans (b1.mono (by omega))).trans (bb.mono (by omega)), (hby0.out.grown (by omega) (Fk.grownBy_below none b1) (fun _ _ => by simp)).grown (by omega) (Fk.grownBy_below none bb) (fun _ _ => by simp), ⟨(bb.cell (by show w.heap.size < _; omega)).trans ((b1.cell (by show w.heap.size < _; omega)).trans q2), fun j => (bb.frozen (by show w.heap.size < _; omega)).trans ((b1.frozen (by show w.heap.size < _; omega)).trans (q3 j))⟩, by rw [Fk.cellTop _ _ _ _ _ rfl]; rfl, Fk.Own.mono (Fk.Own.below ho bb) (by omega), by omega, by simp⟩
  obtain ⟨W1, hW1⟩ : ∃ W, W = w1.alloc (.cells #[.slice ua un uc] 25) := ⟨_, rfl⟩
  have HW1 := Fk.hide hW1
  have HFB := Fk.hide hfb
  rw [← hW1] at H1
  clear hf ht ho b1 H0 hby0 HW0 hW1 hfb
  go_wp2_with fail
  rw [← HW1.out, ← HFB.out]
  refine (source_any B a n c W1 (by have := H1.out; omega) hn H1.out.2.1).mono ?_
  rintro e w3 ⟨rfl, s3, b3⟩
  obtain ⟨S, hS⟩ : ∃ S, S = W1.heap.size := ⟨_, rfl⟩
  rw [← hS] at s3 ⊢
  have H3 : Hid (Dk.Bx B S w w3 fb (.slice ua un uc) R) := by
    obtain ⟨q1, q2, ⟨q3, q4⟩, q5, q6, q7, q8⟩ := H1.out
    exact ⟨(b3.cell (by show fb < _; omega)).trans q5, ⟨(b3.cell (by show w.heap.size < _; omega)).trans q3, fun j => (b3.frozen (by show w.heap.size < _; omega)).trans (q4 j)⟩, Fk.Own.below q6 b3, s3, q1.trans (b3.mono (by omega)), ⟨q7, by have := b3.size; omega, by omega, by omega⟩, fun e => by have := (World.ownsRow.lt q6 S e).2; omega⟩
  clear hS s3 b3 H1 HW1 HFB
  go_wp2_with fail
  refine (drawOne_any B S 10 _ H3.out.2.2.2.1 (by omega)).mono ?_
  rintro e w5 ⟨⟨q, rfl⟩, s5, g5⟩
  have H5 := Fk.hide (H3.out.draw s5 g5)
  clear s5 g5 H3
  have c5 := H5.out.1
  have HD5 := Fk.hide (H5.out.below (Below.drew (Below.refl _ _)))
  cases q
  · go_wp2_with fail
    set_option maxRecDepth 20000 in
    go_region_law
      (first
        | (go_simp; go_at_call 62; refine (drawN_any B S 6 _ HD5.out.2.2.2.1 (by omega)).mono ?_; rintro e w4 ⟨⟨x, rfl, hr0, hr1, _⟩, s4, g4⟩; have H4 := Fk.hide (HD5.out.draw s4 g4); have c4 := H4.out.1; have r4 := H4.out.2.1.1; have f4 := H4.out.2.1.2; have hr := hr1 (by omega); have HT : Hid (-9223372036854775808 ≤ x ∧ x ≤ 9223372036854775807) := (by show _ ∧ _; omega); clear s4 g4 hr1 hr0 hr; go_wp2_with fail))
    all_goals
      clear c5
      have HE := Fk.hide H4.out.done
      have g1 : (w4.setCell ⟨w.heap.size, 0, none⟩ (.slice ua un uc)).cell? ⟨w.heap.size, 0, none⟩ = some (.slice ua un uc) := World.cell?_setCell_same _ _ _ r4
      clear c4 r4 f4
      go_wp2_with fail
      refine bodyPost_ret (v := .tuple #[.agg #[.slice ua un uc], .string t, .int .i64 x]) (by simp [results, Tryd.results14, go_sem, g1]) rfl ?_
      exact ⟨⟨_, R, t, x, rfl, HE.out.1, HF.out, hRl, HT1.out, HT.out⟩, HE.out.2⟩
  · go_wp2_with fail
    set_option maxRecDepth 20000 in
    go_region_law
      (first
        | (go_simp; go_at_call 72; refine (drawEdge_any B S _ HD5.out.2.2.2.1).mono ?_; rintro e w4 ⟨⟨x, rfl, hx⟩, s4, g4⟩; have H4 := Fk.hide (HD5.out.draw s4 g4); have c4 := H4.out.1; have r4 := H4.out.2.1.1; have f4 := H4.out.2.1.2; have HT : Hid (-9223372036854775808 ≤ x ∧ x ≤ 9223372036854775807) := (by show _ ∧ _; unfold Dk.edges at hx; simp only [List.mem_cons, List.not_mem_nil, or_false] at hx; omega); clear s4 g4 hx; go_wp2_with fail))
    all_goals
      clear c5
      have HE := Fk.hide H4.out.done
      have g1 : (w4.setCell ⟨w.heap.size, 0, none⟩ (.slice ua un uc)).cell? ⟨w.heap.size, 0, none⟩ = some (.slice ua un uc) := World.cell?_setCell_same _ _ _ r4
      clear c4 r4 f4
      go_wp2_with fail
      refine bodyPost_ret (v := .tuple #[.agg #[.slice ua un uc], .string t, .int .i64 x]) (by simp [results, Tryd.results14, go_sem, g1]) rfl ?_
      exact ⟨⟨_, R, t, x, rfl, HE.out.1, HF.out, hRl, HT1.out, HT.out⟩, HE.out.2⟩
end Go.Proofs.YtlmbejldnfkfhaaDoor

namespace Go.Proofs.YtlmbejldnfkfhaaDoor
open Go.RowKit
set_option linter.unusedVariables false
set_option linter.unusedSimpArgs false
namespace Dk
/-- memory that has grown but for a block behind z, where all that is held lies ahead of z -/
theorem Bx.row {B S fb z : Nat} {w wr w' : World} {u : Value} {R : List Fk.Fl} {r : Option Nat} (h : Bx B S w wr fb u R) (hg : wr.grownBy w' r) (hz : ∀ j, r = some j → z ≤ j) (hf : fb < z) (hS : S < z) (hu : ∀ g, u.ownBlock = some g → g < z) (hB : B ≤ S) : Bx B S w w' fb u R := by
  obtain ⟨h1, ⟨r1, r2⟩, h3, h4, h5, ⟨h6, h7, h8, h9⟩, h10⟩ := h
  have hw : w.heap.size < wr.heap.size := by omega
  have ne : ∀ b, b < z → some b ≠ r := fun b hb e => by have := hz b e.symm; omega
  refine ⟨(hg.cell_far ⟨fb, 0, none⟩ h7 (ne fb hf)).trans h1, ⟨(hg.cell_far ⟨w.heap.size, 0, none⟩ hw (ne _ (by show w.heap.size < z; omega))).trans r1, fun j => (hg.frozen_far ⟨w.heap.size, j, none⟩ hw (ne _ (by show w.heap.size < z; omega))).trans (r2 j)⟩, World.ownsRow.kept h3 hg ?_, h4.far hg (ne S hS) (fun b hb => ne b (by omega)), h5.grown hg (by omega) (fun j hj => by have := hz j hj; omega), ⟨h6, Nat.lt_of_lt_of_le h7 hg.size, h8, h9⟩, h10⟩
  cases hv : u.ownBlock with
  | none => exact .inl rfl
  | some g => exact .inr (ne g (hu g hv))
end Dk

set_option maxHeartbeats 8000000 in
theorem drawFsCrash_any (B : Nat) (a : Option Addr) (n c : Nat) (w : World) (hB : B ≤ w.heap.size) (hn : n ≤ 1048576) (hby : Dk.Bytes B w a n) :
    Calls Tryd.prog 10 #[.slice a n c] w fun e w' => (∃ u R v T, e = .returned (.tuple #[.agg #[u], v]) ∧ Fk.Own w' w.heap.size 48 u R ∧ Dk.Fit R ∧ R.length ≤ 2000 ∧ Ik.Own w' w.heap.size 2 v T ∧ T.length ≤ 10) ∧ Below w.heap.size w w' := by
  have b0 : Below w.heap.size w (w.alloc (.cells #[.slice none 0 0] 25)) := (Below.refl _ _).alloc (Nat.le_refl _) _
  have hby0 := Fk.hide (hby.grown hB (Fk.grownBy_below none b0) (fun _ _ => by simp))
  obtain ⟨W0, hW0⟩ : ∃ W, W = w.alloc (.cells #[.slice none 0 0] 25) := ⟨_, rfl⟩
  have r0 : W0.cell? ⟨w.heap.size, 0, none⟩ = some (.slice none 0 0) := by rw [hW0, Fk.cellTop _ _ _ _ _ rfl]; rfl
  have f0 : ∀ j, W0.frozen? ⟨w.heap.size, j, none⟩ = false := fun j => by rw [hW0, Fk.frozTop _ _ _ _ _ rfl]
  have hz0 : W0.heap.size = w.heap.size + 1 := by rw [hW0]; simp
  rw [← hW0] at b0 hby0
  have HW0 := Fk.hide hW0
  have H0 := Fk.hide (⟨b0, r0, f0, hz0⟩ : Below w.heap.size w W0 ∧ _ ∧ (∀ j, _) ∧ _)
  clear hW0 b0 r0 f0 hz0 hby
  go_enter Tryd.func10, Tryd.ntmps10
  go_wp2_with fail
  rw [← HW0.out]
  refine (source_any B a n c W0 (by have := H0.out.2.2.2; omega) hn hby0.out).mono ?_
  rintro e w1 ⟨rfl, s1, b1⟩
  obtain ⟨S, hS⟩ : ∃ S, S = W0.heap.size := ⟨_, rfl⟩
  rw [← hS] at s1 ⊢
  have H1 : Hid (Dk.Src B w1 S ∧ Below w.heap.size w w1 ∧ (w1.cell? ⟨w.heap.size, 0, none⟩ = some (.slice none 0 0) ∧ ∀ j, w1.frozen? ⟨w.heap.size, j, none⟩ = false) ∧ S = w.heap.size + 1 ∧ S < w1.heap.size) := by
    obtain ⟨q1, q2, q3, q4⟩ := H0.out
    exact ⟨s1, q1.trans (b1.mono (by omega)), ⟨(b1.cell (by show w.heap.size < _; omega)).trans q2, fun j => (b1.frozen (by show w.heap.size < _; omega)).trans (q3 j)⟩, by rw [hS]; exact q4, s1.lt.2⟩
  clear hS s1 b1 HW0 H0 hby0
  go_wp2_with fail
  refine (drawFs_any B S w1 H1.out.1).mono ?_
  rintro e w2 ⟨⟨u, R, rfl, ho, hf, hRl⟩, s2, g2⟩
  obtain ⟨ua, un, uc, rfl⟩ := ho.slice'
  obtain ⟨fb, hfb⟩ : ∃ b, b = w2.heap.size := ⟨_, rfl⟩
  have H2 : Hid (Dk.Bx B S w (w2.alloc (.cells #[.slice ua un uc] 25)) fb (.slice ua un uc) R) := by
    obtain ⟨q1, q2, ⟨q3, q4⟩, q5, q6⟩ := H1.out
    have bb : Below w2.heap.size w2 (w2.alloc (.cells #[.slice ua un uc] 25)) := (Below.refl _ _).alloc (Nat.le_refl _) _
    have hz := g2.size
    have hne : some w.heap.size ≠ some S := fun e => by have h9 : w.heap.size = S := Option.some.inj e; omega
    have e1 := (g2.cell_far ⟨w.heap.size, 0, none⟩ (by show w.heap.size < _; omega) hne).trans q3
    have e2 : ∀ j, w2.frozen? ⟨w.heap.size, j, none⟩ = false := fun j => (g2.frozen_far ⟨w.heap.size, j, none⟩ (by show w.heap.size < _; omega) hne).trans (q4 j)
    have e3 : Below w.heap.size w w2 := q2.grown g2 (by omega) (fun j hj => by have h9 : S = j := Option.some.inj hj; omega)
    subst hfb
    exact ⟨by rw [Fk.cellTop _ _ _ _ _ rfl]; rfl, ⟨(bb.cell (by show w.heap.size < _; omega)).trans e1, fun j => (bb.frozen (by show w.heap.size < _; omega)).trans (e2 j)⟩, Fk.Own.mono (Fk.Own.below ho bb) (by omega), s2.below bb, e3.trans (bb.mono (by omega)), ⟨by omega, by simp, by omega, by omega⟩, fun e => by have := (World.ownsRow.lt ho S e).1; omega⟩
  have HF := Fk.hide hf
  obtain ⟨W2, hW2⟩ : ∃ W, W = w2.alloc (.cells #[.slice ua un uc] 25) := ⟨_, rfl⟩
  have HW2 := Fk.hide hW2
  have HFB := Fk.hide hfb
  rw [← hW2] at H2
  clear hf ho s2 g2 H1 hW2 hfb
  obtain ⟨z, hz⟩ : ∃ z, z = W2.heap.size := ⟨_, rfl⟩
  have HZ : Hid (fb < z ∧ S < z ∧ (∀ g, (Value.slice ua un uc).ownBlock = some g → g < z) ∧ B ≤ S ∧ w.heap.size < z) := by
    rw [hz]
    exact ⟨H2.out.2.2.2.2.2.1.2.1, H2.out.2.2.2.1.lt.2, fun g hg => (World.ownsRow.lt H2.out.2.2.1 g hg).2, H2.out.2.2.2.1.lt.1, by have := H2.out.2.2.2.2.2.1; omega⟩
  have H3 := Fk.hide (H2.out.below ((Below.refl _ _).alloc (Nat.le_refl _) (.cells #[] 2)))
  have HL3 : Hid (Ik.Own (W2.alloc (.cells #[] 2)) z 2 (.slice (some ⟨z, 0, none⟩) 0 0) []) := by
    rw [hz]
    exact Ik.own_empty W2 _ _ (Nat.le_refl _)
  have hzW : z ≤ (W2.alloc (.cells #[] 2)).heap.size := by rw [hz]; simp
  have HZW := Fk.hide hzW
  have HZ0 : Hid (z = fb + 1) := by show z = fb + 1; rw [hz, HW2.out, HFB.out]; simp
  clear hz hzW
  obtain ⟨i0, hi, hz0, hz1, hz2⟩ := info_parts infoI64
  go_wp2_with fail
  rw [← HW2.out, ← HFB.out, ← HZ0.out]
  refine (drawN_any B S 6 _ H3.out.2.2.2.1 (by omega)).mono ?_
  rintro e w4 ⟨⟨k0, rfl, hk0, hk1, _⟩, s4, g4⟩
  have hk := hk1 (by omega)
  have H4 := Fk.hide (H3.out.draw s4 g4)
  have HL4 : Hid (Ik.Own w4 z 2 (.slice (some ⟨z, 0, none⟩) 0 0) []) := HL3.out.kept g4 (fun k hk e => by have h9 : z = k := Option.some.inj hk; have h8 : k = S := Option.some.inj e; have := HZ.out; omega)
  have HZ4 : Hid (z ≤ w4.heap.size) := Nat.le_trans HZW.out g4.size
  clear s4 g4 hk1 H3 HL3 HZW HW2 HFB H2
  go_wp2_with fail
  go_loopw [6, 7] (fun l i wr => ∃ (k : Int) (T : List Int), i = .int .i64 k ∧ 0 ≤ k ∧ k ≤ 5 ∧ (T.length : Int) + k ≤ 5 ∧ Hid (Dk.Bx B S w wr fb (.slice ua un uc) R) ∧ Hid (Ik.Own wr z 2 l T) ∧ Hid (z ≤ wr.heap.size)) (fun _ i _ => (intOf i).toNat)
  case atStart => exact ⟨k0, [], rfl, hk0, by omega, by simp; omega, H4.out, HL4.out, HZ4.out⟩
  case round =>
    obtain ⟨k, T, rfl, hk0, hk5, hTk, HX, HT, HZR⟩ := hrel
    obtain ⟨m, hm⟩ : ∃ m, m = T.length := ⟨_, rfl⟩
    have HM := Fk.hide hm
    rw [← hm] at hTk
    clear hm
    by_cases hlt : 0 < k
    · go_wp2_with fail
      refine (drawN_any B S 6 _ HX.out.2.2.2.1 (by omega)).mono ?_
      rintro e w5 ⟨⟨r, rfl, hr0, hr1, _⟩, s5, g5⟩
      have hr := hr1 (by omega)
      have H5 := Fk.hide (HX.out.draw s5 g5)
      have HT5 := Fk.hide (HT.out.kept g5 (fun k hk e => by have h9 := (World.ownsRow.lt HT.out k hk).1; have h8 : k = S := Option.some.inj e; have := HZ.out; omega))
      have HZ5 : Hid (z ≤ w5.heap.size) := Nat.le_trans HZR.out g5.size
      have hown : w5.ownsRow z 2 1 u6 m (Ik.tc T) := by have h9 := HT5.out; unfold Ik.Own at h9; rw [← HM.out] at h9; exact h9
      clear s5 g5 hr1
      go_wp2_with (at_builtin; refine wpList_append_own _ rfl _ _ 26 rfl z 2 i0 (.int .i64 0) 1 8 Tryd.underlying26 hi hz0 (by assumption) hz2 rfl (by decide) _ _ _ rfl (hown.alloc _) ⟨w5.heap.size, 0, none⟩ 1 1 [.int .i64 (r - 1)] rfl rfl ?c1 ?c2 ?c3 ?c4 ?c5 ?_)
      try (case c1 => exact cell_one_new _ _ _)
      case c2 => first | rfl | (intro u hu; simp at hu; subst hu; rfl)
      case c3 => unfold maxLen; omega
      case c4 => omega
      case c5 => have := HZ5.out; simp; omega
      · intro v' w6 hown' hgrow _
        have H6 := Fk.hide ((H5.out.below ((Below.refl _ _).alloc (Nat.le_refl _) _)).row hgrow (fun j hj => (World.ownsRow.lt hown j hj).1) HZ.out.1 HZ.out.2.1 HZ.out.2.2.1 HZ.out.2.2.2.1)
        have HT6 : Hid (Ik.Own w6 z 2 v' (T ++ [r - 1])) := by
          show w6.ownsRow _ _ _ _ _ _
          rw [List.length_append, ← HM.out]
          simpa [Ik.tc] using hown'
        have HZ6 : Hid (z ≤ w6.heap.size) := Nat.le_trans (Nat.le_trans HZ5.out (by simp)) hgrow.size
        have HL6 : Hid ((T ++ [r - 1]).length = m + 1) := by show _ = _; rw [List.length_append, HM.out]; rfl
        clear hown' hgrow hown
        go_wp2
        go_roundw
        case rel => exact ⟨k - 1, T ++ [r - 1], by go_num, by omega, by omega, by rw [HL6.out]; omega, H6.out, HT6.out, HZ6.out⟩
        case measure => simp [intOf]; omega
    · have c4 := HX.out.1
      have r4 := HX.out.2.1.1
      have f4 := HX.out.2.1.2
      have HE := Fk.hide HX.out.done
      have HN : Hid (Ik.Own (wr.setCell ⟨w.heap.size, 0, none⟩ (.slice ua un uc)) w.heap.size 2 u6 T) := by
        have h9 := ownsRow_setCell_below HT.out (by show w.heap.size < z; exact HZ.out.2.2.2.2) (.slice ua un uc) (a := ⟨w.heap.size, 0, none⟩)
        obtain ⟨q1, q2⟩ := h9
        refine ⟨q1, ?_⟩
        rcases q2 with q2 | ⟨g, cap, cur, q3, q4, q5⟩
        · exact .inl q2
        · exact .inr ⟨g, cap, cur, q3, Nat.le_trans (Nat.le_of_lt HZ.out.2.2.2.2) q4, q5⟩
      have g1 : (wr.setCell ⟨w.heap.size, 0, none⟩ (.slice ua un uc)).cell? ⟨w.heap.size, 0, none⟩ = some (.slice ua un uc) := World.cell?_setCell_same _ _ _ r4
      have HT10 : Hid (T.length ≤ 10) := by have := HM.out; show T.length ≤ 10; omega
      go_wp2_with fail
      refine bodyPost_ret (v := .tuple #[.agg #[.slice ua un uc], u6]) (by simp [results, Tryd.results10, go_sem, g1]) rfl ?_
      exact ⟨⟨_, R, u6, rfl, HE.out.1, HF.out, hRl, T, HN.out, HT10.out⟩, HE.out.2⟩
end Go.Proofs.YtlmbejldnfkfhaaDoor
