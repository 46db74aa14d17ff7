/- The walks of the specification's drawn events. -/
import Derived.Test.YtficlppngnnpoaaDrawT
import Derived.Test.YtficlppngnnpoaaEventsKit
import Derived.Test.YtficlppngnnpoaaEventRightSpec
import Derived.Test.YtficlppngnnpoaaRowsMore
import Derived.Deep.RegionHeld3
namespace Go.Proofs.Ytficlppngnnpoaa
open Go.RowKit
set_option linter.unusedVariables false
set_option linter.unusedSimpArgs false
/-- an event in a box -/
structure Dk.Ev (X : World) (b : Nat) (p : Vt.E) : Prop where
  c0 : X.cell? ⟨b, 0, none⟩ = some (.int .i64 p.1)
  c1 : X.cell? ⟨b, 1, none⟩ = some (.int .i64 p.2.1)
  c2 : X.cell? ⟨b, 2, none⟩ = some (.int .i64 p.2.2.1)
  c3 : X.cell? ⟨b, 3, none⟩ = some (.int .i64 p.2.2.2.1)
  c4 : X.cell? ⟨b, 4, none⟩ = some (.int .i64 p.2.2.2.2)
  fr : ∀ j, X.frozen? ⟨b, j, none⟩ = false
theorem Dk.Ev.grown {X Y : World} {b : Nat} {p : Vt.E} {r : Option Nat} (h : Dk.Ev X b p) (hb : b < X.heap.size) (hg : X.grownBy Y r) (hne : some b ≠ r) : Dk.Ev Y b p := by
  have e : ∀ j, Y.cell? ⟨b, j, none⟩ = X.cell? ⟨b, j, none⟩ := fun j => hg.cell_far ⟨b, j, none⟩ hb hne
  exact ⟨(e 0).trans h.c0, (e 1).trans h.c1, (e 2).trans h.c2, (e 3).trans h.c3, (e 4).trans h.c4, fun j => (World.frozen?_of_block (a := ⟨b, j, none⟩) (hg.block b hb hne)).trans (h.fr j)⟩
theorem Dk.Ev.set0 {X : World} {b : Nat} {p : Vt.E} (h : Dk.Ev X b p) (u : Int) : Dk.Ev (X.setCell ⟨b, 0, none⟩ (.int .i64 u)) b (u, p.2.1, p.2.2.1, p.2.2.2.1, p.2.2.2.2) := by
  obtain ⟨h0, h1, h2, h3, h4, hf⟩ := h
  exact ⟨by simp [go_sem, h0, h1, h2, h3, h4], by simp [go_sem, h0, h1, h2, h3, h4], by simp [go_sem, h0, h1, h2, h3, h4], by simp [go_sem, h0, h1, h2, h3, h4], by simp [go_sem, h0, h1, h2, h3, h4], fun j => by simp [go_sem, hf]⟩
theorem Dk.Ev.set1 {X : World} {b : Nat} {p : Vt.E} (h : Dk.Ev X b p) (u : Int) : Dk.Ev (X.setCell ⟨b, 1, none⟩ (.int .i64 u)) b (p.1, u, p.2.2.1, p.2.2.2.1, p.2.2.2.2) := by
  obtain ⟨h0, h1, h2, h3, h4, hf⟩ := h
  exact ⟨by simp [go_sem, h0, h1, h2, h3, h4], by simp [go_sem, h0, h1, h2, h3, h4], by simp [go_sem, h0, h1, h2, h3, h4], by simp [go_sem, h0, h1, h2, h3, h4], by simp [go_sem, h0, h1, h2, h3, h4], fun j => by simp [go_sem, hf]⟩
theorem Dk.Ev.set2 {X : World} {b : Nat} {p : Vt.E} (h : Dk.Ev X b p) (u : Int) : Dk.Ev (X.setCell ⟨b, 2, none⟩ (.int .i64 u)) b (p.1, p.2.1, u, p.2.2.2.1, p.2.2.2.2) := by
  obtain ⟨h0, h1, h2, h3, h4, hf⟩ := h
  exact ⟨by simp [go_sem, h0, h1, h2, h3, h4], by simp [go_sem, h0, h1, h2, h3, h4], by simp [go_sem, h0, h1, h2, h3, h4], by simp [go_sem, h0, h1, h2, h3, h4], by simp [go_sem, h0, h1, h2, h3, h4], fun j => by simp [go_sem, hf]⟩
theorem Dk.Ev.set3 {X : World} {b : Nat} {p : Vt.E} (h : Dk.Ev X b p) (u : Int) : Dk.Ev (X.setCell ⟨b, 3, none⟩ (.int .i64 u)) b (p.1, p.2.1, p.2.2.1, u, p.2.2.2.2) := by
  obtain ⟨h0, h1, h2, h3, h4, hf⟩ := h
  exact ⟨by simp [go_sem, h0, h1, h2, h3, h4], by simp [go_sem, h0, h1, h2, h3, h4], by simp [go_sem, h0, h1, h2, h3, h4], by simp [go_sem, h0, h1, h2, h3, h4], by simp [go_sem, h0, h1, h2, h3, h4], fun j => by simp [go_sem, hf]⟩
theorem Dk.Ev.set4 {X : World} {b : Nat} {p : Vt.E} (h : Dk.Ev X b p) (u : Int) : Dk.Ev (X.setCell ⟨b, 4, none⟩ (.int .i64 u)) b (p.1, p.2.1, p.2.2.1, p.2.2.2.1, u) := by
  obtain ⟨h0, h1, h2, h3, h4, hf⟩ := h
  exact ⟨by simp [go_sem, h0, h1, h2, h3, h4], by simp [go_sem, h0, h1, h2, h3, h4], by simp [go_sem, h0, h1, h2, h3, h4], by simp [go_sem, h0, h1, h2, h3, h4], by simp [go_sem, h0, h1, h2, h3, h4], fun j => by simp [go_sem, hf]⟩
set_option maxRecDepth 100000 in
set_option maxHeartbeats 8000000 in
theorem drawEvent_any (B S : Nat) (w : World) (hs : Dk.Src B w S) :
    Calls Try.prog 61 #[.pointer (some ⟨S, 0, none⟩)] w fun e w' => (∃ f : Vt.E, e = .returned (.agg #[.int .i64 f.1, .int .i64 f.2.1, .int .i64 f.2.2.1, .int .i64 f.2.2.2.1, .int .i64 f.2.2.2.2])) ∧ Dk.Src B w' S ∧ w.grownBy w' (some S) := by
  obtain ⟨hBS, hSw⟩ := hs.lt
  obtain ⟨W0, hW⟩ : ∃ W, W = w.alloc (.cells #[.int .i64 0, .int .i64 0, .int .i64 0, .int .i64 0, .int .i64 0] 68) := ⟨_, rfl⟩
  have bA : Below w.heap.size w W0 := by rw [hW]; exact (Below.refl _ _).alloc (Nat.le_refl _) _
  have hz0 : W0.heap.size = w.heap.size + 1 := by rw [hW]; simp
  have HZ : Hid (Dk.Ev W0 w.heap.size (0, 0, 0, 0, 0)) := by
    refine ⟨?_, ?_, ?_, ?_, ?_, fun j => ?_⟩
    · rw [hW, Fk.cellTop _ _ _ _ _ rfl]; rfl
    · rw [hW, Fk.cellTop _ _ _ _ _ rfl]; rfl
    · rw [hW, Fk.cellTop _ _ _ _ _ rfl]; rfl
    · rw [hW, Fk.cellTop _ _ _ _ _ rfl]; rfl
    · rw [hW, Fk.cellTop _ _ _ _ _ rfl]; rfl
    · rw [hW, Fk.frozTop _ _ _ _ _ rfl]
  have T0 : Hid (Dk.T B S W0 W0) := ⟨hs.below bA, World.grownBy.refl _ _⟩
  have HG0 := Fk.hide (Fk.grownBy_below (some S) bA)
  have HW := Fk.hide hW
  clear hW bA hs
  go_enter Try.func61, Try.ntmps61
  go_wp2_with fail
  rw [← HW.out]
  refine (drawN_any B S 5 W0 T0.out.1 (by omega)).mono ?_
  rintro e w1 ⟨⟨ra, rfl, ra0, ra1, _⟩, h1, h2⟩
  have ral := ra1 (by omega)
  clear ra1
  have T1 : Hid (Dk.T B S W0 w1) := T0.out.next h1 h2
  clear h1 h2
  go_wp2_with fail
  refine (drawN_any B S 9 w1 T1.out.1 (by omega)).mono ?_
  rintro e w2 ⟨⟨rb, rfl, rb0, rb1, _⟩, h1, h2⟩
  have rbl := rb1 (by omega)
  clear rb1
  have T2 : Hid (Dk.T B S W0 w2) := T1.out.next h1 h2
  clear h1 h2
  have HQ : Hid (W0.heap.size ≤ w2.heap.size ∧ B ≤ w2.heap.size ∧ S ≠ w2.heap.size) := ⟨T2.out.2.size, by have := T2.out.1.lt; omega, by have := T2.out.1.lt.2; omega⟩
  obtain ⟨qc, hqc⟩ : ∃ q, q = w2.heap.size := ⟨_, rfl⟩
  have HQC := Fk.hide hqc
  obtain ⟨hq0, hqB, hqS⟩ : W0.heap.size ≤ qc ∧ B ≤ qc ∧ S ≠ qc := by rw [hqc]; exact HQ.out
  clear hqc HQ
  have TX : Hid (Dk.T B S W0 (w2.alloc (.cells #[.int .i64 (1 + ra), .int .i64 (1 + rb), .int .i64 0, .int .i64 0, .int .i64 0] 68))) := T2.out.alloc _
  have BX : Hid (Dk.Ev (w2.alloc (.cells #[.int .i64 (1 + ra), .int .i64 (1 + rb), .int .i64 0, .int .i64 0, .int .i64 0] 68)) qc (1 + ra, 1 + rb, 0, 0, 0)) := by
    refine ⟨?_, ?_, ?_, ?_, ?_, fun j => ?_⟩
    · rw [Fk.cellTop _ _ _ _ _ HQC.out]; rfl
    · rw [Fk.cellTop _ _ _ _ _ HQC.out]; rfl
    · rw [Fk.cellTop _ _ _ _ _ HQC.out]; rfl
    · rw [Fk.cellTop _ _ _ _ _ HQC.out]; rfl
    · rw [Fk.cellTop _ _ _ _ _ HQC.out]; rfl
    · rw [Fk.frozTop _ _ _ _ _ HQC.out]
  have hqX : qc < (w2.alloc (.cells #[.int .i64 (1 + ra), .int .i64 (1 + rb), .int .i64 0, .int .i64 0, .int .i64 0] 68)).heap.size := by rw [HQC.out]; simp
  rcases (by omega : ra = 1 ∨ ra = 2 ∨ ra = 3 ∨ (ra ≠ 1 ∧ ra ≠ 2 ∧ ra ≠ 3)) with hk | hk | hk | hk
  · skip
    have e2 : ((1 + ra : Int) == 2) = true := by simp; omega
    have d2 : decide ((1 + ra : Int) = 2) = true := by simp; omega
    have e3 : ((1 + ra : Int) == 3) = false := by simp; omega
    have d3 : decide ((1 + ra : Int) = 3) = false := by simp; omega
    have e4 : ((1 + ra : Int) == 4) = false := by simp; omega
    have d4 : decide ((1 + ra : Int) = 4) = false := by simp; omega
    have HKK := Fk.hide hk
    clear hk
    go_wp2_with fail
    rw [← HQC.out]
    generalize w2.alloc (.cells #[.int .i64 (1 + ra), .int .i64 (1 + rb), .int .i64 0, .int .i64 0, .int .i64 0] 68) = X at TX BX hqX ⊢
    clear e2 e3 e4 d2 d3 d4
    generalize ((1 + ra, 1 + rb, 0, 0, 0) : Vt.E) = p at BX
    obtain ⟨p0, p1, p2, p3, p4, pf⟩ := BX.out
    refine (drawN_any B S 9 X TX.out.1 (by omega)).mono ?_
    rintro e X2 ⟨⟨rc, rfl, rc0, rc1, _⟩, h1, h2⟩
    have rcl := rc1 (by omega)
    clear rc1
    have TY : Hid (Dk.T B S W0 X2) := TX.out.next h1 h2
    have BY : Hid (Dk.Ev X2 qc p) := BX.out.grown hqX h2 (fun e => hqS (Option.some.inj e).symm)
    have hqY : qc < X2.heap.size := Nat.lt_of_lt_of_le hqX h2.size
    clear h1 h2 TX BX hqX p0 p1 p2 p3 p4 pf
    have TX := TY
    have BX := BY
    have hqX := hqY
    clear TY BY hqY
    obtain ⟨X, hX⟩ : ∃ X, X = X2 := ⟨_, rfl⟩
    rw [← hX]
    rw [← hX] at TX BX hqX
    clear hX
    obtain ⟨p0, p1, p2, p3, p4, pf⟩ := BX.out
    go_wp2_with fail
    have TY : Hid (Dk.T B S W0 (X.setCell ⟨qc, 2, none⟩ (.int .i64 (1 + rc)))) := TX.out.set hq0 hqB (fun e => hqS e.symm) _ _
    have BY := Fk.hide (BX.out.set2 (1 + rc))
    have hqY : qc < (X.setCell ⟨qc, 2, none⟩ (.int .i64 (1 + rc))).heap.size := by simpa using hqX
    generalize hXX : X.setCell ⟨qc, 2, none⟩ (.int .i64 (1 + rc)) = Y at TY BY hqY ⊢
    clear hXX TX BX hqX p0 p1 p2 p3 p4 pf X
    obtain ⟨p', hp'⟩ : ∃ p' : Vt.E, p' = (p.1, p.2.1, (1 + rc), p.2.2.2.1, p.2.2.2.2) := ⟨_, rfl⟩
    rw [← hp'] at BY
    clear hp' p
    obtain ⟨p, hp⟩ : ∃ p, p = p' := ⟨_, rfl⟩
    rw [← hp] at BY
    clear hp p'
    have TX := TY
    have BX := BY
    have hqX := hqY
    clear TY BY hqY
    obtain ⟨X, hX⟩ : ∃ X, X = Y := ⟨_, rfl⟩
    rw [← hX]
    rw [← hX] at TX BX hqX
    clear hX
    obtain ⟨p0, p1, p2, p3, p4, pf⟩ := BX.out
    refine (drawN_any B S 99 X TX.out.1 (by omega)).mono ?_
    rintro e X2 ⟨⟨rd, rfl, rd0, rd1, _⟩, h1, h2⟩
    have rdl := rd1 (by omega)
    clear rd1
    have TY : Hid (Dk.T B S W0 X2) := TX.out.next h1 h2
    have BY : Hid (Dk.Ev X2 qc p) := BX.out.grown hqX h2 (fun e => hqS (Option.some.inj e).symm)
    have hqY : qc < X2.heap.size := Nat.lt_of_lt_of_le hqX h2.size
    clear h1 h2 TX BX hqX p0 p1 p2 p3 p4 pf
    have TX := TY
    have BX := BY
    have hqX := hqY
    clear TY BY hqY
    obtain ⟨X, hX⟩ : ∃ X, X = X2 := ⟨_, rfl⟩
    rw [← hX]
    rw [← hX] at TX BX hqX
    clear hX
    obtain ⟨p0, p1, p2, p3, p4, pf⟩ := BX.out
    go_wp2_with fail
    have TY : Hid (Dk.T B S W0 (X.setCell ⟨qc, 3, none⟩ (.int .i64 (1 + rd)))) := TX.out.set hq0 hqB (fun e => hqS e.symm) _ _
    have BY := Fk.hide (BX.out.set3 (1 + rd))
    have hqY : qc < (X.setCell ⟨qc, 3, none⟩ (.int .i64 (1 + rd))).heap.size := by simpa using hqX
    generalize hXX : X.setCell ⟨qc, 3, none⟩ (.int .i64 (1 + rd)) = Y at TY BY hqY ⊢
    clear hXX TX BX hqX p0 p1 p2 p3 p4 pf X
    obtain ⟨p', hp'⟩ : ∃ p' : Vt.E, p' = (p.1, p.2.1, p.2.2.1, (1 + rd), p.2.2.2.2) := ⟨_, rfl⟩
    rw [← hp'] at BY
    clear hp' p
    obtain ⟨p, hp⟩ : ∃ p, p = p' := ⟨_, rfl⟩
    rw [← hp] at BY
    clear hp p'
    have TX := TY
    have BX := BY
    have hqX := hqY
    clear TY BY hqY
    obtain ⟨X, hX⟩ : ∃ X, X = Y := ⟨_, rfl⟩
    rw [← hX]
    rw [← hX] at TX BX hqX
    clear hX
    obtain ⟨p0, p1, p2, p3, p4, pf⟩ := BX.out
    refine (drawN_any B S 9 X TX.out.1 (by omega)).mono ?_
    rintro e X2 ⟨⟨re, rfl, re0, re1, _⟩, h1, h2⟩
    have rel := re1 (by omega)
    clear re1
    have TY : Hid (Dk.T B S W0 X2) := TX.out.next h1 h2
    have BY : Hid (Dk.Ev X2 qc p) := BX.out.grown hqX h2 (fun e => hqS (Option.some.inj e).symm)
    have hqY : qc < X2.heap.size := Nat.lt_of_lt_of_le hqX h2.size
    clear h1 h2 TX BX hqX p0 p1 p2 p3 p4 pf
    have TX := TY
    have BX := BY
    have hqX := hqY
    clear TY BY hqY
    obtain ⟨X, hX⟩ : ∃ X, X = X2 := ⟨_, rfl⟩
    rw [← hX]
    rw [← hX] at TX BX hqX
    clear hX
    obtain ⟨p0, p1, p2, p3, p4, pf⟩ := BX.out
    go_wp2_with fail
    have TY : Hid (Dk.T B S W0 (X.setCell ⟨qc, 4, none⟩ (.int .i64 (1 + re)))) := TX.out.set hq0 hqB (fun e => hqS e.symm) _ _
    have BY := Fk.hide (BX.out.set4 (1 + re))
    have hqY : qc < (X.setCell ⟨qc, 4, none⟩ (.int .i64 (1 + re))).heap.size := by simpa using hqX
    generalize hXX : X.setCell ⟨qc, 4, none⟩ (.int .i64 (1 + re)) = Y at TY BY hqY ⊢
    clear hXX TX BX hqX p0 p1 p2 p3 p4 pf X
    obtain ⟨p', hp'⟩ : ∃ p' : Vt.E, p' = (p.1, p.2.1, p.2.2.1, p.2.2.2.1, (1 + re)) := ⟨_, rfl⟩
    rw [← hp'] at BY
    clear hp' p
    obtain ⟨p, hp⟩ : ∃ p, p = p' := ⟨_, rfl⟩
    rw [← hp] at BY
    clear hp p'
    have TX := TY
    have BX := BY
    have hqX := hqY
    clear TY BY hqY
    obtain ⟨X, hX⟩ : ∃ X, X = Y := ⟨_, rfl⟩
    rw [← hX]
    rw [← hX] at TX BX hqX
    clear hX
    obtain ⟨p0, p1, p2, p3, p4, pf⟩ := BX.out
    refine (drawOne_any B S 20 X TX.out.1 (by omega)).mono ?_
    rintro e X2 ⟨⟨rt, rfl⟩, h1, h2⟩
    have TY : Hid (Dk.T B S W0 X2) := TX.out.next h1 h2
    have BY : Hid (Dk.Ev X2 qc p) := BX.out.grown hqX h2 (fun e => hqS (Option.some.inj e).symm)
    have hqY : qc < X2.heap.size := Nat.lt_of_lt_of_le hqX h2.size
    clear h1 h2 TX BX hqX p0 p1 p2 p3 p4 pf
    have TX := TY
    have BX := BY
    have hqX := hqY
    clear TY BY hqY
    obtain ⟨X, hX⟩ : ∃ X, X = X2 := ⟨_, rfl⟩
    rw [← hX]
    rw [← hX] at TX BX hqX
    clear hX
    obtain ⟨p0, p1, p2, p3, p4, pf⟩ := BX.out
    cases rt with
    | false =>
      have ZX := HZ.out.grown (by omega) TX.out.2 (fun e => by have := Option.some.inj e; omega)
      obtain ⟨z0, z1, z2, z3, z4, zf⟩ := ZX
      have TT : Hid (Dk.T B S w X) := ⟨TX.out.1, Fk.grownBy_trans HG0.out TX.out.2⟩
      have hwB : B ≤ w.heap.size := by omega
      have hwS : w.heap.size ≠ S := by omega
      go_wp2_with fail
      refine bodyPost_ret (v := .agg #[.int .i64 p.1, .int .i64 p.2.1, .int .i64 p.2.2.1, .int .i64 p.2.2.2.1, .int .i64 p.2.2.2.2]) (by simp [results, Try.results61, go_sem, z0, z1, z2, z3, z4]) rfl ⟨⟨(p.1, p.2.1, p.2.2.1, p.2.2.2.1, p.2.2.2.2), rfl⟩, (((((TT.out.set (Nat.le_refl _) hwB hwS _ _).set (Nat.le_refl _) hwB hwS _ _).set (Nat.le_refl _) hwB hwS _ _).set (Nat.le_refl _) hwB hwS _ _).set (Nat.le_refl _) hwB hwS _ _).1, (((((TT.out.set (Nat.le_refl _) hwB hwS _ _).set (Nat.le_refl _) hwB hwS _ _).set (Nat.le_refl _) hwB hwS _ _).set (Nat.le_refl _) hwB hwS _ _).set (Nat.le_refl _) hwB hwS _ _).2⟩
    | true =>
      go_wp2_with fail
      refine (drawN_any B S 4 X TX.out.1 (by omega)).mono ?_
      rintro e X2 ⟨⟨rk, rfl, rk0, rk1, _⟩, h1, h2⟩
      have rkl := rk1 (by omega)
      clear rk1
      have TY : Hid (Dk.T B S W0 X2) := TX.out.next h1 h2
      have BY : Hid (Dk.Ev X2 qc p) := BX.out.grown hqX h2 (fun e => hqS (Option.some.inj e).symm)
      have hqY : qc < X2.heap.size := Nat.lt_of_lt_of_le hqX h2.size
      clear h1 h2 TX BX hqX p0 p1 p2 p3 p4 pf
      have TX := TY
      have BX := BY
      have hqX := hqY
      clear TY BY hqY
      obtain ⟨X, hX⟩ : ∃ X, X = X2 := ⟨_, rfl⟩
      rw [← hX]
      rw [← hX] at TX BX hqX
      clear hX
      obtain ⟨p0, p1, p2, p3, p4, pf⟩ := BX.out
      rcases (by omega : rk = 0 ∨ rk = 1 ∨ rk = 2 ∨ rk = 3) with rfl | rfl | rfl | rfl
      · skip
        go_wp2_with fail
        refine (drawN_any B S 7 X TX.out.1 (by omega)).mono ?_
        rintro e X2 ⟨⟨ru, rfl, ru0, ru1, _⟩, h1, h2⟩
        have rul := ru1 (by omega)
        clear ru1
        have TY : Hid (Dk.T B S W0 X2) := TX.out.next h1 h2
        have BY : Hid (Dk.Ev X2 qc p) := BX.out.grown hqX h2 (fun e => hqS (Option.some.inj e).symm)
        have hqY : qc < X2.heap.size := Nat.lt_of_lt_of_le hqX h2.size
        clear h1 h2 TX BX hqX p0 p1 p2 p3 p4 pf
        have TX := TY
        have BX := BY
        have hqX := hqY
        clear TY BY hqY
        obtain ⟨X, hX⟩ : ∃ X, X = X2 := ⟨_, rfl⟩
        rw [← hX]
        rw [← hX] at TX BX hqX
        clear hX
        obtain ⟨p0, p1, p2, p3, p4, pf⟩ := BX.out
        have ZX := HZ.out.grown (by omega) TX.out.2 (fun e => by have := Option.some.inj e; omega)
        obtain ⟨z0, z1, z2, z3, z4, zf⟩ := ZX
        have TT : Hid (Dk.T B S w X) := ⟨TX.out.1, Fk.grownBy_trans HG0.out TX.out.2⟩
        have hwB : B ≤ w.heap.size := by omega
        have hwS : w.heap.size ≠ S := by omega
        have hwq : w.heap.size ≤ qc := by omega
        go_wp2_with fail
        refine bodyPost_ret (v := .agg #[.int .i64 ru, .int .i64 p.2.1, .int .i64 p.2.2.1, .int .i64 p.2.2.2.1, .int .i64 p.2.2.2.2]) (by simp [results, Try.results61, go_sem, z0, z1, z2, z3, z4]) rfl ⟨⟨(ru, p.2.1, p.2.2.1, p.2.2.2.1, p.2.2.2.2), rfl⟩, ((((((TT.out.set hwq hqB (fun e => hqS e.symm) _ _).set (Nat.le_refl _) hwB hwS _ _).set (Nat.le_refl _) hwB hwS _ _).set (Nat.le_refl _) hwB hwS _ _).set (Nat.le_refl _) hwB hwS _ _).set (Nat.le_refl _) hwB hwS _ _).1, ((((((TT.out.set hwq hqB (fun e => hqS e.symm) _ _).set (Nat.le_refl _) hwB hwS _ _).set (Nat.le_refl _) hwB hwS _ _).set (Nat.le_refl _) hwB hwS _ _).set (Nat.le_refl _) hwB hwS _ _).set (Nat.le_refl _) hwB hwS _ _).2⟩
      · skip
        go_wp2_with fail
        obtain ⟨T', hT'⟩ : ∃ T' : List Int, T' = [0, 20, 21, 1000000, 1000001] := ⟨_, rfl⟩
        have hT : ∀ i, i < 5 → (X.alloc (.cells #[.int .i64 0, .int .i64 20, .int .i64 21, .int .i64 1000000, .int .i64 1000001] 2)).cell? ⟨X.heap.size, i, none⟩ = some (.int .i64 (T'.getD i 0)) := by
          intro i hi
          rw [Fk.cellTop _ _ _ _ _ rfl, hT']
          match i, hi with
          | 0, _ => rfl
          | 1, _ => rfl
          | 2, _ => rfl
          | 3, _ => rfl
          | 4, _ => rfl
        have T5 : Hid (Dk.T B S W0 (X.alloc (.cells #[.int .i64 0, .int .i64 20, .int .i64 21, .int .i64 1000000, .int .i64 1000001] 2))) := TX.out.alloc _
        have B5 : Hid (Dk.Ev (X.alloc (.cells #[.int .i64 0, .int .i64 20, .int .i64 21, .int .i64 1000000, .int .i64 1000001] 2)) qc p) := BX.out.grown hqX (World.grownBy_alloc X _ none) (by simp)
        have hg5 : X.heap.size < (X.alloc (.cells #[.int .i64 0, .int .i64 20, .int .i64 21, .int .i64 1000000, .int .i64 1000001] 2)).heap.size := by simp
        have hS5 : S < X.heap.size := TX.out.1.lt.2
        have hq5 : qc < (X.alloc (.cells #[.int .i64 0, .int .i64 20, .int .i64 21, .int .i64 1000000, .int .i64 1000001] 2)).heap.size := by simp; omega
        obtain ⟨bk, hbk⟩ : ∃ bk, bk = X.heap.size := ⟨_, rfl⟩
        rw [← hbk] at hT hg5 hS5
        rw [← hbk]
        clear hT' hbk TX BX hqX p0 p1 p2 p3 p4 pf
        generalize X.alloc (.cells #[.int .i64 0, .int .i64 20, .int .i64 21, .int .i64 1000000, .int .i64 1000001] 2) = Y at hT T5 B5 hg5 hq5 ⊢
        refine (drawN_any B S 5 Y T5.out.1 (by omega)).mono ?_
        rintro e X2 ⟨⟨rz, rfl, rz0, rz1, _⟩, h1, h2⟩
        have rzl := rz1 (by omega)
        clear rz1
        have TY : Hid (Dk.T B S W0 X2) := T5.out.next h1 h2
        have BY : Hid (Dk.Ev X2 qc p) := B5.out.grown hq5 h2 (fun e => hqS (Option.some.inj e).symm)
        have hqY : qc < X2.heap.size := Nat.lt_of_lt_of_le hq5 h2.size
        obtain ⟨i, rfl⟩ : ∃ i : Nat, rz = i := ⟨rz.toNat, by omega⟩
        have hi7 : i < 5 := by omega
        have hc6 := Dk.T.cell (B := B) (W0 := W0) h2 hg5 (by omega) (hT i hi7)
        obtain ⟨lf, hlf⟩ : ∃ t, t = T'.getD i 0 := ⟨_, rfl⟩
        rw [← hlf] at hc6
        clear hlf hT h1 h2 hg5 hS5 T5 B5 hq5 X
        have TX := TY
        have BX := BY
        have hqX := hqY
        clear TY BY hqY
        obtain ⟨X, hX⟩ : ∃ X, X = X2 := ⟨_, rfl⟩
        rw [← hX]
        rw [← hX] at TX BX hqX hc6
        clear hX
        obtain ⟨p0, p1, p2, p3, p4, pf⟩ := BX.out
        have ZX := HZ.out.grown (by omega) TX.out.2 (fun e => by have := Option.some.inj e; omega)
        obtain ⟨z0, z1, z2, z3, z4, zf⟩ := ZX
        have TT : Hid (Dk.T B S w X) := ⟨TX.out.1, Fk.grownBy_trans HG0.out TX.out.2⟩
        have hwB : B ≤ w.heap.size := by omega
        have hwS : w.heap.size ≠ S := by omega
        have hwq : w.heap.size ≤ qc := by omega
        go_wp2_with fail
        refine bodyPost_ret (v := .agg #[.int .i64 p.1, .int .i64 lf, .int .i64 p.2.2.1, .int .i64 p.2.2.2.1, .int .i64 p.2.2.2.2]) (by simp [results, Try.results61, go_sem, z0, z1, z2, z3, z4]) rfl ⟨⟨(p.1, lf, p.2.2.1, p.2.2.2.1, p.2.2.2.2), rfl⟩, ((((((TT.out.set hwq hqB (fun e => hqS e.symm) _ _).set (Nat.le_refl _) hwB hwS _ _).set (Nat.le_refl _) hwB hwS _ _).set (Nat.le_refl _) hwB hwS _ _).set (Nat.le_refl _) hwB hwS _ _).set (Nat.le_refl _) hwB hwS _ _).1, ((((((TT.out.set hwq hqB (fun e => hqS e.symm) _ _).set (Nat.le_refl _) hwB hwS _ _).set (Nat.le_refl _) hwB hwS _ _).set (Nat.le_refl _) hwB hwS _ _).set (Nat.le_refl _) hwB hwS _ _).set (Nat.le_refl _) hwB hwS _ _).2⟩
      · skip
        go_wp2_with fail
        obtain ⟨T', hT'⟩ : ∃ T' : List Int, T' = [0, 10000, 10001] := ⟨_, rfl⟩
        have hT : ∀ i, i < 3 → (X.alloc (.cells #[.int .i64 0, .int .i64 10000, .int .i64 10001] 2)).cell? ⟨X.heap.size, i, none⟩ = some (.int .i64 (T'.getD i 0)) := by
          intro i hi
          rw [Fk.cellTop _ _ _ _ _ rfl, hT']
          match i, hi with
          | 0, _ => rfl
          | 1, _ => rfl
          | 2, _ => rfl
        have T5 : Hid (Dk.T B S W0 (X.alloc (.cells #[.int .i64 0, .int .i64 10000, .int .i64 10001] 2))) := TX.out.alloc _
        have B5 : Hid (Dk.Ev (X.alloc (.cells #[.int .i64 0, .int .i64 10000, .int .i64 10001] 2)) qc p) := BX.out.grown hqX (World.grownBy_alloc X _ none) (by simp)
        have hg5 : X.heap.size < (X.alloc (.cells #[.int .i64 0, .int .i64 10000, .int .i64 10001] 2)).heap.size := by simp
        have hS5 : S < X.heap.size := TX.out.1.lt.2
        have hq5 : qc < (X.alloc (.cells #[.int .i64 0, .int .i64 10000, .int .i64 10001] 2)).heap.size := by simp; omega
        obtain ⟨bk, hbk⟩ : ∃ bk, bk = X.heap.size := ⟨_, rfl⟩
        rw [← hbk] at hT hg5 hS5
        rw [← hbk]
        clear hT' hbk TX BX hqX p0 p1 p2 p3 p4 pf
        generalize X.alloc (.cells #[.int .i64 0, .int .i64 10000, .int .i64 10001] 2) = Y at hT T5 B5 hg5 hq5 ⊢
        refine (drawN_any B S 3 Y T5.out.1 (by omega)).mono ?_
        rintro e X2 ⟨⟨rz, rfl, rz0, rz1, _⟩, h1, h2⟩
        have rzl := rz1 (by omega)
        clear rz1
        have TY : Hid (Dk.T B S W0 X2) := T5.out.next h1 h2
        have BY : Hid (Dk.Ev X2 qc p) := B5.out.grown hq5 h2 (fun e => hqS (Option.some.inj e).symm)
        have hqY : qc < X2.heap.size := Nat.lt_of_lt_of_le hq5 h2.size
        obtain ⟨i, rfl⟩ : ∃ i : Nat, rz = i := ⟨rz.toNat, by omega⟩
        have hi7 : i < 3 := by omega
        have hc6 := Dk.T.cell (B := B) (W0 := W0) h2 hg5 (by omega) (hT i hi7)
        obtain ⟨lf, hlf⟩ : ∃ t, t = T'.getD i 0 := ⟨_, rfl⟩
        rw [← hlf] at hc6
        clear hlf hT h1 h2 hg5 hS5 T5 B5 hq5 X
        have TX := TY
        have BX := BY
        have hqX := hqY
        clear TY BY hqY
        obtain ⟨X, hX⟩ : ∃ X, X = X2 := ⟨_, rfl⟩
        rw [← hX]
        rw [← hX] at TX BX hqX hc6
        clear hX
        obtain ⟨p0, p1, p2, p3, p4, pf⟩ := BX.out
        have ZX := HZ.out.grown (by omega) TX.out.2 (fun e => by have := Option.some.inj e; omega)
        obtain ⟨z0, z1, z2, z3, z4, zf⟩ := ZX
        have TT : Hid (Dk.T B S w X) := ⟨TX.out.1, Fk.grownBy_trans HG0.out TX.out.2⟩
        have hwB : B ≤ w.heap.size := by omega
        have hwS : w.heap.size ≠ S := by omega
        have hwq : w.heap.size ≤ qc := by omega
        go_wp2_with fail
        refine bodyPost_ret (v := .agg #[.int .i64 p.1, .int .i64 p.2.1, .int .i64 p.2.2.1, .int .i64 lf, .int .i64 p.2.2.2.2]) (by simp [results, Try.results61, go_sem, z0, z1, z2, z3, z4]) rfl ⟨⟨(p.1, p.2.1, p.2.2.1, lf, p.2.2.2.2), rfl⟩, ((((((TT.out.set hwq hqB (fun e => hqS e.symm) _ _).set (Nat.le_refl _) hwB hwS _ _).set (Nat.le_refl _) hwB hwS _ _).set (Nat.le_refl _) hwB hwS _ _).set (Nat.le_refl _) hwB hwS _ _).set (Nat.le_refl _) hwB hwS _ _).1, ((((((TT.out.set hwq hqB (fun e => hqS e.symm) _ _).set (Nat.le_refl _) hwB hwS _ _).set (Nat.le_refl _) hwB hwS _ _).set (Nat.le_refl _) hwB hwS _ _).set (Nat.le_refl _) hwB hwS _ _).set (Nat.le_refl _) hwB hwS _ _).2⟩
      · skip
        go_wp2_with fail
        obtain ⟨T', hT'⟩ : ∃ T' : List Int, T' = [0, 1000, 1001] := ⟨_, rfl⟩
        have hT : ∀ i, i < 3 → (X.alloc (.cells #[.int .i64 0, .int .i64 1000, .int .i64 1001] 2)).cell? ⟨X.heap.size, i, none⟩ = some (.int .i64 (T'.getD i 0)) := by
          intro i hi
          rw [Fk.cellTop _ _ _ _ _ rfl, hT']
          match i, hi with
          | 0, _ => rfl
          | 1, _ => rfl
          | 2, _ => rfl
        have T5 : Hid (Dk.T B S W0 (X.alloc (.cells #[.int .i64 0, .int .i64 1000, .int .i64 1001] 2))) := TX.out.alloc _
        have B5 : Hid (Dk.Ev (X.alloc (.cells #[.int .i64 0, .int .i64 1000, .int .i64 1001] 2)) qc p) := BX.out.grown hqX (World.grownBy_alloc X _ none) (by simp)
        have hg5 : X.heap.size < (X.alloc (.cells #[.int .i64 0, .int .i64 1000, .int .i64 1001] 2)).heap.size := by simp
        have hS5 : S < X.heap.size := TX.out.1.lt.2
        have hq5 : qc < (X.alloc (.cells #[.int .i64 0, .int .i64 1000, .int .i64 1001] 2)).heap.size := by simp; omega
        obtain ⟨bk, hbk⟩ : ∃ bk, bk = X.heap.size := ⟨_, rfl⟩
        rw [← hbk] at hT hg5 hS5
        rw [← hbk]
        clear hT' hbk TX BX hqX p0 p1 p2 p3 p4 pf
        generalize X.alloc (.cells #[.int .i64 0, .int .i64 1000, .int .i64 1001] 2) = Y at hT T5 B5 hg5 hq5 ⊢
        refine (drawN_any B S 3 Y T5.out.1 (by omega)).mono ?_
        rintro e X2 ⟨⟨rz, rfl, rz0, rz1, _⟩, h1, h2⟩
        have rzl := rz1 (by omega)
        clear rz1
        have TY : Hid (Dk.T B S W0 X2) := T5.out.next h1 h2
        have BY : Hid (Dk.Ev X2 qc p) := B5.out.grown hq5 h2 (fun e => hqS (Option.some.inj e).symm)
        have hqY : qc < X2.heap.size := Nat.lt_of_lt_of_le hq5 h2.size
        obtain ⟨i, rfl⟩ : ∃ i : Nat, rz = i := ⟨rz.toNat, by omega⟩
        have hi7 : i < 3 := by omega
        have hc6 := Dk.T.cell (B := B) (W0 := W0) h2 hg5 (by omega) (hT i hi7)
        obtain ⟨lf, hlf⟩ : ∃ t, t = T'.getD i 0 := ⟨_, rfl⟩
        rw [← hlf] at hc6
        clear hlf hT h1 h2 hg5 hS5 T5 B5 hq5 X
        have TX := TY
        have BX := BY
        have hqX := hqY
        clear TY BY hqY
        obtain ⟨X, hX⟩ : ∃ X, X = X2 := ⟨_, rfl⟩
        rw [← hX]
        rw [← hX] at TX BX hqX hc6
        clear hX
        obtain ⟨p0, p1, p2, p3, p4, pf⟩ := BX.out
        have ZX := HZ.out.grown (by omega) TX.out.2 (fun e => by have := Option.some.inj e; omega)
        obtain ⟨z0, z1, z2, z3, z4, zf⟩ := ZX
        have TT : Hid (Dk.T B S w X) := ⟨TX.out.1, Fk.grownBy_trans HG0.out TX.out.2⟩
        have hwB : B ≤ w.heap.size := by omega
        have hwS : w.heap.size ≠ S := by omega
        have hwq : w.heap.size ≤ qc := by omega
        go_wp2_with fail
        refine bodyPost_ret (v := .agg #[.int .i64 p.1, .int .i64 p.2.1, .int .i64 p.2.2.1, .int .i64 p.2.2.2.1, .int .i64 lf]) (by simp [results, Try.results61, go_sem, z0, z1, z2, z3, z4]) rfl ⟨⟨(p.1, p.2.1, p.2.2.1, p.2.2.2.1, lf), rfl⟩, ((((((TT.out.set hwq hqB (fun e => hqS e.symm) _ _).set (Nat.le_refl _) hwB hwS _ _).set (Nat.le_refl _) hwB hwS _ _).set (Nat.le_refl _) hwB hwS _ _).set (Nat.le_refl _) hwB hwS _ _).set (Nat.le_refl _) hwB hwS _ _).1, ((((((TT.out.set hwq hqB (fun e => hqS e.symm) _ _).set (Nat.le_refl _) hwB hwS _ _).set (Nat.le_refl _) hwB hwS _ _).set (Nat.le_refl _) hwB hwS _ _).set (Nat.le_refl _) hwB hwS _ _).set (Nat.le_refl _) hwB hwS _ _).2⟩
  · skip
    have e2 : ((1 + ra : Int) == 2) = false := by simp; omega
    have d2 : decide ((1 + ra : Int) = 2) = false := by simp; omega
    have e3 : ((1 + ra : Int) == 3) = true := by simp; omega
    have d3 : decide ((1 + ra : Int) = 3) = true := by simp; omega
    have e4 : ((1 + ra : Int) == 4) = false := by simp; omega
    have d4 : decide ((1 + ra : Int) = 4) = false := by simp; omega
    have HKK := Fk.hide hk
    clear hk
    go_wp2_with fail
    rw [← HQC.out]
    generalize w2.alloc (.cells #[.int .i64 (1 + ra), .int .i64 (1 + rb), .int .i64 0, .int .i64 0, .int .i64 0] 68) = X at TX BX hqX ⊢
    clear e2 e3 e4 d2 d3 d4
    generalize ((1 + ra, 1 + rb, 0, 0, 0) : Vt.E) = p at BX
    obtain ⟨p0, p1, p2, p3, p4, pf⟩ := BX.out
    refine (drawN_any B S 9 X TX.out.1 (by omega)).mono ?_
    rintro e X2 ⟨⟨rc, rfl, rc0, rc1, _⟩, h1, h2⟩
    have rcl := rc1 (by omega)
    clear rc1
    have TY : Hid (Dk.T B S W0 X2) := TX.out.next h1 h2
    have BY : Hid (Dk.Ev X2 qc p) := BX.out.grown hqX h2 (fun e => hqS (Option.some.inj e).symm)
    have hqY : qc < X2.heap.size := Nat.lt_of_lt_of_le hqX h2.size
    clear h1 h2 TX BX hqX p0 p1 p2 p3 p4 pf
    have TX := TY
    have BX := BY
    have hqX := hqY
    clear TY BY hqY
    obtain ⟨X, hX⟩ : ∃ X, X = X2 := ⟨_, rfl⟩
    rw [← hX]
    rw [← hX] at TX BX hqX
    clear hX
    obtain ⟨p0, p1, p2, p3, p4, pf⟩ := BX.out
    go_wp2_with fail
    have TY : Hid (Dk.T B S W0 (X.setCell ⟨qc, 4, none⟩ (.int .i64 (1 + rc)))) := TX.out.set hq0 hqB (fun e => hqS e.symm) _ _
    have BY := Fk.hide (BX.out.set4 (1 + rc))
    have hqY : qc < (X.setCell ⟨qc, 4, none⟩ (.int .i64 (1 + rc))).heap.size := by simpa using hqX
    generalize hXX : X.setCell ⟨qc, 4, none⟩ (.int .i64 (1 + rc)) = Y at TY BY hqY ⊢
    clear hXX TX BX hqX p0 p1 p2 p3 p4 pf X
    obtain ⟨p', hp'⟩ : ∃ p' : Vt.E, p' = (p.1, p.2.1, p.2.2.1, p.2.2.2.1, (1 + rc)) := ⟨_, rfl⟩
    rw [← hp'] at BY
    clear hp' p
    obtain ⟨p, hp⟩ : ∃ p, p = p' := ⟨_, rfl⟩
    rw [← hp] at BY
    clear hp p'
    have TX := TY
    have BX := BY
    have hqX := hqY
    clear TY BY hqY
    obtain ⟨X, hX⟩ : ∃ X, X = Y := ⟨_, rfl⟩
    rw [← hX]
    rw [← hX] at TX BX hqX
    clear hX
    obtain ⟨p0, p1, p2, p3, p4, pf⟩ := BX.out
    refine (drawOne_any B S 20 X TX.out.1 (by omega)).mono ?_
    rintro e X2 ⟨⟨rt, rfl⟩, h1, h2⟩
    have TY : Hid (Dk.T B S W0 X2) := TX.out.next h1 h2
    have BY : Hid (Dk.Ev X2 qc p) := BX.out.grown hqX h2 (fun e => hqS (Option.some.inj e).symm)
    have hqY : qc < X2.heap.size := Nat.lt_of_lt_of_le hqX h2.size
    clear h1 h2 TX BX hqX p0 p1 p2 p3 p4 pf
    have TX := TY
    have BX := BY
    have hqX := hqY
    clear TY BY hqY
    obtain ⟨X, hX⟩ : ∃ X, X = X2 := ⟨_, rfl⟩
    rw [← hX]
    rw [← hX] at TX BX hqX
    clear hX
    obtain ⟨p0, p1, p2, p3, p4, pf⟩ := BX.out
    cases rt with
    | false =>
      have ZX := HZ.out.grown (by omega) TX.out.2 (fun e => by have := Option.some.inj e; omega)
      obtain ⟨z0, z1, z2, z3, z4, zf⟩ := ZX
      have TT : Hid (Dk.T B S w X) := ⟨TX.out.1, Fk.grownBy_trans HG0.out TX.out.2⟩
      have hwB : B ≤ w.heap.size := by omega
      have hwS : w.heap.size ≠ S := by omega
      go_wp2_with fail
      refine bodyPost_ret (v := .agg #[.int .i64 p.1, .int .i64 p.2.1, .int .i64 p.2.2.1, .int .i64 p.2.2.2.1, .int .i64 p.2.2.2.2]) (by simp [results, Try.results61, go_sem, z0, z1, z2, z3, z4]) rfl ⟨⟨(p.1, p.2.1, p.2.2.1, p.2.2.2.1, p.2.2.2.2), rfl⟩, (((((TT.out.set (Nat.le_refl _) hwB hwS _ _).set (Nat.le_refl _) hwB hwS _ _).set (Nat.le_refl _) hwB hwS _ _).set (Nat.le_refl _) hwB hwS _ _).set (Nat.le_refl _) hwB hwS _ _).1, (((((TT.out.set (Nat.le_refl _) hwB hwS _ _).set (Nat.le_refl _) hwB hwS _ _).set (Nat.le_refl _) hwB hwS _ _).set (Nat.le_refl _) hwB hwS _ _).set (Nat.le_refl _) hwB hwS _ _).2⟩
    | true =>
      go_wp2_with fail
      refine (drawN_any B S 4 X TX.out.1 (by omega)).mono ?_
      rintro e X2 ⟨⟨rk, rfl, rk0, rk1, _⟩, h1, h2⟩
      have rkl := rk1 (by omega)
      clear rk1
      have TY : Hid (Dk.T B S W0 X2) := TX.out.next h1 h2
      have BY : Hid (Dk.Ev X2 qc p) := BX.out.grown hqX h2 (fun e => hqS (Option.some.inj e).symm)
      have hqY : qc < X2.heap.size := Nat.lt_of_lt_of_le hqX h2.size
      clear h1 h2 TX BX hqX p0 p1 p2 p3 p4 pf
      have TX := TY
      have BX := BY
      have hqX := hqY
      clear TY BY hqY
      obtain ⟨X, hX⟩ : ∃ X, X = X2 := ⟨_, rfl⟩
      rw [← hX]
      rw [← hX] at TX BX hqX
      clear hX
      obtain ⟨p0, p1, p2, p3, p4, pf⟩ := BX.out
      rcases (by omega : rk = 0 ∨ rk = 1 ∨ rk = 2 ∨ rk = 3) with rfl | rfl | rfl | rfl
      · skip
        go_wp2_with fail
        refine (drawN_any B S 7 X TX.out.1 (by omega)).mono ?_
        rintro e X2 ⟨⟨ru, rfl, ru0, ru1, _⟩, h1, h2⟩
        have rul := ru1 (by omega)
        clear ru1
        have TY : Hid (Dk.T B S W0 X2) := TX.out.next h1 h2
        have BY : Hid (Dk.Ev X2 qc p) := BX.out.grown hqX h2 (fun e => hqS (Option.some.inj e).symm)
        have hqY : qc < X2.heap.size := Nat.lt_of_lt_of_le hqX h2.size
        clear h1 h2 TX BX hqX p0 p1 p2 p3 p4 pf
        have TX := TY
        have BX := BY
        have hqX := hqY
        clear TY BY hqY
        obtain ⟨X, hX⟩ : ∃ X, X = X2 := ⟨_, rfl⟩
        rw [← hX]
        rw [← hX] at TX BX hqX
        clear hX
        obtain ⟨p0, p1, p2, p3, p4, pf⟩ := BX.out
        have ZX := HZ.out.grown (by omega) TX.out.2 (fun e => by have := Option.some.inj e; omega)
        obtain ⟨z0, z1, z2, z3, z4, zf⟩ := ZX
        have TT : Hid (Dk.T B S w X) := ⟨TX.out.1, Fk.grownBy_trans HG0.out TX.out.2⟩
        have hwB : B ≤ w.heap.size := by omega
        have hwS : w.heap.size ≠ S := by omega
        have hwq : w.heap.size ≤ qc := by omega
        go_wp2_with fail
        refine bodyPost_ret (v := .agg #[.int .i64 ru, .int .i64 p.2.1, .int .i64 p.2.2.1, .int .i64 p.2.2.2.1, .int .i64 p.2.2.2.2]) (by simp [results, Try.results61, go_sem, z0, z1, z2, z3, z4]) rfl ⟨⟨(ru, p.2.1, p.2.2.1, p.2.2.2.1, p.2.2.2.2), rfl⟩, ((((((TT.out.set hwq hqB (fun e => hqS e.symm) _ _).set (Nat.le_refl _) hwB hwS _ _).set (Nat.le_refl _) hwB hwS _ _).set (Nat.le_refl _) hwB hwS _ _).set (Nat.le_refl _) hwB hwS _ _).set (Nat.le_refl _) hwB hwS _ _).1, ((((((TT.out.set hwq hqB (fun e => hqS e.symm) _ _).set (Nat.le_refl _) hwB hwS _ _).set (Nat.le_refl _) hwB hwS _ _).set (Nat.le_refl _) hwB hwS _ _).set (Nat.le_refl _) hwB hwS _ _).set (Nat.le_refl _) hwB hwS _ _).2⟩
      · skip
        go_wp2_with fail
        obtain ⟨T', hT'⟩ : ∃ T' : List Int, T' = [0, 20, 21, 1000000, 1000001] := ⟨_, rfl⟩
        have hT : ∀ i, i < 5 → (X.alloc (.cells #[.int .i64 0, .int .i64 20, .int .i64 21, .int .i64 1000000, .int .i64 1000001] 2)).cell? ⟨X.heap.size, i, none⟩ = some (.int .i64 (T'.getD i 0)) := by
          intro i hi
          rw [Fk.cellTop _ _ _ _ _ rfl, hT']
          match i, hi with
          | 0, _ => rfl
          | 1, _ => rfl
          | 2, _ => rfl
          | 3, _ => rfl
          | 4, _ => rfl
        have T5 : Hid (Dk.T B S W0 (X.alloc (.cells #[.int .i64 0, .int .i64 20, .int .i64 21, .int .i64 1000000, .int .i64 1000001] 2))) := TX.out.alloc _
        have B5 : Hid (Dk.Ev (X.alloc (.cells #[.int .i64 0, .int .i64 20, .int .i64 21, .int .i64 1000000, .int .i64 1000001] 2)) qc p) := BX.out.grown hqX (World.grownBy_alloc X _ none) (by simp)
        have hg5 : X.heap.size < (X.alloc (.cells #[.int .i64 0, .int .i64 20, .int .i64 21, .int .i64 1000000, .int .i64 1000001] 2)).heap.size := by simp
        have hS5 : S < X.heap.size := TX.out.1.lt.2
        have hq5 : qc < (X.alloc (.cells #[.int .i64 0, .int .i64 20, .int .i64 21, .int .i64 1000000, .int .i64 1000001] 2)).heap.size := by simp; omega
        obtain ⟨bk, hbk⟩ : ∃ bk, bk = X.heap.size := ⟨_, rfl⟩
        rw [← hbk] at hT hg5 hS5
        rw [← hbk]
        clear hT' hbk TX BX hqX p0 p1 p2 p3 p4 pf
        generalize X.alloc (.cells #[.int .i64 0, .int .i64 20, .int .i64 21, .int .i64 1000000, .int .i64 1000001] 2) = Y at hT T5 B5 hg5 hq5 ⊢
        refine (drawN_any B S 5 Y T5.out.1 (by omega)).mono ?_
        rintro e X2 ⟨⟨rz, rfl, rz0, rz1, _⟩, h1, h2⟩
        have rzl := rz1 (by omega)
        clear rz1
        have TY : Hid (Dk.T B S W0 X2) := T5.out.next h1 h2
        have BY : Hid (Dk.Ev X2 qc p) := B5.out.grown hq5 h2 (fun e => hqS (Option.some.inj e).symm)
        have hqY : qc < X2.heap.size := Nat.lt_of_lt_of_le hq5 h2.size
        obtain ⟨i, rfl⟩ : ∃ i : Nat, rz = i := ⟨rz.toNat, by omega⟩
        have hi7 : i < 5 := by omega
        have hc6 := Dk.T.cell (B := B) (W0 := W0) h2 hg5 (by omega) (hT i hi7)
        obtain ⟨lf, hlf⟩ : ∃ t, t = T'.getD i 0 := ⟨_, rfl⟩
        rw [← hlf] at hc6
        clear hlf hT h1 h2 hg5 hS5 T5 B5 hq5 X
        have TX := TY
        have BX := BY
        have hqX := hqY
        clear TY BY hqY
        obtain ⟨X, hX⟩ : ∃ X, X = X2 := ⟨_, rfl⟩
        rw [← hX]
        rw [← hX] at TX BX hqX hc6
        clear hX
        obtain ⟨p0, p1, p2, p3, p4, pf⟩ := BX.out
        have ZX := HZ.out.grown (by omega) TX.out.2 (fun e => by have := Option.some.inj e; omega)
        obtain ⟨z0, z1, z2, z3, z4, zf⟩ := ZX
        have TT : Hid (Dk.T B S w X) := ⟨TX.out.1, Fk.grownBy_trans HG0.out TX.out.2⟩
        have hwB : B ≤ w.heap.size := by omega
        have hwS : w.heap.size ≠ S := by omega
        have hwq : w.heap.size ≤ qc := by omega
        go_wp2_with fail
        refine bodyPost_ret (v := .agg #[.int .i64 p.1, .int .i64 lf, .int .i64 p.2.2.1, .int .i64 p.2.2.2.1, .int .i64 p.2.2.2.2]) (by simp [results, Try.results61, go_sem, z0, z1, z2, z3, z4]) rfl ⟨⟨(p.1, lf, p.2.2.1, p.2.2.2.1, p.2.2.2.2), rfl⟩, ((((((TT.out.set hwq hqB (fun e => hqS e.symm) _ _).set (Nat.le_refl _) hwB hwS _ _).set (Nat.le_refl _) hwB hwS _ _).set (Nat.le_refl _) hwB hwS _ _).set (Nat.le_refl _) hwB hwS _ _).set (Nat.le_refl _) hwB hwS _ _).1, ((((((TT.out.set hwq hqB (fun e => hqS e.symm) _ _).set (Nat.le_refl _) hwB hwS _ _).set (Nat.le_refl _) hwB hwS _ _).set (Nat.le_refl _) hwB hwS _ _).set (Nat.le_refl _) hwB hwS _ _).set (Nat.le_refl _) hwB hwS _ _).2⟩
      · skip
        go_wp2_with fail
        obtain ⟨T', hT'⟩ : ∃ T' : List Int, T' = [0, 10000, 10001] := ⟨_, rfl⟩
        have hT : ∀ i, i < 3 → (X.alloc (.cells #[.int .i64 0, .int .i64 10000, .int .i64 10001] 2)).cell? ⟨X.heap.size, i, none⟩ = some (.int .i64 (T'.getD i 0)) := by
          intro i hi
          rw [Fk.cellTop _ _ _ _ _ rfl, hT']
          match i, hi with
          | 0, _ => rfl
          | 1, _ => rfl
          | 2, _ => rfl
        have T5 : Hid (Dk.T B S W0 (X.alloc (.cells #[.int .i64 0, .int .i64 10000, .int .i64 10001] 2))) := TX.out.alloc _
        have B5 : Hid (Dk.Ev (X.alloc (.cells #[.int .i64 0, .int .i64 10000, .int .i64 10001] 2)) qc p) := BX.out.grown hqX (World.grownBy_alloc X _ none) (by simp)
        have hg5 : X.heap.size < (X.alloc (.cells #[.int .i64 0, .int .i64 10000, .int .i64 10001] 2)).heap.size := by simp
        have hS5 : S < X.heap.size := TX.out.1.lt.2
        have hq5 : qc < (X.alloc (.cells #[.int .i64 0, .int .i64 10000, .int .i64 10001] 2)).heap.size := by simp; omega
        obtain ⟨bk, hbk⟩ : ∃ bk, bk = X.heap.size := ⟨_, rfl⟩
        rw [← hbk] at hT hg5 hS5
        rw [← hbk]
        clear hT' hbk TX BX hqX p0 p1 p2 p3 p4 pf
        generalize X.alloc (.cells #[.int .i64 0, .int .i64 10000, .int .i64 10001] 2) = Y at hT T5 B5 hg5 hq5 ⊢
        refine (drawN_any B S 3 Y T5.out.1 (by omega)).mono ?_
        rintro e X2 ⟨⟨rz, rfl, rz0, rz1, _⟩, h1, h2⟩
        have rzl := rz1 (by omega)
        clear rz1
        have TY : Hid (Dk.T B S W0 X2) := T5.out.next h1 h2
        have BY : Hid (Dk.Ev X2 qc p) := B5.out.grown hq5 h2 (fun e => hqS (Option.some.inj e).symm)
        have hqY : qc < X2.heap.size := Nat.lt_of_lt_of_le hq5 h2.size
        obtain ⟨i, rfl⟩ : ∃ i : Nat, rz = i := ⟨rz.toNat, by omega⟩
        have hi7 : i < 3 := by omega
        have hc6 := Dk.T.cell (B := B) (W0 := W0) h2 hg5 (by omega) (hT i hi7)
        obtain ⟨lf, hlf⟩ : ∃ t, t = T'.getD i 0 := ⟨_, rfl⟩
        rw [← hlf] at hc6
        clear hlf hT h1 h2 hg5 hS5 T5 B5 hq5 X
        have TX := TY
        have BX := BY
        have hqX := hqY
        clear TY BY hqY
        obtain ⟨X, hX⟩ : ∃ X, X = X2 := ⟨_, rfl⟩
        rw [← hX]
        rw [← hX] at TX BX hqX hc6
        clear hX
        obtain ⟨p0, p1, p2, p3, p4, pf⟩ := BX.out
        have ZX := HZ.out.grown (by omega) TX.out.2 (fun e => by have := Option.some.inj e; omega)
        obtain ⟨z0, z1, z2, z3, z4, zf⟩ := ZX
        have TT : Hid (Dk.T B S w X) := ⟨TX.out.1, Fk.grownBy_trans HG0.out TX.out.2⟩
        have hwB : B ≤ w.heap.size := by omega
        have hwS : w.heap.size ≠ S := by omega
        have hwq : w.heap.size ≤ qc := by omega
        go_wp2_with fail
        refine bodyPost_ret (v := .agg #[.int .i64 p.1, .int .i64 p.2.1, .int .i64 p.2.2.1, .int .i64 lf, .int .i64 p.2.2.2.2]) (by simp [results, Try.results61, go_sem, z0, z1, z2, z3, z4]) rfl ⟨⟨(p.1, p.2.1, p.2.2.1, lf, p.2.2.2.2), rfl⟩, ((((((TT.out.set hwq hqB (fun e => hqS e.symm) _ _).set (Nat.le_refl _) hwB hwS _ _).set (Nat.le_refl _) hwB hwS _ _).set (Nat.le_refl _) hwB hwS _ _).set (Nat.le_refl _) hwB hwS _ _).set (Nat.le_refl _) hwB hwS _ _).1, ((((((TT.out.set hwq hqB (fun e => hqS e.symm) _ _).set (Nat.le_refl _) hwB hwS _ _).set (Nat.le_refl _) hwB hwS _ _).set (Nat.le_refl _) hwB hwS _ _).set (Nat.le_refl _) hwB hwS _ _).set (Nat.le_refl _) hwB hwS _ _).2⟩
      · skip
        go_wp2_with fail
        obtain ⟨T', hT'⟩ : ∃ T' : List Int, T' = [0, 1000, 1001] := ⟨_, rfl⟩
        have hT : ∀ i, i < 3 → (X.alloc (.cells #[.int .i64 0, .int .i64 1000, .int .i64 1001] 2)).cell? ⟨X.heap.size, i, none⟩ = some (.int .i64 (T'.getD i 0)) := by
          intro i hi
          rw [Fk.cellTop _ _ _ _ _ rfl, hT']
          match i, hi with
          | 0, _ => rfl
          | 1, _ => rfl
          | 2, _ => rfl
        have T5 : Hid (Dk.T B S W0 (X.alloc (.cells #[.int .i64 0, .int .i64 1000, .int .i64 1001] 2))) := TX.out.alloc _
        have B5 : Hid (Dk.Ev (X.alloc (.cells #[.int .i64 0, .int .i64 1000, .int .i64 1001] 2)) qc p) := BX.out.grown hqX (World.grownBy_alloc X _ none) (by simp)
        have hg5 : X.heap.size < (X.alloc (.cells #[.int .i64 0, .int .i64 1000, .int .i64 1001] 2)).heap.size := by simp
        have hS5 : S < X.heap.size := TX.out.1.lt.2
        have hq5 : qc < (X.alloc (.cells #[.int .i64 0, .int .i64 1000, .int .i64 1001] 2)).heap.size := by simp; omega
        obtain ⟨bk, hbk⟩ : ∃ bk, bk = X.heap.size := ⟨_, rfl⟩
        rw [← hbk] at hT hg5 hS5
        rw [← hbk]
        clear hT' hbk TX BX hqX p0 p1 p2 p3 p4 pf
        generalize X.alloc (.cells #[.int .i64 0, .int .i64 1000, .int .i64 1001] 2) = Y at hT T5 B5 hg5 hq5 ⊢
        refine (drawN_any B S 3 Y T5.out.1 (by omega)).mono ?_
        rintro e X2 ⟨⟨rz, rfl, rz0, rz1, _⟩, h1, h2⟩
        have rzl := rz1 (by omega)
        clear rz1
        have TY : Hid (Dk.T B S W0 X2) := T5.out.next h1 h2
        have BY : Hid (Dk.Ev X2 qc p) := B5.out.grown hq5 h2 (fun e => hqS (Option.some.inj e).symm)
        have hqY : qc < X2.heap.size := Nat.lt_of_lt_of_le hq5 h2.size
        obtain ⟨i, rfl⟩ : ∃ i : Nat, rz = i := ⟨rz.toNat, by omega⟩
        have hi7 : i < 3 := by omega
        have hc6 := Dk.T.cell (B := B) (W0 := W0) h2 hg5 (by omega) (hT i hi7)
        obtain ⟨lf, hlf⟩ : ∃ t, t = T'.getD i 0 := ⟨_, rfl⟩
        rw [← hlf] at hc6
        clear hlf hT h1 h2 hg5 hS5 T5 B5 hq5 X
        have TX := TY
        have BX := BY
        have hqX := hqY
        clear TY BY hqY
        obtain ⟨X, hX⟩ : ∃ X, X = X2 := ⟨_, rfl⟩
        rw [← hX]
        rw [← hX] at TX BX hqX hc6
        clear hX
        obtain ⟨p0, p1, p2, p3, p4, pf⟩ := BX.out
        have ZX := HZ.out.grown (by omega) TX.out.2 (fun e => by have := Option.some.inj e; omega)
        obtain ⟨z0, z1, z2, z3, z4, zf⟩ := ZX
        have TT : Hid (Dk.T B S w X) := ⟨TX.out.1, Fk.grownBy_trans HG0.out TX.out.2⟩
        have hwB : B ≤ w.heap.size := by omega
        have hwS : w.heap.size ≠ S := by omega
        have hwq : w.heap.size ≤ qc := by omega
        go_wp2_with fail
        refine bodyPost_ret (v := .agg #[.int .i64 p.1, .int .i64 p.2.1, .int .i64 p.2.2.1, .int .i64 p.2.2.2.1, .int .i64 lf]) (by simp [results, Try.results61, go_sem, z0, z1, z2, z3, z4]) rfl ⟨⟨(p.1, p.2.1, p.2.2.1, p.2.2.2.1, lf), rfl⟩, ((((((TT.out.set hwq hqB (fun e => hqS e.symm) _ _).set (Nat.le_refl _) hwB hwS _ _).set (Nat.le_refl _) hwB hwS _ _).set (Nat.le_refl _) hwB hwS _ _).set (Nat.le_refl _) hwB hwS _ _).set (Nat.le_refl _) hwB hwS _ _).1, ((((((TT.out.set hwq hqB (fun e => hqS e.symm) _ _).set (Nat.le_refl _) hwB hwS _ _).set (Nat.le_refl _) hwB hwS _ _).set (Nat.le_refl _) hwB hwS _ _).set (Nat.le_refl _) hwB hwS _ _).set (Nat.le_refl _) hwB hwS _ _).2⟩
  · skip
    have e2 : ((1 + ra : Int) == 2) = false := by simp; omega
    have d2 : decide ((1 + ra : Int) = 2) = false := by simp; omega
    have e3 : ((1 + ra : Int) == 3) = false := by simp; omega
    have d3 : decide ((1 + ra : Int) = 3) = false := by simp; omega
    have e4 : ((1 + ra : Int) == 4) = true := by simp; omega
    have d4 : decide ((1 + ra : Int) = 4) = true := by simp; omega
    have HKK := Fk.hide hk
    clear hk
    go_wp2_with fail
    rw [← HQC.out]
    generalize w2.alloc (.cells #[.int .i64 (1 + ra), .int .i64 (1 + rb), .int .i64 0, .int .i64 0, .int .i64 0] 68) = X at TX BX hqX ⊢
    clear e2 e3 e4 d2 d3 d4
    generalize ((1 + ra, 1 + rb, 0, 0, 0) : Vt.E) = p at BX
    obtain ⟨p0, p1, p2, p3, p4, pf⟩ := BX.out
    refine (drawN_any B S 99 X TX.out.1 (by omega)).mono ?_
    rintro e X2 ⟨⟨rc, rfl, rc0, rc1, _⟩, h1, h2⟩
    have rcl := rc1 (by omega)
    clear rc1
    have TY : Hid (Dk.T B S W0 X2) := TX.out.next h1 h2
    have BY : Hid (Dk.Ev X2 qc p) := BX.out.grown hqX h2 (fun e => hqS (Option.some.inj e).symm)
    have hqY : qc < X2.heap.size := Nat.lt_of_lt_of_le hqX h2.size
    clear h1 h2 TX BX hqX p0 p1 p2 p3 p4 pf
    have TX := TY
    have BX := BY
    have hqX := hqY
    clear TY BY hqY
    obtain ⟨X, hX⟩ : ∃ X, X = X2 := ⟨_, rfl⟩
    rw [← hX]
    rw [← hX] at TX BX hqX
    clear hX
    obtain ⟨p0, p1, p2, p3, p4, pf⟩ := BX.out
    go_wp2_with fail
    have TY : Hid (Dk.T B S W0 (X.setCell ⟨qc, 3, none⟩ (.int .i64 (1 + rc)))) := TX.out.set hq0 hqB (fun e => hqS e.symm) _ _
    have BY := Fk.hide (BX.out.set3 (1 + rc))
    have hqY : qc < (X.setCell ⟨qc, 3, none⟩ (.int .i64 (1 + rc))).heap.size := by simpa using hqX
    generalize hXX : X.setCell ⟨qc, 3, none⟩ (.int .i64 (1 + rc)) = Y at TY BY hqY ⊢
    clear hXX TX BX hqX p0 p1 p2 p3 p4 pf X
    obtain ⟨p', hp'⟩ : ∃ p' : Vt.E, p' = (p.1, p.2.1, p.2.2.1, (1 + rc), p.2.2.2.2) := ⟨_, rfl⟩
    rw [← hp'] at BY
    clear hp' p
    obtain ⟨p, hp⟩ : ∃ p, p = p' := ⟨_, rfl⟩
    rw [← hp] at BY
    clear hp p'
    have TX := TY
    have BX := BY
    have hqX := hqY
    clear TY BY hqY
    obtain ⟨X, hX⟩ : ∃ X, X = Y := ⟨_, rfl⟩
    rw [← hX]
    rw [← hX] at TX BX hqX
    clear hX
    obtain ⟨p0, p1, p2, p3, p4, pf⟩ := BX.out
    refine (drawN_any B S 9 X TX.out.1 (by omega)).mono ?_
    rintro e X2 ⟨⟨rd, rfl, rd0, rd1, _⟩, h1, h2⟩
    have rdl := rd1 (by omega)
    clear rd1
    have TY : Hid (Dk.T B S W0 X2) := TX.out.next h1 h2
    have BY : Hid (Dk.Ev X2 qc p) := BX.out.grown hqX h2 (fun e => hqS (Option.some.inj e).symm)
    have hqY : qc < X2.heap.size := Nat.lt_of_lt_of_le hqX h2.size
    clear h1 h2 TX BX hqX p0 p1 p2 p3 p4 pf
    have TX := TY
    have BX := BY
    have hqX := hqY
    clear TY BY hqY
    obtain ⟨X, hX⟩ : ∃ X, X = X2 := ⟨_, rfl⟩
    rw [← hX]
    rw [← hX] at TX BX hqX
    clear hX
    obtain ⟨p0, p1, p2, p3, p4, pf⟩ := BX.out
    go_wp2_with fail
    have TY : Hid (Dk.T B S W0 (X.setCell ⟨qc, 4, none⟩ (.int .i64 (1 + rd)))) := TX.out.set hq0 hqB (fun e => hqS e.symm) _ _
    have BY := Fk.hide (BX.out.set4 (1 + rd))
    have hqY : qc < (X.setCell ⟨qc, 4, none⟩ (.int .i64 (1 + rd))).heap.size := by simpa using hqX
    generalize hXX : X.setCell ⟨qc, 4, none⟩ (.int .i64 (1 + rd)) = Y at TY BY hqY ⊢
    clear hXX TX BX hqX p0 p1 p2 p3 p4 pf X
    obtain ⟨p', hp'⟩ : ∃ p' : Vt.E, p' = (p.1, p.2.1, p.2.2.1, p.2.2.2.1, (1 + rd)) := ⟨_, rfl⟩
    rw [← hp'] at BY
    clear hp' p
    obtain ⟨p, hp⟩ : ∃ p, p = p' := ⟨_, rfl⟩
    rw [← hp] at BY
    clear hp p'
    have TX := TY
    have BX := BY
    have hqX := hqY
    clear TY BY hqY
    obtain ⟨X, hX⟩ : ∃ X, X = Y := ⟨_, rfl⟩
    rw [← hX]
    rw [← hX] at TX BX hqX
    clear hX
    obtain ⟨p0, p1, p2, p3, p4, pf⟩ := BX.out
    refine (drawOne_any B S 20 X TX.out.1 (by omega)).mono ?_
    rintro e X2 ⟨⟨rt, rfl⟩, h1, h2⟩
    have TY : Hid (Dk.T B S W0 X2) := TX.out.next h1 h2
    have BY : Hid (Dk.Ev X2 qc p) := BX.out.grown hqX h2 (fun e => hqS (Option.some.inj e).symm)
    have hqY : qc < X2.heap.size := Nat.lt_of_lt_of_le hqX h2.size
    clear h1 h2 TX BX hqX p0 p1 p2 p3 p4 pf
    have TX := TY
    have BX := BY
    have hqX := hqY
    clear TY BY hqY
    obtain ⟨X, hX⟩ : ∃ X, X = X2 := ⟨_, rfl⟩
    rw [← hX]
    rw [← hX] at TX BX hqX
    clear hX
    obtain ⟨p0, p1, p2, p3, p4, pf⟩ := BX.out
    cases rt with
    | false =>
      have ZX := HZ.out.grown (by omega) TX.out.2 (fun e => by have := Option.some.inj e; omega)
      obtain ⟨z0, z1, z2, z3, z4, zf⟩ := ZX
      have TT : Hid (Dk.T B S w X) := ⟨TX.out.1, Fk.grownBy_trans HG0.out TX.out.2⟩
      have hwB : B ≤ w.heap.size := by omega
      have hwS : w.heap.size ≠ S := by omega
      go_wp2_with fail
      refine bodyPost_ret (v := .agg #[.int .i64 p.1, .int .i64 p.2.1, .int .i64 p.2.2.1, .int .i64 p.2.2.2.1, .int .i64 p.2.2.2.2]) (by simp [results, Try.results61, go_sem, z0, z1, z2, z3, z4]) rfl ⟨⟨(p.1, p.2.1, p.2.2.1, p.2.2.2.1, p.2.2.2.2), rfl⟩, (((((TT.out.set (Nat.le_refl _) hwB hwS _ _).set (Nat.le_refl _) hwB hwS _ _).set (Nat.le_refl _) hwB hwS _ _).set (Nat.le_refl _) hwB hwS _ _).set (Nat.le_refl _) hwB hwS _ _).1, (((((TT.out.set (Nat.le_refl _) hwB hwS _ _).set (Nat.le_refl _) hwB hwS _ _).set (Nat.le_refl _) hwB hwS _ _).set (Nat.le_refl _) hwB hwS _ _).set (Nat.le_refl _) hwB hwS _ _).2⟩
    | true =>
      go_wp2_with fail
      refine (drawN_any B S 4 X TX.out.1 (by omega)).mono ?_
      rintro e X2 ⟨⟨rk, rfl, rk0, rk1, _⟩, h1, h2⟩
      have rkl := rk1 (by omega)
      clear rk1
      have TY : Hid (Dk.T B S W0 X2) := TX.out.next h1 h2
      have BY : Hid (Dk.Ev X2 qc p) := BX.out.grown hqX h2 (fun e => hqS (Option.some.inj e).symm)
      have hqY : qc < X2.heap.size := Nat.lt_of_lt_of_le hqX h2.size
      clear h1 h2 TX BX hqX p0 p1 p2 p3 p4 pf
      have TX := TY
      have BX := BY
      have hqX := hqY
      clear TY BY hqY
      obtain ⟨X, hX⟩ : ∃ X, X = X2 := ⟨_, rfl⟩
      rw [← hX]
      rw [← hX] at TX BX hqX
      clear hX
      obtain ⟨p0, p1, p2, p3, p4, pf⟩ := BX.out
      rcases (by omega : rk = 0 ∨ rk = 1 ∨ rk = 2 ∨ rk = 3) with rfl | rfl | rfl | rfl
      · skip
        go_wp2_with fail
        refine (drawN_any B S 7 X TX.out.1 (by omega)).mono ?_
        rintro e X2 ⟨⟨ru, rfl, ru0, ru1, _⟩, h1, h2⟩
        have rul := ru1 (by omega)
        clear ru1
        have TY : Hid (Dk.T B S W0 X2) := TX.out.next h1 h2
        have BY : Hid (Dk.Ev X2 qc p) := BX.out.grown hqX h2 (fun e => hqS (Option.some.inj e).symm)
        have hqY : qc < X2.heap.size := Nat.lt_of_lt_of_le hqX h2.size
        clear h1 h2 TX BX hqX p0 p1 p2 p3 p4 pf
        have TX := TY
        have BX := BY
        have hqX := hqY
        clear TY BY hqY
        obtain ⟨X, hX⟩ : ∃ X, X = X2 := ⟨_, rfl⟩
        rw [← hX]
        rw [← hX] at TX BX hqX
        clear hX
        obtain ⟨p0, p1, p2, p3, p4, pf⟩ := BX.out
        have ZX := HZ.out.grown (by omega) TX.out.2 (fun e => by have := Option.some.inj e; omega)
        obtain ⟨z0, z1, z2, z3, z4, zf⟩ := ZX
        have TT : Hid (Dk.T B S w X) := ⟨TX.out.1, Fk.grownBy_trans HG0.out TX.out.2⟩
        have hwB : B ≤ w.heap.size := by omega
        have hwS : w.heap.size ≠ S := by omega
        have hwq : w.heap.size ≤ qc := by omega
        go_wp2_with fail
        refine bodyPost_ret (v := .agg #[.int .i64 ru, .int .i64 p.2.1, .int .i64 p.2.2.1, .int .i64 p.2.2.2.1, .int .i64 p.2.2.2.2]) (by simp [results, Try.results61, go_sem, z0, z1, z2, z3, z4]) rfl ⟨⟨(ru, p.2.1, p.2.2.1, p.2.2.2.1, p.2.2.2.2), rfl⟩, ((((((TT.out.set hwq hqB (fun e => hqS e.symm) _ _).set (Nat.le_refl _) hwB hwS _ _).set (Nat.le_refl _) hwB hwS _ _).set (Nat.le_refl _) hwB hwS _ _).set (Nat.le_refl _) hwB hwS _ _).set (Nat.le_refl _) hwB hwS _ _).1, ((((((TT.out.set hwq hqB (fun e => hqS e.symm) _ _).set (Nat.le_refl _) hwB hwS _ _).set (Nat.le_refl _) hwB hwS _ _).set (Nat.le_refl _) hwB hwS _ _).set (Nat.le_refl _) hwB hwS _ _).set (Nat.le_refl _) hwB hwS _ _).2⟩
      · skip
        go_wp2_with fail
        obtain ⟨T', hT'⟩ : ∃ T' : List Int, T' = [0, 20, 21, 1000000, 1000001] := ⟨_, rfl⟩
        have hT : ∀ i, i < 5 → (X.alloc (.cells #[.int .i64 0, .int .i64 20, .int .i64 21, .int .i64 1000000, .int .i64 1000001] 2)).cell? ⟨X.heap.size, i, none⟩ = some (.int .i64 (T'.getD i 0)) := by
          intro i hi
          rw [Fk.cellTop _ _ _ _ _ rfl, hT']
          match i, hi with
          | 0, _ => rfl
          | 1, _ => rfl
          | 2, _ => rfl
          | 3, _ => rfl
          | 4, _ => rfl
        have T5 : Hid (Dk.T B S W0 (X.alloc (.cells #[.int .i64 0, .int .i64 20, .int .i64 21, .int .i64 1000000, .int .i64 1000001] 2))) := TX.out.alloc _
        have B5 : Hid (Dk.Ev (X.alloc (.cells #[.int .i64 0, .int .i64 20, .int .i64 21, .int .i64 1000000, .int .i64 1000001] 2)) qc p) := BX.out.grown hqX (World.grownBy_alloc X _ none) (by simp)
        have hg5 : X.heap.size < (X.alloc (.cells #[.int .i64 0, .int .i64 20, .int .i64 21, .int .i64 1000000, .int .i64 1000001] 2)).heap.size := by simp
        have hS5 : S < X.heap.size := TX.out.1.lt.2
        have hq5 : qc < (X.alloc (.cells #[.int .i64 0, .int .i64 20, .int .i64 21, .int .i64 1000000, .int .i64 1000001] 2)).heap.size := by simp; omega
        obtain ⟨bk, hbk⟩ : ∃ bk, bk = X.heap.size := ⟨_, rfl⟩
        rw [← hbk] at hT hg5 hS5
        rw [← hbk]
        clear hT' hbk TX BX hqX p0 p1 p2 p3 p4 pf
        generalize X.alloc (.cells #[.int .i64 0, .int .i64 20, .int .i64 21, .int .i64 1000000, .int .i64 1000001] 2) = Y at hT T5 B5 hg5 hq5 ⊢
        refine (drawN_any B S 5 Y T5.out.1 (by omega)).mono ?_
        rintro e X2 ⟨⟨rz, rfl, rz0, rz1, _⟩, h1, h2⟩
        have rzl := rz1 (by omega)
        clear rz1
        have TY : Hid (Dk.T B S W0 X2) := T5.out.next h1 h2
        have BY : Hid (Dk.Ev X2 qc p) := B5.out.grown hq5 h2 (fun e => hqS (Option.some.inj e).symm)
        have hqY : qc < X2.heap.size := Nat.lt_of_lt_of_le hq5 h2.size
        obtain ⟨i, rfl⟩ : ∃ i : Nat, rz = i := ⟨rz.toNat, by omega⟩
        have hi7 : i < 5 := by omega
        have hc6 := Dk.T.cell (B := B) (W0 := W0) h2 hg5 (by omega) (hT i hi7)
        obtain ⟨lf, hlf⟩ : ∃ t, t = T'.getD i 0 := ⟨_, rfl⟩
        rw [← hlf] at hc6
        clear hlf hT h1 h2 hg5 hS5 T5 B5 hq5 X
        have TX := TY
        have BX := BY
        have hqX := hqY
        clear TY BY hqY
        obtain ⟨X, hX⟩ : ∃ X, X = X2 := ⟨_, rfl⟩
        rw [← hX]
        rw [← hX] at TX BX hqX hc6
        clear hX
        obtain ⟨p0, p1, p2, p3, p4, pf⟩ := BX.out
        have ZX := HZ.out.grown (by omega) TX.out.2 (fun e => by have := Option.some.inj e; omega)
        obtain ⟨z0, z1, z2, z3, z4, zf⟩ := ZX
        have TT : Hid (Dk.T B S w X) := ⟨TX.out.1, Fk.grownBy_trans HG0.out TX.out.2⟩
        have hwB : B ≤ w.heap.size := by omega
        have hwS : w.heap.size ≠ S := by omega
        have hwq : w.heap.size ≤ qc := by omega
        go_wp2_with fail
        refine bodyPost_ret (v := .agg #[.int .i64 p.1, .int .i64 lf, .int .i64 p.2.2.1, .int .i64 p.2.2.2.1, .int .i64 p.2.2.2.2]) (by simp [results, Try.results61, go_sem, z0, z1, z2, z3, z4]) rfl ⟨⟨(p.1, lf, p.2.2.1, p.2.2.2.1, p.2.2.2.2), rfl⟩, ((((((TT.out.set hwq hqB (fun e => hqS e.symm) _ _).set (Nat.le_refl _) hwB hwS _ _).set (Nat.le_refl _) hwB hwS _ _).set (Nat.le_refl _) hwB hwS _ _).set (Nat.le_refl _) hwB hwS _ _).set (Nat.le_refl _) hwB hwS _ _).1, ((((((TT.out.set hwq hqB (fun e => hqS e.symm) _ _).set (Nat.le_refl _) hwB hwS _ _).set (Nat.le_refl _) hwB hwS _ _).set (Nat.le_refl _) hwB hwS _ _).set (Nat.le_refl _) hwB hwS _ _).set (Nat.le_refl _) hwB hwS _ _).2⟩
      · skip
        go_wp2_with fail
        obtain ⟨T', hT'⟩ : ∃ T' : List Int, T' = [0, 10000, 10001] := ⟨_, rfl⟩
        have hT : ∀ i, i < 3 → (X.alloc (.cells #[.int .i64 0, .int .i64 10000, .int .i64 10001] 2)).cell? ⟨X.heap.size, i, none⟩ = some (.int .i64 (T'.getD i 0)) := by
          intro i hi
          rw [Fk.cellTop _ _ _ _ _ rfl, hT']
          match i, hi with
          | 0, _ => rfl
          | 1, _ => rfl
          | 2, _ => rfl
        have T5 : Hid (Dk.T B S W0 (X.alloc (.cells #[.int .i64 0, .int .i64 10000, .int .i64 10001] 2))) := TX.out.alloc _
        have B5 : Hid (Dk.Ev (X.alloc (.cells #[.int .i64 0, .int .i64 10000, .int .i64 10001] 2)) qc p) := BX.out.grown hqX (World.grownBy_alloc X _ none) (by simp)
        have hg5 : X.heap.size < (X.alloc (.cells #[.int .i64 0, .int .i64 10000, .int .i64 10001] 2)).heap.size := by simp
        have hS5 : S < X.heap.size := TX.out.1.lt.2
        have hq5 : qc < (X.alloc (.cells #[.int .i64 0, .int .i64 10000, .int .i64 10001] 2)).heap.size := by simp; omega
        obtain ⟨bk, hbk⟩ : ∃ bk, bk = X.heap.size := ⟨_, rfl⟩
        rw [← hbk] at hT hg5 hS5
        rw [← hbk]
        clear hT' hbk TX BX hqX p0 p1 p2 p3 p4 pf
        generalize X.alloc (.cells #[.int .i64 0, .int .i64 10000, .int .i64 10001] 2) = Y at hT T5 B5 hg5 hq5 ⊢
        refine (drawN_any B S 3 Y T5.out.1 (by omega)).mono ?_
        rintro e X2 ⟨⟨rz, rfl, rz0, rz1, _⟩, h1, h2⟩
        have rzl := rz1 (by omega)
        clear rz1
        have TY : Hid (Dk.T B S W0 X2) := T5.out.next h1 h2
        have BY : Hid (Dk.Ev X2 qc p) := B5.out.grown hq5 h2 (fun e => hqS (Option.some.inj e).symm)
        have hqY : qc < X2.heap.size := Nat.lt_of_lt_of_le hq5 h2.size
        obtain ⟨i, rfl⟩ : ∃ i : Nat, rz = i := ⟨rz.toNat, by omega⟩
        have hi7 : i < 3 := by omega
        have hc6 := Dk.T.cell (B := B) (W0 := W0) h2 hg5 (by omega) (hT i hi7)
        obtain ⟨lf, hlf⟩ : ∃ t, t = T'.getD i 0 := ⟨_, rfl⟩
        rw [← hlf] at hc6
        clear hlf hT h1 h2 hg5 hS5 T5 B5 hq5 X
        have TX := TY
        have BX := BY
        have hqX := hqY
        clear TY BY hqY
        obtain ⟨X, hX⟩ : ∃ X, X = X2 := ⟨_, rfl⟩
        rw [← hX]
        rw [← hX] at TX BX hqX hc6
        clear hX
        obtain ⟨p0, p1, p2, p3, p4, pf⟩ := BX.out
        have ZX := HZ.out.grown (by omega) TX.out.2 (fun e => by have := Option.some.inj e; omega)
        obtain ⟨z0, z1, z2, z3, z4, zf⟩ := ZX
        have TT : Hid (Dk.T B S w X) := ⟨TX.out.1, Fk.grownBy_trans HG0.out TX.out.2⟩
        have hwB : B ≤ w.heap.size := by omega
        have hwS : w.heap.size ≠ S := by omega
        have hwq : w.heap.size ≤ qc := by omega
        go_wp2_with fail
        refine bodyPost_ret (v := .agg #[.int .i64 p.1, .int .i64 p.2.1, .int .i64 p.2.2.1, .int .i64 lf, .int .i64 p.2.2.2.2]) (by simp [results, Try.results61, go_sem, z0, z1, z2, z3, z4]) rfl ⟨⟨(p.1, p.2.1, p.2.2.1, lf, p.2.2.2.2), rfl⟩, ((((((TT.out.set hwq hqB (fun e => hqS e.symm) _ _).set (Nat.le_refl _) hwB hwS _ _).set (Nat.le_refl _) hwB hwS _ _).set (Nat.le_refl _) hwB hwS _ _).set (Nat.le_refl _) hwB hwS _ _).set (Nat.le_refl _) hwB hwS _ _).1, ((((((TT.out.set hwq hqB (fun e => hqS e.symm) _ _).set (Nat.le_refl _) hwB hwS _ _).set (Nat.le_refl _) hwB hwS _ _).set (Nat.le_refl _) hwB hwS _ _).set (Nat.le_refl _) hwB hwS _ _).set (Nat.le_refl _) hwB hwS _ _).2⟩
      · skip
        go_wp2_with fail
        obtain ⟨T', hT'⟩ : ∃ T' : List Int, T' = [0, 1000, 1001] := ⟨_, rfl⟩
        have hT : ∀ i, i < 3 → (X.alloc (.cells #[.int .i64 0, .int .i64 1000, .int .i64 1001] 2)).cell? ⟨X.heap.size, i, none⟩ = some (.int .i64 (T'.getD i 0)) := by
          intro i hi
          rw [Fk.cellTop _ _ _ _ _ rfl, hT']
          match i, hi with
          | 0, _ => rfl
          | 1, _ => rfl
          | 2, _ => rfl
        have T5 : Hid (Dk.T B S W0 (X.alloc (.cells #[.int .i64 0, .int .i64 1000, .int .i64 1001] 2))) := TX.out.alloc _
        have B5 : Hid (Dk.Ev (X.alloc (.cells #[.int .i64 0, .int .i64 1000, .int .i64 1001] 2)) qc p) := BX.out.grown hqX (World.grownBy_alloc X _ none) (by simp)
        have hg5 : X.heap.size < (X.alloc (.cells #[.int .i64 0, .int .i64 1000, .int .i64 1001] 2)).heap.size := by simp
        have hS5 : S < X.heap.size := TX.out.1.lt.2
        have hq5 : qc < (X.alloc (.cells #[.int .i64 0, .int .i64 1000, .int .i64 1001] 2)).heap.size := by simp; omega
        obtain ⟨bk, hbk⟩ : ∃ bk, bk = X.heap.size := ⟨_, rfl⟩
        rw [← hbk] at hT hg5 hS5
        rw [← hbk]
        clear hT' hbk TX BX hqX p0 p1 p2 p3 p4 pf
        generalize X.alloc (.cells #[.int .i64 0, .int .i64 1000, .int .i64 1001] 2) = Y at hT T5 B5 hg5 hq5 ⊢
        refine (drawN_any B S 3 Y T5.out.1 (by omega)).mono ?_
        rintro e X2 ⟨⟨rz, rfl, rz0, rz1, _⟩, h1, h2⟩
        have rzl := rz1 (by omega)
        clear rz1
        have TY : Hid (Dk.T B S W0 X2) := T5.out.next h1 h2
        have BY : Hid (Dk.Ev X2 qc p) := B5.out.grown hq5 h2 (fun e => hqS (Option.some.inj e).symm)
        have hqY : qc < X2.heap.size := Nat.lt_of_lt_of_le hq5 h2.size
        obtain ⟨i, rfl⟩ : ∃ i : Nat, rz = i := ⟨rz.toNat, by omega⟩
        have hi7 : i < 3 := by omega
        have hc6 := Dk.T.cell (B := B) (W0 := W0) h2 hg5 (by omega) (hT i hi7)
        obtain ⟨lf, hlf⟩ : ∃ t, t = T'.getD i 0 := ⟨_, rfl⟩
        rw [← hlf] at hc6
        clear hlf hT h1 h2 hg5 hS5 T5 B5 hq5 X
        have TX := TY
        have BX := BY
        have hqX := hqY
        clear TY BY hqY
        obtain ⟨X, hX⟩ : ∃ X, X = X2 := ⟨_, rfl⟩
        rw [← hX]
        rw [← hX] at TX BX hqX hc6
        clear hX
        obtain ⟨p0, p1, p2, p3, p4, pf⟩ := BX.out
        have ZX := HZ.out.grown (by omega) TX.out.2 (fun e => by have := Option.some.inj e; omega)
        obtain ⟨z0, z1, z2, z3, z4, zf⟩ := ZX
        have TT : Hid (Dk.T B S w X) := ⟨TX.out.1, Fk.grownBy_trans HG0.out TX.out.2⟩
        have hwB : B ≤ w.heap.size := by omega
        have hwS : w.heap.size ≠ S := by omega
        have hwq : w.heap.size ≤ qc := by omega
        go_wp2_with fail
        refine bodyPost_ret (v := .agg #[.int .i64 p.1, .int .i64 p.2.1, .int .i64 p.2.2.1, .int .i64 p.2.2.2.1, .int .i64 lf]) (by simp [results, Try.results61, go_sem, z0, z1, z2, z3, z4]) rfl ⟨⟨(p.1, p.2.1, p.2.2.1, p.2.2.2.1, lf), rfl⟩, ((((((TT.out.set hwq hqB (fun e => hqS e.symm) _ _).set (Nat.le_refl _) hwB hwS _ _).set (Nat.le_refl _) hwB hwS _ _).set (Nat.le_refl _) hwB hwS _ _).set (Nat.le_refl _) hwB hwS _ _).set (Nat.le_refl _) hwB hwS _ _).1, ((((((TT.out.set hwq hqB (fun e => hqS e.symm) _ _).set (Nat.le_refl _) hwB hwS _ _).set (Nat.le_refl _) hwB hwS _ _).set (Nat.le_refl _) hwB hwS _ _).set (Nat.le_refl _) hwB hwS _ _).set (Nat.le_refl _) hwB hwS _ _).2⟩
  · skip
    have e2 : ((1 + ra : Int) == 2) = false := by simp; omega
    have d2 : decide ((1 + ra : Int) = 2) = false := by simp; omega
    have e3 : ((1 + ra : Int) == 3) = false := by simp; omega
    have d3 : decide ((1 + ra : Int) = 3) = false := by simp; omega
    have e4 : ((1 + ra : Int) == 4) = false := by simp; omega
    have d4 : decide ((1 + ra : Int) = 4) = false := by simp; omega
    have HKK := Fk.hide hk
    clear hk
    go_wp2_with fail
    rw [← HQC.out]
    generalize w2.alloc (.cells #[.int .i64 (1 + ra), .int .i64 (1 + rb), .int .i64 0, .int .i64 0, .int .i64 0] 68) = X at TX BX hqX ⊢
    clear e2 e3 e4 d2 d3 d4
    generalize ((1 + ra, 1 + rb, 0, 0, 0) : Vt.E) = p at BX
    obtain ⟨p0, p1, p2, p3, p4, pf⟩ := BX.out
    refine (drawOne_any B S 20 X TX.out.1 (by omega)).mono ?_
    rintro e X2 ⟨⟨rt, rfl⟩, h1, h2⟩
    have TY : Hid (Dk.T B S W0 X2) := TX.out.next h1 h2
    have BY : Hid (Dk.Ev X2 qc p) := BX.out.grown hqX h2 (fun e => hqS (Option.some.inj e).symm)
    have hqY : qc < X2.heap.size := Nat.lt_of_lt_of_le hqX h2.size
    clear h1 h2 TX BX hqX p0 p1 p2 p3 p4 pf
    have TX := TY
    have BX := BY
    have hqX := hqY
    clear TY BY hqY
    obtain ⟨X, hX⟩ : ∃ X, X = X2 := ⟨_, rfl⟩
    rw [← hX]
    rw [← hX] at TX BX hqX
    clear hX
    obtain ⟨p0, p1, p2, p3, p4, pf⟩ := BX.out
    cases rt with
    | false =>
      have ZX := HZ.out.grown (by omega) TX.out.2 (fun e => by have := Option.some.inj e; omega)
      obtain ⟨z0, z1, z2, z3, z4, zf⟩ := ZX
      have TT : Hid (Dk.T B S w X) := ⟨TX.out.1, Fk.grownBy_trans HG0.out TX.out.2⟩
      have hwB : B ≤ w.heap.size := by omega
      have hwS : w.heap.size ≠ S := by omega
      go_wp2_with fail
      refine bodyPost_ret (v := .agg #[.int .i64 p.1, .int .i64 p.2.1, .int .i64 p.2.2.1, .int .i64 p.2.2.2.1, .int .i64 p.2.2.2.2]) (by simp [results, Try.results61, go_sem, z0, z1, z2, z3, z4]) rfl ⟨⟨(p.1, p.2.1, p.2.2.1, p.2.2.2.1, p.2.2.2.2), rfl⟩, (((((TT.out.set (Nat.le_refl _) hwB hwS _ _).set (Nat.le_refl _) hwB hwS _ _).set (Nat.le_refl _) hwB hwS _ _).set (Nat.le_refl _) hwB hwS _ _).set (Nat.le_refl _) hwB hwS _ _).1, (((((TT.out.set (Nat.le_refl _) hwB hwS _ _).set (Nat.le_refl _) hwB hwS _ _).set (Nat.le_refl _) hwB hwS _ _).set (Nat.le_refl _) hwB hwS _ _).set (Nat.le_refl _) hwB hwS _ _).2⟩
    | true =>
      go_wp2_with fail
      refine (drawN_any B S 4 X TX.out.1 (by omega)).mono ?_
      rintro e X2 ⟨⟨rk, rfl, rk0, rk1, _⟩, h1, h2⟩
      have rkl := rk1 (by omega)
      clear rk1
      have TY : Hid (Dk.T B S W0 X2) := TX.out.next h1 h2
      have BY : Hid (Dk.Ev X2 qc p) := BX.out.grown hqX h2 (fun e => hqS (Option.some.inj e).symm)
      have hqY : qc < X2.heap.size := Nat.lt_of_lt_of_le hqX h2.size
      clear h1 h2 TX BX hqX p0 p1 p2 p3 p4 pf
      have TX := TY
      have BX := BY
      have hqX := hqY
      clear TY BY hqY
      obtain ⟨X, hX⟩ : ∃ X, X = X2 := ⟨_, rfl⟩
      rw [← hX]
      rw [← hX] at TX BX hqX
      clear hX
      obtain ⟨p0, p1, p2, p3, p4, pf⟩ := BX.out
      rcases (by omega : rk = 0 ∨ rk = 1 ∨ rk = 2 ∨ rk = 3) with rfl | rfl | rfl | rfl
      · skip
        go_wp2_with fail
        refine (drawN_any B S 7 X TX.out.1 (by omega)).mono ?_
        rintro e X2 ⟨⟨ru, rfl, ru0, ru1, _⟩, h1, h2⟩
        have rul := ru1 (by omega)
        clear ru1
        have TY : Hid (Dk.T B S W0 X2) := TX.out.next h1 h2
        have BY : Hid (Dk.Ev X2 qc p) := BX.out.grown hqX h2 (fun e => hqS (Option.some.inj e).symm)
        have hqY : qc < X2.heap.size := Nat.lt_of_lt_of_le hqX h2.size
        clear h1 h2 TX BX hqX p0 p1 p2 p3 p4 pf
        have TX := TY
        have BX := BY
        have hqX := hqY
        clear TY BY hqY
        obtain ⟨X, hX⟩ : ∃ X, X = X2 := ⟨_, rfl⟩
        rw [← hX]
        rw [← hX] at TX BX hqX
        clear hX
        obtain ⟨p0, p1, p2, p3, p4, pf⟩ := BX.out
        have ZX := HZ.out.grown (by omega) TX.out.2 (fun e => by have := Option.some.inj e; omega)
        obtain ⟨z0, z1, z2, z3, z4, zf⟩ := ZX
        have TT : Hid (Dk.T B S w X) := ⟨TX.out.1, Fk.grownBy_trans HG0.out TX.out.2⟩
        have hwB : B ≤ w.heap.size := by omega
        have hwS : w.heap.size ≠ S := by omega
        have hwq : w.heap.size ≤ qc := by omega
        go_wp2_with fail
        refine bodyPost_ret (v := .agg #[.int .i64 ru, .int .i64 p.2.1, .int .i64 p.2.2.1, .int .i64 p.2.2.2.1, .int .i64 p.2.2.2.2]) (by simp [results, Try.results61, go_sem, z0, z1, z2, z3, z4]) rfl ⟨⟨(ru, p.2.1, p.2.2.1, p.2.2.2.1, p.2.2.2.2), rfl⟩, ((((((TT.out.set hwq hqB (fun e => hqS e.symm) _ _).set (Nat.le_refl _) hwB hwS _ _).set (Nat.le_refl _) hwB hwS _ _).set (Nat.le_refl _) hwB hwS _ _).set (Nat.le_refl _) hwB hwS _ _).set (Nat.le_refl _) hwB hwS _ _).1, ((((((TT.out.set hwq hqB (fun e => hqS e.symm) _ _).set (Nat.le_refl _) hwB hwS _ _).set (Nat.le_refl _) hwB hwS _ _).set (Nat.le_refl _) hwB hwS _ _).set (Nat.le_refl _) hwB hwS _ _).set (Nat.le_refl _) hwB hwS _ _).2⟩
      · skip
        go_wp2_with fail
        obtain ⟨T', hT'⟩ : ∃ T' : List Int, T' = [0, 20, 21, 1000000, 1000001] := ⟨_, rfl⟩
        have hT : ∀ i, i < 5 → (X.alloc (.cells #[.int .i64 0, .int .i64 20, .int .i64 21, .int .i64 1000000, .int .i64 1000001] 2)).cell? ⟨X.heap.size, i, none⟩ = some (.int .i64 (T'.getD i 0)) := by
          intro i hi
          rw [Fk.cellTop _ _ _ _ _ rfl, hT']
          match i, hi with
          | 0, _ => rfl
          | 1, _ => rfl
          | 2, _ => rfl
          | 3, _ => rfl
          | 4, _ => rfl
        have T5 : Hid (Dk.T B S W0 (X.alloc (.cells #[.int .i64 0, .int .i64 20, .int .i64 21, .int .i64 1000000, .int .i64 1000001] 2))) := TX.out.alloc _
        have B5 : Hid (Dk.Ev (X.alloc (.cells #[.int .i64 0, .int .i64 20, .int .i64 21, .int .i64 1000000, .int .i64 1000001] 2)) qc p) := BX.out.grown hqX (World.grownBy_alloc X _ none) (by simp)
        have hg5 : X.heap.size < (X.alloc (.cells #[.int .i64 0, .int .i64 20, .int .i64 21, .int .i64 1000000, .int .i64 1000001] 2)).heap.size := by simp
        have hS5 : S < X.heap.size := TX.out.1.lt.2
        have hq5 : qc < (X.alloc (.cells #[.int .i64 0, .int .i64 20, .int .i64 21, .int .i64 1000000, .int .i64 1000001] 2)).heap.size := by simp; omega
        obtain ⟨bk, hbk⟩ : ∃ bk, bk = X.heap.size := ⟨_, rfl⟩
        rw [← hbk] at hT hg5 hS5
        rw [← hbk]
        clear hT' hbk TX BX hqX p0 p1 p2 p3 p4 pf
        generalize X.alloc (.cells #[.int .i64 0, .int .i64 20, .int .i64 21, .int .i64 1000000, .int .i64 1000001] 2) = Y at hT T5 B5 hg5 hq5 ⊢
        refine (drawN_any B S 5 Y T5.out.1 (by omega)).mono ?_
        rintro e X2 ⟨⟨rz, rfl, rz0, rz1, _⟩, h1, h2⟩
        have rzl := rz1 (by omega)
        clear rz1
        have TY : Hid (Dk.T B S W0 X2) := T5.out.next h1 h2
        have BY : Hid (Dk.Ev X2 qc p) := B5.out.grown hq5 h2 (fun e => hqS (Option.some.inj e).symm)
        have hqY : qc < X2.heap.size := Nat.lt_of_lt_of_le hq5 h2.size
        obtain ⟨i, rfl⟩ : ∃ i : Nat, rz = i := ⟨rz.toNat, by omega⟩
        have hi7 : i < 5 := by omega
        have hc6 := Dk.T.cell (B := B) (W0 := W0) h2 hg5 (by omega) (hT i hi7)
        obtain ⟨lf, hlf⟩ : ∃ t, t = T'.getD i 0 := ⟨_, rfl⟩
        rw [← hlf] at hc6
        clear hlf hT h1 h2 hg5 hS5 T5 B5 hq5 X
        have TX := TY
        have BX := BY
        have hqX := hqY
        clear TY BY hqY
        obtain ⟨X, hX⟩ : ∃ X, X = X2 := ⟨_, rfl⟩
        rw [← hX]
        rw [← hX] at TX BX hqX hc6
        clear hX
        obtain ⟨p0, p1, p2, p3, p4, pf⟩ := BX.out
        have ZX := HZ.out.grown (by omega) TX.out.2 (fun e => by have := Option.some.inj e; omega)
        obtain ⟨z0, z1, z2, z3, z4, zf⟩ := ZX
        have TT : Hid (Dk.T B S w X) := ⟨TX.out.1, Fk.grownBy_trans HG0.out TX.out.2⟩
        have hwB : B ≤ w.heap.size := by omega
        have hwS : w.heap.size ≠ S := by omega
        have hwq : w.heap.size ≤ qc := by omega
        go_wp2_with fail
        refine bodyPost_ret (v := .agg #[.int .i64 p.1, .int .i64 lf, .int .i64 p.2.2.1, .int .i64 p.2.2.2.1, .int .i64 p.2.2.2.2]) (by simp [results, Try.results61, go_sem, z0, z1, z2, z3, z4]) rfl ⟨⟨(p.1, lf, p.2.2.1, p.2.2.2.1, p.2.2.2.2), rfl⟩, ((((((TT.out.set hwq hqB (fun e => hqS e.symm) _ _).set (Nat.le_refl _) hwB hwS _ _).set (Nat.le_refl _) hwB hwS _ _).set (Nat.le_refl _) hwB hwS _ _).set (Nat.le_refl _) hwB hwS _ _).set (Nat.le_refl _) hwB hwS _ _).1, ((((((TT.out.set hwq hqB (fun e => hqS e.symm) _ _).set (Nat.le_refl _) hwB hwS _ _).set (Nat.le_refl _) hwB hwS _ _).set (Nat.le_refl _) hwB hwS _ _).set (Nat.le_refl _) hwB hwS _ _).set (Nat.le_refl _) hwB hwS _ _).2⟩
      · skip
        go_wp2_with fail
        obtain ⟨T', hT'⟩ : ∃ T' : List Int, T' = [0, 10000, 10001] := ⟨_, rfl⟩
        have hT : ∀ i, i < 3 → (X.alloc (.cells #[.int .i64 0, .int .i64 10000, .int .i64 10001] 2)).cell? ⟨X.heap.size, i, none⟩ = some (.int .i64 (T'.getD i 0)) := by
          intro i hi
          rw [Fk.cellTop _ _ _ _ _ rfl, hT']
          match i, hi with
          | 0, _ => rfl
          | 1, _ => rfl
          | 2, _ => rfl
        have T5 : Hid (Dk.T B S W0 (X.alloc (.cells #[.int .i64 0, .int .i64 10000, .int .i64 10001] 2))) := TX.out.alloc _
        have B5 : Hid (Dk.Ev (X.alloc (.cells #[.int .i64 0, .int .i64 10000, .int .i64 10001] 2)) qc p) := BX.out.grown hqX (World.grownBy_alloc X _ none) (by simp)
        have hg5 : X.heap.size < (X.alloc (.cells #[.int .i64 0, .int .i64 10000, .int .i64 10001] 2)).heap.size := by simp
        have hS5 : S < X.heap.size := TX.out.1.lt.2
        have hq5 : qc < (X.alloc (.cells #[.int .i64 0, .int .i64 10000, .int .i64 10001] 2)).heap.size := by simp; omega
        obtain ⟨bk, hbk⟩ : ∃ bk, bk = X.heap.size := ⟨_, rfl⟩
        rw [← hbk] at hT hg5 hS5
        rw [← hbk]
        clear hT' hbk TX BX hqX p0 p1 p2 p3 p4 pf
        generalize X.alloc (.cells #[.int .i64 0, .int .i64 10000, .int .i64 10001] 2) = Y at hT T5 B5 hg5 hq5 ⊢
        refine (drawN_any B S 3 Y T5.out.1 (by omega)).mono ?_
        rintro e X2 ⟨⟨rz, rfl, rz0, rz1, _⟩, h1, h2⟩
        have rzl := rz1 (by omega)
        clear rz1
        have TY : Hid (Dk.T B S W0 X2) := T5.out.next h1 h2
        have BY : Hid (Dk.Ev X2 qc p) := B5.out.grown hq5 h2 (fun e => hqS (Option.some.inj e).symm)
        have hqY : qc < X2.heap.size := Nat.lt_of_lt_of_le hq5 h2.size
        obtain ⟨i, rfl⟩ : ∃ i : Nat, rz = i := ⟨rz.toNat, by omega⟩
        have hi7 : i < 3 := by omega
        have hc6 := Dk.T.cell (B := B) (W0 := W0) h2 hg5 (by omega) (hT i hi7)
        obtain ⟨lf, hlf⟩ : ∃ t, t = T'.getD i 0 := ⟨_, rfl⟩
        rw [← hlf] at hc6
        clear hlf hT h1 h2 hg5 hS5 T5 B5 hq5 X
        have TX := TY
        have BX := BY
        have hqX := hqY
        clear TY BY hqY
        obtain ⟨X, hX⟩ : ∃ X, X = X2 := ⟨_, rfl⟩
        rw [← hX]
        rw [← hX] at TX BX hqX hc6
        clear hX
        obtain ⟨p0, p1, p2, p3, p4, pf⟩ := BX.out
        have ZX := HZ.out.grown (by omega) TX.out.2 (fun e => by have := Option.some.inj e; omega)
        obtain ⟨z0, z1, z2, z3, z4, zf⟩ := ZX
        have TT : Hid (Dk.T B S w X) := ⟨TX.out.1, Fk.grownBy_trans HG0.out TX.out.2⟩
        have hwB : B ≤ w.heap.size := by omega
        have hwS : w.heap.size ≠ S := by omega
        have hwq : w.heap.size ≤ qc := by omega
        go_wp2_with fail
        refine bodyPost_ret (v := .agg #[.int .i64 p.1, .int .i64 p.2.1, .int .i64 p.2.2.1, .int .i64 lf, .int .i64 p.2.2.2.2]) (by simp [results, Try.results61, go_sem, z0, z1, z2, z3, z4]) rfl ⟨⟨(p.1, p.2.1, p.2.2.1, lf, p.2.2.2.2), rfl⟩, ((((((TT.out.set hwq hqB (fun e => hqS e.symm) _ _).set (Nat.le_refl _) hwB hwS _ _).set (Nat.le_refl _) hwB hwS _ _).set (Nat.le_refl _) hwB hwS _ _).set (Nat.le_refl _) hwB hwS _ _).set (Nat.le_refl _) hwB hwS _ _).1, ((((((TT.out.set hwq hqB (fun e => hqS e.symm) _ _).set (Nat.le_refl _) hwB hwS _ _).set (Nat.le_refl _) hwB hwS _ _).set (Nat.le_refl _) hwB hwS _ _).set (Nat.le_refl _) hwB hwS _ _).set (Nat.le_refl _) hwB hwS _ _).2⟩
      · skip
        go_wp2_with fail
        obtain ⟨T', hT'⟩ : ∃ T' : List Int, T' = [0, 1000, 1001] := ⟨_, rfl⟩
        have hT : ∀ i, i < 3 → (X.alloc (.cells #[.int .i64 0, .int .i64 1000, .int .i64 1001] 2)).cell? ⟨X.heap.size, i, none⟩ = some (.int .i64 (T'.getD i 0)) := by
          intro i hi
          rw [Fk.cellTop _ _ _ _ _ rfl, hT']
          match i, hi with
          | 0, _ => rfl
          | 1, _ => rfl
          | 2, _ => rfl
        have T5 : Hid (Dk.T B S W0 (X.alloc (.cells #[.int .i64 0, .int .i64 1000, .int .i64 1001] 2))) := TX.out.alloc _
        have B5 : Hid (Dk.Ev (X.alloc (.cells #[.int .i64 0, .int .i64 1000, .int .i64 1001] 2)) qc p) := BX.out.grown hqX (World.grownBy_alloc X _ none) (by simp)
        have hg5 : X.heap.size < (X.alloc (.cells #[.int .i64 0, .int .i64 1000, .int .i64 1001] 2)).heap.size := by simp
        have hS5 : S < X.heap.size := TX.out.1.lt.2
        have hq5 : qc < (X.alloc (.cells #[.int .i64 0, .int .i64 1000, .int .i64 1001] 2)).heap.size := by simp; omega
        obtain ⟨bk, hbk⟩ : ∃ bk, bk = X.heap.size := ⟨_, rfl⟩
        rw [← hbk] at hT hg5 hS5
        rw [← hbk]
        clear hT' hbk TX BX hqX p0 p1 p2 p3 p4 pf
        generalize X.alloc (.cells #[.int .i64 0, .int .i64 1000, .int .i64 1001] 2) = Y at hT T5 B5 hg5 hq5 ⊢
        refine (drawN_any B S 3 Y T5.out.1 (by omega)).mono ?_
        rintro e X2 ⟨⟨rz, rfl, rz0, rz1, _⟩, h1, h2⟩
        have rzl := rz1 (by omega)
        clear rz1
        have TY : Hid (Dk.T B S W0 X2) := T5.out.next h1 h2
        have BY : Hid (Dk.Ev X2 qc p) := B5.out.grown hq5 h2 (fun e => hqS (Option.some.inj e).symm)
        have hqY : qc < X2.heap.size := Nat.lt_of_lt_of_le hq5 h2.size
        obtain ⟨i, rfl⟩ : ∃ i : Nat, rz = i := ⟨rz.toNat, by omega⟩
        have hi7 : i < 3 := by omega
        have hc6 := Dk.T.cell (B := B) (W0 := W0) h2 hg5 (by omega) (hT i hi7)
        obtain ⟨lf, hlf⟩ : ∃ t, t = T'.getD i 0 := ⟨_, rfl⟩
        rw [← hlf] at hc6
        clear hlf hT h1 h2 hg5 hS5 T5 B5 hq5 X
        have TX := TY
        have BX := BY
        have hqX := hqY
        clear TY BY hqY
        obtain ⟨X, hX⟩ : ∃ X, X = X2 := ⟨_, rfl⟩
        rw [← hX]
        rw [← hX] at TX BX hqX hc6
        clear hX
        obtain ⟨p0, p1, p2, p3, p4, pf⟩ := BX.out
        have ZX := HZ.out.grown (by omega) TX.out.2 (fun e => by have := Option.some.inj e; omega)
        obtain ⟨z0, z1, z2, z3, z4, zf⟩ := ZX
        have TT : Hid (Dk.T B S w X) := ⟨TX.out.1, Fk.grownBy_trans HG0.out TX.out.2⟩
        have hwB : B ≤ w.heap.size := by omega
        have hwS : w.heap.size ≠ S := by omega
        have hwq : w.heap.size ≤ qc := by omega
        go_wp2_with fail
        refine bodyPost_ret (v := .agg #[.int .i64 p.1, .int .i64 p.2.1, .int .i64 p.2.2.1, .int .i64 p.2.2.2.1, .int .i64 lf]) (by simp [results, Try.results61, go_sem, z0, z1, z2, z3, z4]) rfl ⟨⟨(p.1, p.2.1, p.2.2.1, p.2.2.2.1, lf), rfl⟩, ((((((TT.out.set hwq hqB (fun e => hqS e.symm) _ _).set (Nat.le_refl _) hwB hwS _ _).set (Nat.le_refl _) hwB hwS _ _).set (Nat.le_refl _) hwB hwS _ _).set (Nat.le_refl _) hwB hwS _ _).set (Nat.le_refl _) hwB hwS _ _).1, ((((((TT.out.set hwq hqB (fun e => hqS e.symm) _ _).set (Nat.le_refl _) hwB hwS _ _).set (Nat.le_refl _) hwB hwS _ _).set (Nat.le_refl _) hwB hwS _ _).set (Nat.le_refl _) hwB hwS _ _).set (Nat.le_refl _) hwB hwS _ _).2⟩
end Go.Proofs.Ytficlppngnnpoaa
