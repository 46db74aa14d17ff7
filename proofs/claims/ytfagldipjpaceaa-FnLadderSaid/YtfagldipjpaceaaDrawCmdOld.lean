/- The walk of the drawn old command. -/
import Derived.Test.YtfagldipjpaceaaJoined1
import Derived.Deep.RegionHeld3
namespace Go.Proofs.Ytfagldipjpaceaa
open Go.RowKit
set_option linter.unusedVariables false
set_option linter.unusedSimpArgs false
/-- ten stores into one box of ten cells -/
def Dk.tenSet (w : World) (q : Nat) (u0 u1 u2 u3 u4 u5 u6 u7 u8 u9 : Value) : World := ((((((((((w.setCell ⟨q, 0, none⟩ u0).setCell ⟨q, 1, none⟩ u1).setCell ⟨q, 2, none⟩ u2).setCell ⟨q, 3, none⟩ u3).setCell ⟨q, 4, none⟩ u4).setCell ⟨q, 5, none⟩ u5).setCell ⟨q, 6, none⟩ u6).setCell ⟨q, 7, none⟩ u7).setCell ⟨q, 8, none⟩ u8).setCell ⟨q, 9, none⟩ u9)
theorem Dk.T.ten {B S : Nat} {W0 w : World} (h : Dk.T B S W0 w) {q : Nat} (hq : W0.heap.size ≤ q ∧ B ≤ q ∧ S < q) (u0 u1 u2 u3 u4 u5 u6 u7 u8 u9 : Value) : Dk.T B S W0 (Dk.tenSet w q u0 u1 u2 u3 u4 u5 u6 u7 u8 u9) := by
  obtain ⟨h1, h2, h3⟩ := hq
  have hne : q ≠ S := by omega
  exact ((((((((((h.set h1 h2 hne _ _).set h1 h2 hne _ _).set h1 h2 hne _ _).set h1 h2 hne _ _).set h1 h2 hne _ _).set h1 h2 hne _ _).set h1 h2 hne _ _).set h1 h2 hne _ _).set h1 h2 hne _ _).set h1 h2 hne _ _)
theorem Dk.ten_cells {w : World} {q : Nat} (u0 u1 u2 u3 u4 u5 u6 u7 u8 u9 : Value) (h : ∀ j, j < 10 → (w.cell? ⟨q, j, none⟩).isSome = true) :
    (Dk.tenSet w q u0 u1 u2 u3 u4 u5 u6 u7 u8 u9).cell? ⟨q, 0, none⟩ = some u0 ∧ (Dk.tenSet w q u0 u1 u2 u3 u4 u5 u6 u7 u8 u9).cell? ⟨q, 1, none⟩ = some u1 ∧ (Dk.tenSet w q u0 u1 u2 u3 u4 u5 u6 u7 u8 u9).cell? ⟨q, 2, none⟩ = some u2 ∧ (Dk.tenSet w q u0 u1 u2 u3 u4 u5 u6 u7 u8 u9).cell? ⟨q, 3, none⟩ = some u3 ∧ (Dk.tenSet w q u0 u1 u2 u3 u4 u5 u6 u7 u8 u9).cell? ⟨q, 4, none⟩ = some u4 ∧ (Dk.tenSet w q u0 u1 u2 u3 u4 u5 u6 u7 u8 u9).cell? ⟨q, 5, none⟩ = some u5 ∧ (Dk.tenSet w q u0 u1 u2 u3 u4 u5 u6 u7 u8 u9).cell? ⟨q, 6, none⟩ = some u6 ∧ (Dk.tenSet w q u0 u1 u2 u3 u4 u5 u6 u7 u8 u9).cell? ⟨q, 7, none⟩ = some u7 ∧ (Dk.tenSet w q u0 u1 u2 u3 u4 u5 u6 u7 u8 u9).cell? ⟨q, 8, none⟩ = some u8 ∧ (Dk.tenSet w q u0 u1 u2 u3 u4 u5 u6 u7 u8 u9).cell? ⟨q, 9, none⟩ = some u9 := by
  have h0 := h 0 (by omega); have h1 := h 1 (by omega); have h2 := h 2 (by omega); have h3 := h 3 (by omega); have h4 := h 4 (by omega); have h5 := h 5 (by omega); have h6 := h 6 (by omega); have h7 := h 7 (by omega); have h8 := h 8 (by omega); have h9 := h 9 (by omega)
  unfold Dk.tenSet
  refine ⟨?_, ?_, ?_, ?_, ?_, ?_, ?_, ?_, ?_, ?_⟩ <;> simp [go_sem, h0, h1, h2, h3, h4, h5, h6, h7, h8, h9]
theorem Dk.ten_frozen {w : World} {q : Nat} (u0 u1 u2 u3 u4 u5 u6 u7 u8 u9 : Value) (a : Addr) : (Dk.tenSet w q u0 u1 u2 u3 u4 u5 u6 u7 u8 u9).frozen? a = w.frozen? a := by
  unfold Dk.tenSet; simp [go_sem]
/-- the seven lives that are drawn from -/
def Dk.lives : List Int := [0, 0, 0, 1, 1, 2, 3]
set_option maxRecDepth 100000 in
set_option maxHeartbeats 8000000 in
theorem drawOldCmd_any (B S : Nat) (w : World) (hs : Dk.Src B w S) :
    Calls Try.prog 33 #[.pointer (some ⟨S, 0, none⟩)] w fun e w' => (∃ c : Cm.C, e = .returned (.agg #[.int .i64 c.kind, .int .i64 c.owner, .int .i64 c.id, .bool c.buy, .int .i64 c.price, .int .i64 c.amount, .int .i64 c.life, .bool c.post, .int .i64 c.peak, .bool c.guard])) ∧ Dk.Src B w' S ∧ w.grownBy w' (some S) := by
  obtain ⟨hBS, hSw⟩ := hs.lt
  obtain ⟨W0, hW⟩ : ∃ W, W = w.alloc (.cells #[.int .i64 0, .int .i64 0, .int .i64 0, .bool false, .int .i64 0, .int .i64 0, .int .i64 0, .bool false, .int .i64 0, .bool false] 27) := ⟨_, rfl⟩
  have bA : Below w.heap.size w W0 := by rw [hW]; exact (Below.refl _ _).alloc (Nat.le_refl _) _
  have hz0 : W0.heap.size = w.heap.size + 1 := by rw [hW]; simp
  have HZ0 : Hid (W0.cell? ⟨w.heap.size, 0, none⟩ = some (.int .i64 0)) := by show _ = _; rw [hW, Fk.cellTop _ _ _ _ _ rfl]; rfl
  have HZ1 : Hid (W0.cell? ⟨w.heap.size, 1, none⟩ = some (.int .i64 0)) := by show _ = _; rw [hW, Fk.cellTop _ _ _ _ _ rfl]; rfl
  have HZ2 : Hid (W0.cell? ⟨w.heap.size, 2, none⟩ = some (.int .i64 0)) := by show _ = _; rw [hW, Fk.cellTop _ _ _ _ _ rfl]; rfl
  have HZ3 : Hid (W0.cell? ⟨w.heap.size, 3, none⟩ = some (.bool false)) := by show _ = _; rw [hW, Fk.cellTop _ _ _ _ _ rfl]; rfl
  have HZ4 : Hid (W0.cell? ⟨w.heap.size, 4, none⟩ = some (.int .i64 0)) := by show _ = _; rw [hW, Fk.cellTop _ _ _ _ _ rfl]; rfl
  have HZ5 : Hid (W0.cell? ⟨w.heap.size, 5, none⟩ = some (.int .i64 0)) := by show _ = _; rw [hW, Fk.cellTop _ _ _ _ _ rfl]; rfl
  have HZ6 : Hid (W0.cell? ⟨w.heap.size, 6, none⟩ = some (.int .i64 0)) := by show _ = _; rw [hW, Fk.cellTop _ _ _ _ _ rfl]; rfl
  have HZ7 : Hid (W0.cell? ⟨w.heap.size, 7, none⟩ = some (.bool false)) := by show _ = _; rw [hW, Fk.cellTop _ _ _ _ _ rfl]; rfl
  have HZ8 : Hid (W0.cell? ⟨w.heap.size, 8, none⟩ = some (.int .i64 0)) := by show _ = _; rw [hW, Fk.cellTop _ _ _ _ _ rfl]; rfl
  have HZ9 : Hid (W0.cell? ⟨w.heap.size, 9, none⟩ = some (.bool false)) := by show _ = _; rw [hW, Fk.cellTop _ _ _ _ _ rfl]; rfl
  have HZF : Hid (∀ j, W0.frozen? ⟨w.heap.size, j, none⟩ = false) := fun j => by rw [hW, Fk.frozTop _ _ _ _ _ rfl]
  have T0 : Hid (Dk.T B S W0 W0) := ⟨hs.below bA, World.grownBy.refl _ _⟩
  have HG0 := Fk.hide (Fk.grownBy_below (some S) bA)
  have HW := Fk.hide hW
  clear hW bA hs
  go_enter Try.func33, Try.ntmps33
  go_wp2_with fail
  rw [← HW.out]
  refine (drawN_any B S 3 W0 T0.out.1 (by omega)).mono ?_
  rintro e w1 ⟨⟨ra, rfl, ra0, ra1, _⟩, h1, h2⟩
  have ral := ra1 (by omega)
  clear ra1
  have T1 : Hid (Dk.T B S W0 w1) := T0.out.next h1 h2
  clear h1 h2
  go_wp2_with fail
  refine (drawOne_any B S 2 w1 T1.out.1 (by omega)).mono ?_
  rintro e w2 ⟨⟨rb, rfl⟩, h1, h2⟩
  have T2 : Hid (Dk.T B S W0 w2) := T1.out.next h1 h2
  clear h1 h2
  go_wp2_with fail
  refine (drawN_any B S 5 w2 T2.out.1 (by omega)).mono ?_
  rintro e w3 ⟨⟨rc, rfl, rc0, rc1, _⟩, h1, h2⟩
  have rcl := rc1 (by omega)
  clear rc1
  have T3 : Hid (Dk.T B S W0 w3) := T2.out.next h1 h2
  clear h1 h2
  go_wp2_with fail
  refine (drawN_any B S 9 w3 T3.out.1 (by omega)).mono ?_
  rintro e w4 ⟨⟨rd, rfl, rd0, rd1, _⟩, h1, h2⟩
  have rdl := rd1 (by omega)
  clear rd1
  have T4 : Hid (Dk.T B S W0 w4) := T3.out.next h1 h2
  clear h1 h2
  go_wp2_with fail
  obtain ⟨W5, hW5⟩ : ∃ W, W = (w4.alloc (.cells (Dk.lives.map (Value.int .i64)).toArray 2)) := ⟨_, rfl⟩
  have hg5 : w4.heap.size < W5.heap.size := by rw [hW5]; simp
  have hT : ∀ i, i < 7 → W5.cell? ⟨w4.heap.size, i, none⟩ = some (.int .i64 (Dk.lives.getD i 0)) := by
    intro i hi
    rw [hW5, Fk.cellTop _ _ _ _ _ rfl]
    match i, hi with
    | 0, _ => rfl
    | 1, _ => rfl
    | 2, _ => rfl
    | 3, _ => rfl
    | 4, _ => rfl
    | 5, _ => rfl
    | 6, _ => rfl
  have T5 : Hid (Dk.T B S W0 W5) := by show Dk.T _ _ _ _; rw [hW5]; exact T4.out.alloc _
  have hS4 : S < w4.heap.size := T4.out.1.lt.2
  change Calls _ _ _ (w4.alloc (.cells (Dk.lives.map (Value.int .i64)).toArray 2)) _
  rw [← hW5]
  clear hW5
  refine (drawN_any B S 7 W5 T5.out.1 (by omega)).mono ?_
  rintro e w6 ⟨⟨re, rfl, re0, re1, _⟩, h1, h2⟩
  have rel := re1 (by omega)
  clear re1
  have T6 : Hid (Dk.T B S W0 w6) := T5.out.next h1 h2
  obtain ⟨i, rfl⟩ : ∃ i : Nat, re = i := ⟨re.toNat, by omega⟩
  have hi7 : i < 7 := by omega
  have hc6 := Dk.T.cell (B := B) (W0 := W0) h2 hg5 (by omega) (hT i hi7)
  obtain ⟨lf, hlf⟩ : ∃ t, t = Dk.lives.getD i 0 := ⟨_, rfl⟩
  rw [← hlf] at hc6
  clear hlf hT h1 h2 hg5 hS4
  have HQ6 : Hid (W0.heap.size ≤ w6.heap.size ∧ B ≤ w6.heap.size ∧ S < w6.heap.size) := ⟨T6.out.2.size, by have := T6.out.1.lt; omega, T6.out.1.lt.2⟩
  go_wp2_with fail
  obtain ⟨W7, hW7⟩ : ∃ W, W = w6.alloc (.cells #[.int .i64 1, .int .i64 (1 + ra), .int .i64 0, .bool rb, .int .i64 (98 + rc), .int .i64 (1 + rd), .int .i64 lf, .bool false, .int .i64 0, .bool false] 27) := ⟨_, rfl⟩
  rw [← hW7]
  have k0 : W7.cell? ⟨w6.heap.size, 0, none⟩ = some (.int .i64 1) := by rw [hW7, Fk.cellTop _ _ _ _ _ rfl]; rfl
  have k1 : W7.cell? ⟨w6.heap.size, 1, none⟩ = some (.int .i64 (1 + ra)) := by rw [hW7, Fk.cellTop _ _ _ _ _ rfl]; rfl
  have k2 : W7.cell? ⟨w6.heap.size, 2, none⟩ = some (.int .i64 0) := by rw [hW7, Fk.cellTop _ _ _ _ _ rfl]; rfl
  have k3 : W7.cell? ⟨w6.heap.size, 3, none⟩ = some (.bool rb) := by rw [hW7, Fk.cellTop _ _ _ _ _ rfl]; rfl
  have k4 : W7.cell? ⟨w6.heap.size, 4, none⟩ = some (.int .i64 (98 + rc)) := by rw [hW7, Fk.cellTop _ _ _ _ _ rfl]; rfl
  have k5 : W7.cell? ⟨w6.heap.size, 5, none⟩ = some (.int .i64 (1 + rd)) := by rw [hW7, Fk.cellTop _ _ _ _ _ rfl]; rfl
  have k6 : W7.cell? ⟨w6.heap.size, 6, none⟩ = some (.int .i64 lf) := by rw [hW7, Fk.cellTop _ _ _ _ _ rfl]; rfl
  have k7 : W7.cell? ⟨w6.heap.size, 7, none⟩ = some (.bool false) := by rw [hW7, Fk.cellTop _ _ _ _ _ rfl]; rfl
  have k8 : W7.cell? ⟨w6.heap.size, 8, none⟩ = some (.int .i64 0) := by rw [hW7, Fk.cellTop _ _ _ _ _ rfl]; rfl
  have k9 : W7.cell? ⟨w6.heap.size, 9, none⟩ = some (.bool false) := by rw [hW7, Fk.cellTop _ _ _ _ _ rfl]; rfl
  have kf : ∀ j, W7.frozen? ⟨w6.heap.size, j, none⟩ = false := fun j => by rw [hW7, Fk.frozTop _ _ _ _ _ rfl]
  have hg7 : w6.heap.size < W7.heap.size := by rw [hW7]; simp
  have T7 : Hid (Dk.T B S W0 W7) := by show Dk.T _ _ _ _; rw [hW7]; exact T6.out.alloc _
  clear hW7
  obtain ⟨qc, hqc⟩ : ∃ q, q = w6.heap.size := ⟨_, rfl⟩
  rw [← hqc]
  rw [← hqc] at kf hg7 HQ6 k0 k1 k2 k3 k4 k5 k6 k7 k8 k9
  clear hqc hc6
  refine (drawN_any B S 9 W7 T7.out.1 (by omega)).mono ?_
  rintro e w8 ⟨⟨rg, rfl, rg0, rg1, _⟩, h1, h2⟩
  have rgl := rg1 (by omega)
  clear rg1
  have T8 : Hid (Dk.T B S W0 w8) := T7.out.next h1 h2
  have hne : qc ≠ S := by have := HQ6.out; omega
  have m0 := Dk.T.cell (B := B) (W0 := W0) h2 hg7 hne k0
  have m1 := Dk.T.cell (B := B) (W0 := W0) h2 hg7 hne k1
  have m2 := Dk.T.cell (B := B) (W0 := W0) h2 hg7 hne k2
  have m3 := Dk.T.cell (B := B) (W0 := W0) h2 hg7 hne k3
  have m4 := Dk.T.cell (B := B) (W0 := W0) h2 hg7 hne k4
  have m5 := Dk.T.cell (B := B) (W0 := W0) h2 hg7 hne k5
  have m6 := Dk.T.cell (B := B) (W0 := W0) h2 hg7 hne k6
  have m7 := Dk.T.cell (B := B) (W0 := W0) h2 hg7 hne k7
  have m8 := Dk.T.cell (B := B) (W0 := W0) h2 hg7 hne k8
  have m9 := Dk.T.cell (B := B) (W0 := W0) h2 hg7 hne k9
  have mf : ∀ j, w8.frozen? ⟨qc, j, none⟩ = false := fun j => (World.frozen?_of_block (a := ⟨qc, j, none⟩) (h2.block qc hg7 (fun e => hne (Option.some.inj e)))).trans (kf j)
  have hg8 : qc < w8.heap.size := Nat.lt_of_lt_of_le hg7 h2.size
  clear h1 h2 kf hg7 k0 k1 k2 k3 k4 k5 k6 k7 k8 k9
  have HQ8 : Hid (qc ≠ w.heap.size ∧ w.heap.size ≠ qc ∧ w.heap.size ≤ qc) := by show _ ∧ _; have := HQ6.out; omega
  by_cases c4 : rg = 0 ∨ rg = 1 ∨ rg = 2 ∨ rg = 3
  · rcases c4 with rfl | rfl | rfl | rfl
    · have hqa := HQ8.out.1
      have hqb := HQ8.out.2.1
      have z0 := Dk.T.cell (B := B) (W0 := W0) T8.out.2 (by omega) (by omega) HZ0.out
      have z1 := Dk.T.cell (B := B) (W0 := W0) T8.out.2 (by omega) (by omega) HZ1.out
      have z2 := Dk.T.cell (B := B) (W0 := W0) T8.out.2 (by omega) (by omega) HZ2.out
      have z3 := Dk.T.cell (B := B) (W0 := W0) T8.out.2 (by omega) (by omega) HZ3.out
      have z4 := Dk.T.cell (B := B) (W0 := W0) T8.out.2 (by omega) (by omega) HZ4.out
      have z5 := Dk.T.cell (B := B) (W0 := W0) T8.out.2 (by omega) (by omega) HZ5.out
      have z6 := Dk.T.cell (B := B) (W0 := W0) T8.out.2 (by omega) (by omega) HZ6.out
      have z7 := Dk.T.cell (B := B) (W0 := W0) T8.out.2 (by omega) (by omega) HZ7.out
      have z8 := Dk.T.cell (B := B) (W0 := W0) T8.out.2 (by omega) (by omega) HZ8.out
      have z9 := Dk.T.cell (B := B) (W0 := W0) T8.out.2 (by omega) (by omega) HZ9.out
      have zf : ∀ j, w8.frozen? ⟨w.heap.size, j, none⟩ = false := fun j => (World.frozen?_of_block (a := ⟨w.heap.size, j, none⟩) (T8.out.2.block w.heap.size (by omega) (fun e => by have := Option.some.inj e; omega))).trans (HZF.out j)
      go_wp2_with fail
      refine bodyPost_ret (v := .agg #[.int .i64 2, .int .i64 (1 + ra), .int .i64 0, .bool rb, .int .i64 0, .int .i64 (1 + rd), .int .i64 0, .bool false, .int .i64 0, .bool false]) (by simp [results, Try.results33, go_sem, z0, z1, z2, z3, z4, z5, z6, z7, z8, z9] <;> rfl) rfl ⟨⟨⟨_, _, _, _, _, _, _, _, _, _⟩, rfl⟩, ?_⟩
      have TT : Dk.T B S w w8 := ⟨T8.out.1, Fk.grownBy_trans HG0.out T8.out.2⟩
      have hqq := HQ8.out.2.2
      have hqB := HQ6.out.2.1
      have hBw : B ≤ w.heap.size := by omega
      have hSW : w.heap.size ≠ S := by omega
      exact ((((((((((((((((((((TT.set hqq hqB hne _ _).set hqq hqB hne _ _).set hqq hqB hne _ _).set hqq hqB hne _ _).set hqq hqB hne _ _).set hqq hqB hne _ _).set hqq hqB hne _ _).set hqq hqB hne _ _).set hqq hqB hne _ _).set hqq hqB hne _ _).set (Nat.le_refl _) hBw hSW _ _).set (Nat.le_refl _) hBw hSW _ _).set (Nat.le_refl _) hBw hSW _ _).set (Nat.le_refl _) hBw hSW _ _).set (Nat.le_refl _) hBw hSW _ _).set (Nat.le_refl _) hBw hSW _ _).set (Nat.le_refl _) hBw hSW _ _).set (Nat.le_refl _) hBw hSW _ _).set (Nat.le_refl _) hBw hSW _ _).set (Nat.le_refl _) hBw hSW _ _)
    · go_wp2_with fail
      refine wp_region_held_drew (S := (fun w' => w'.cell? ⟨qc, 1, none⟩ = some (.int .i64 (1 + ra)) ∧ Hid (Dk.T B S W0 w'))) (by kernel_rfl) ?_ (fun hH => ?_)
      · (try dsimp only); exact ⟨m1, T8.out.drew⟩
      obtain ⟨X0, hX0⟩ : ∃ X, X = w8.drew := ⟨_, rfl⟩
      rw [← hX0] at hH ⊢
      have bX : Below w8.heap.size w8 X0 := by rw [hX0]; exact Below.drew (Below.refl _ _)
      have m0 := (bX.cell (p := ⟨qc, 0, none⟩) hg8).trans m0
      have m1 := (bX.cell (p := ⟨qc, 1, none⟩) hg8).trans m1
      have m2 := (bX.cell (p := ⟨qc, 2, none⟩) hg8).trans m2
      have m3 := (bX.cell (p := ⟨qc, 3, none⟩) hg8).trans m3
      have m4 := (bX.cell (p := ⟨qc, 4, none⟩) hg8).trans m4
      have m5 := (bX.cell (p := ⟨qc, 5, none⟩) hg8).trans m5
      have m6 := (bX.cell (p := ⟨qc, 6, none⟩) hg8).trans m6
      have m7 := (bX.cell (p := ⟨qc, 7, none⟩) hg8).trans m7
      have m8 := (bX.cell (p := ⟨qc, 8, none⟩) hg8).trans m8
      have m9 := (bX.cell (p := ⟨qc, 9, none⟩) hg8).trans m9
      have mf : ∀ j, X0.frozen? ⟨qc, j, none⟩ = false := fun j => (bX.frozen (p := ⟨qc, j, none⟩) hg8).trans (mf j)
      have hg8 : qc < X0.heap.size := Nat.lt_of_lt_of_le hg8 bX.size
      clear hX0 bX
      refine wpAnyH_take (i := 0) (oi := ?_) (v := ?_) ?_ (by kernel_rfl) (by kernel_rfl) (by kernel_rfl) ?_ ?_ (by assumption) ?_
      rotate_left
      rotate_left
      · (simp only [List.getElem?_toArray, List.getElem?_cons_succ, List.getElem?_cons_zero]; rfl)
      · exact fun _ _ _ h => h
      · refine Or.inl ⟨by rfl, ?_⟩; (intro w hSw; (try dsimp only at hSw); go_simp; first | done | with_reducible rfl)
      (try simp only [Act.put, List.setIfInBounds_toArray, List.set_cons_zero, List.set_cons_succ])
      refine wpAnyH_take (i := 1) (oi := ?_) (v := ?_) ?_ (by kernel_rfl) (by kernel_rfl) (by kernel_rfl) ?_ ?_ (by assumption) ?_
      rotate_left
      rotate_left
      · (simp only [List.getElem?_toArray, List.getElem?_cons_succ, List.getElem?_cons_zero]; rfl)
      · exact fun _ _ _ h => h
      · refine Or.inl ⟨by rfl, ?_⟩; (intro w hSw; (try dsimp only at hSw); go_simp; first | done | with_reducible rfl)
      (try simp only [Act.put, List.setIfInBounds_toArray, List.set_cons_zero, List.set_cons_succ])
      refine wpAnyH_take (i := 2) (oi := ?_) (v := ?_) ?_ (by kernel_rfl) (by kernel_rfl) (by kernel_rfl) ?_ ?_ (by assumption) ?_
      rotate_left
      rotate_left
      · (simp only [List.getElem?_toArray, List.getElem?_cons_succ, List.getElem?_cons_zero]; rfl)
      · exact fun _ _ _ h => h
      · refine Or.inl ⟨by rfl, ?_⟩; (intro w hSw; (try dsimp only at hSw); go_simp; first | done | with_reducible rfl)
      (try simp only [Act.put, List.setIfInBounds_toArray, List.set_cons_zero, List.set_cons_succ])
      refine wpAnyH_ready (rs := [3]) (by kernel_rfl) (by simp) ?_
      refine AllReadyH.cons (o := ?_) ?_ (fun K hK => ?_) AllReadyH.nil
      rotate_left
      · (simp only [List.getElem?_toArray, List.getElem?_cons_succ, List.getElem?_cons_zero]; rfl)
      go_simp
      go_at_call 39; refine (drawN_any B S 6 X0 (show Hid _ from hH.2).out.1 (by omega)).mono ?_; rintro e w9 ⟨⟨rh, rfl, rh0, rh1, _⟩, s9, g9⟩; have rhl := rh1 (by omega); clear rh1; have T9 : Hid (Dk.T B S W0 w9) := (show Hid _ from hH.2).out.next s9 g9; have c0 := Dk.T.cell (B := B) (W0 := W0) g9 hg8 hne m0; have c1 := Dk.T.cell (B := B) (W0 := W0) g9 hg8 hne m1; have c2 := Dk.T.cell (B := B) (W0 := W0) g9 hg8 hne m2; have c3 := Dk.T.cell (B := B) (W0 := W0) g9 hg8 hne m3; have c4 := Dk.T.cell (B := B) (W0 := W0) g9 hg8 hne m4; have c5 := Dk.T.cell (B := B) (W0 := W0) g9 hg8 hne m5; have c6 := Dk.T.cell (B := B) (W0 := W0) g9 hg8 hne m6; have c7 := Dk.T.cell (B := B) (W0 := W0) g9 hg8 hne m7; have c8 := Dk.T.cell (B := B) (W0 := W0) g9 hg8 hne m8; have c9 := Dk.T.cell (B := B) (W0 := W0) g9 hg8 hne m9; have cf : ∀ j, w9.frozen? ⟨qc, j, none⟩ = false := fun j => (World.frozen?_of_block (a := ⟨qc, j, none⟩) (g9.block qc hg8 (fun e => hne (Option.some.inj e)))).trans (mf j); clear s9 g9 hg8 mf m0 m1 m2 m3 m4 m5 m6 m7 m8 m9; have hwr : IntKind.i64.wrap (1 + rh) = 1 + rh := by rw [IntKind.wrap_i64]; omega
      (try go_wp2_with fail)
      refine hK.out _ _ ?_ (fun hH2 => ?_)
      · (try dsimp only); exact ⟨c1, T9⟩
      clear hK K hH
      have hH := hH2
      clear hH2
      (try simp only [Act.put, List.setIfInBounds_toArray, List.set_cons_zero, List.set_cons_succ])
      refine wpAnyH_take (i := 4) (oi := ?_) (v := ?_) ?_ (by kernel_rfl) (by kernel_rfl) (by kernel_rfl) ?_ ?_ (by assumption) ?_
      rotate_left
      rotate_left
      · (simp only [List.getElem?_toArray, List.getElem?_cons_succ, List.getElem?_cons_zero]; rfl)
      · exact fun _ _ _ h => h
      · refine Or.inl ⟨by rfl, ?_⟩; (intro w hSw; (try dsimp only at hSw); go_simp; first | done | with_reducible rfl)
      (try simp only [Act.put, List.setIfInBounds_toArray, List.set_cons_zero, List.set_cons_succ])
      refine wpAnyH_take (i := 5) (oi := ?_) (v := ?_) ?_ (by kernel_rfl) (by kernel_rfl) (by kernel_rfl) ?_ ?_ (by assumption) ?_
      rotate_left
      rotate_left
      · (simp only [List.getElem?_toArray, List.getElem?_cons_succ, List.getElem?_cons_zero]; rfl)
      · exact fun _ _ _ h => h
      · refine Or.inl ⟨by rfl, ?_⟩; (intro w hSw; (try dsimp only at hSw); go_simp; first | done | with_reducible rfl)
      (try simp only [Act.put, List.setIfInBounds_toArray, List.set_cons_zero, List.set_cons_succ])
      have HX : Hid ((Dk.tenSet w9 qc (.int .i64 3) (.int .i64 (1 + ra)) (.int .i64 (1 + rh)) (.bool false) (.int .i64 0) (.int .i64 0) (.int .i64 0) (.bool false) (.int .i64 0) (.bool false)).cell? ⟨qc, 0, none⟩ = some (.int .i64 3) ∧ (Dk.tenSet w9 qc (.int .i64 3) (.int .i64 (1 + ra)) (.int .i64 (1 + rh)) (.bool false) (.int .i64 0) (.int .i64 0) (.int .i64 0) (.bool false) (.int .i64 0) (.bool false)).cell? ⟨qc, 1, none⟩ = some (.int .i64 (1 + ra)) ∧ (Dk.tenSet w9 qc (.int .i64 3) (.int .i64 (1 + ra)) (.int .i64 (1 + rh)) (.bool false) (.int .i64 0) (.int .i64 0) (.int .i64 0) (.bool false) (.int .i64 0) (.bool false)).cell? ⟨qc, 2, none⟩ = some (.int .i64 (1 + rh)) ∧ (Dk.tenSet w9 qc (.int .i64 3) (.int .i64 (1 + ra)) (.int .i64 (1 + rh)) (.bool false) (.int .i64 0) (.int .i64 0) (.int .i64 0) (.bool false) (.int .i64 0) (.bool false)).cell? ⟨qc, 3, none⟩ = some (.bool false) ∧ (Dk.tenSet w9 qc (.int .i64 3) (.int .i64 (1 + ra)) (.int .i64 (1 + rh)) (.bool false) (.int .i64 0) (.int .i64 0) (.int .i64 0) (.bool false) (.int .i64 0) (.bool false)).cell? ⟨qc, 4, none⟩ = some (.int .i64 0) ∧ (Dk.tenSet w9 qc (.int .i64 3) (.int .i64 (1 + ra)) (.int .i64 (1 + rh)) (.bool false) (.int .i64 0) (.int .i64 0) (.int .i64 0) (.bool false) (.int .i64 0) (.bool false)).cell? ⟨qc, 5, none⟩ = some (.int .i64 0) ∧ (Dk.tenSet w9 qc (.int .i64 3) (.int .i64 (1 + ra)) (.int .i64 (1 + rh)) (.bool false) (.int .i64 0) (.int .i64 0) (.int .i64 0) (.bool false) (.int .i64 0) (.bool false)).cell? ⟨qc, 6, none⟩ = some (.int .i64 0) ∧ (Dk.tenSet w9 qc (.int .i64 3) (.int .i64 (1 + ra)) (.int .i64 (1 + rh)) (.bool false) (.int .i64 0) (.int .i64 0) (.int .i64 0) (.bool false) (.int .i64 0) (.bool false)).cell? ⟨qc, 7, none⟩ = some (.bool false) ∧ (Dk.tenSet w9 qc (.int .i64 3) (.int .i64 (1 + ra)) (.int .i64 (1 + rh)) (.bool false) (.int .i64 0) (.int .i64 0) (.int .i64 0) (.bool false) (.int .i64 0) (.bool false)).cell? ⟨qc, 8, none⟩ = some (.int .i64 0) ∧ (Dk.tenSet w9 qc (.int .i64 3) (.int .i64 (1 + ra)) (.int .i64 (1 + rh)) (.bool false) (.int .i64 0) (.int .i64 0) (.int .i64 0) (.bool false) (.int .i64 0) (.bool false)).cell? ⟨qc, 9, none⟩ = some (.bool false)) := Dk.ten_cells (.int .i64 3) (.int .i64 (1 + ra)) (.int .i64 (1 + rh)) (.bool false) (.int .i64 0) (.int .i64 0) (.int .i64 0) (.bool false) (.int .i64 0) (.bool false) (fun j hj => by match j, hj with | 0, _ => rw [c0]; rfl | 1, _ => rw [c1]; rfl | 2, _ => rw [c2]; rfl | 3, _ => rw [c3]; rfl | 4, _ => rw [c4]; rfl | 5, _ => rw [c5]; rfl | 6, _ => rw [c6]; rfl | 7, _ => rw [c7]; rfl | 8, _ => rw [c8]; rfl | 9, _ => rw [c9]; rfl)
      have TX : Hid (Dk.T B S W0 (Dk.tenSet w9 qc (.int .i64 3) (.int .i64 (1 + ra)) (.int .i64 (1 + rh)) (.bool false) (.int .i64 0) (.int .i64 0) (.int .i64 0) (.bool false) (.int .i64 0) (.bool false))) := T9.out.ten HQ6.out _ _ _ _ _ _ _ _ _ _
      refine wpAnyH_ready (rs := [6]) (by kernel_rfl) (by simp) ?_
      refine AllReadyH.cons (o := ?_) ?_ (fun K hK => ?_) AllReadyH.nil
      rotate_left
      · (simp only [List.getElem?_toArray, List.getElem?_cons_succ, List.getElem?_cons_zero]; rfl)
      go_simp
      skip
      (try go_wp2_with fail)
      refine hK.out _ _ ?_ (fun hH2 => ?_)
      · (try dsimp only); exact ⟨HX.out.2.1, TX⟩
      clear hK K hH
      have hH := hH2
      clear hH2
      (try simp only [Act.put, List.setIfInBounds_toArray, List.set_cons_zero, List.set_cons_succ])
      refine wpAnyH_done (by kernel_rfl) ?_ _
      obtain ⟨X9, hX9⟩ : ∃ X, X = Dk.tenSet w9 qc (.int .i64 3) (.int .i64 (1 + ra)) (.int .i64 (1 + rh)) (.bool false) (.int .i64 0) (.int .i64 0) (.int .i64 0) (.bool false) (.int .i64 0) (.bool false) := ⟨_, rfl⟩
      rw [← hX9] at HX TX
      have kf : ∀ j, X9.frozen? ⟨qc, j, none⟩ = false := fun j => by rw [hX9, Dk.ten_frozen]; exact cf j
      unfold Dk.tenSet at hX9
      rw [← hX9]
      clear hX9 hH cf c0 c1 c2 c3 c4 c5 c6 c7 c8 c9
      have k0 := HX.out.1
      have k1 := HX.out.2.1
      have k2 := HX.out.2.2.1
      have k3 := HX.out.2.2.2.1
      have k4 := HX.out.2.2.2.2.1
      have k5 := HX.out.2.2.2.2.2.1
      have k6 := HX.out.2.2.2.2.2.2.1
      have k7 := HX.out.2.2.2.2.2.2.2.1
      have k8 := HX.out.2.2.2.2.2.2.2.2.1
      have k9 := HX.out.2.2.2.2.2.2.2.2.2
      clear HX
      have hqa := HQ8.out.1
      have hqb := HQ8.out.2.1
      have z0 := Dk.T.cell (B := B) (W0 := W0) TX.out.2 (by omega) (by omega) HZ0.out
      have z1 := Dk.T.cell (B := B) (W0 := W0) TX.out.2 (by omega) (by omega) HZ1.out
      have z2 := Dk.T.cell (B := B) (W0 := W0) TX.out.2 (by omega) (by omega) HZ2.out
      have z3 := Dk.T.cell (B := B) (W0 := W0) TX.out.2 (by omega) (by omega) HZ3.out
      have z4 := Dk.T.cell (B := B) (W0 := W0) TX.out.2 (by omega) (by omega) HZ4.out
      have z5 := Dk.T.cell (B := B) (W0 := W0) TX.out.2 (by omega) (by omega) HZ5.out
      have z6 := Dk.T.cell (B := B) (W0 := W0) TX.out.2 (by omega) (by omega) HZ6.out
      have z7 := Dk.T.cell (B := B) (W0 := W0) TX.out.2 (by omega) (by omega) HZ7.out
      have z8 := Dk.T.cell (B := B) (W0 := W0) TX.out.2 (by omega) (by omega) HZ8.out
      have z9 := Dk.T.cell (B := B) (W0 := W0) TX.out.2 (by omega) (by omega) HZ9.out
      have zf : ∀ j, X9.frozen? ⟨w.heap.size, j, none⟩ = false := fun j => (World.frozen?_of_block (a := ⟨w.heap.size, j, none⟩) (TX.out.2.block w.heap.size (by omega) (fun e => by have := Option.some.inj e; omega))).trans (HZF.out j)
      go_wp2_with fail
      refine bodyPost_ret (v := .agg #[.int .i64 3, .int .i64 (1 + ra), .int .i64 (1 + rh), .bool false, .int .i64 0, .int .i64 0, .int .i64 0, .bool false, .int .i64 0, .bool false]) (by simp [results, Try.results33, go_sem, z0, z1, z2, z3, z4, z5, z6, z7, z8, z9] <;> rfl) rfl ⟨⟨⟨_, _, _, _, _, _, _, _, _, _⟩, rfl⟩, ?_⟩
      have TT : Dk.T B S w X9 := ⟨TX.out.1, Fk.grownBy_trans HG0.out TX.out.2⟩
      have hqq := HQ8.out.2.2
      have hqB := HQ6.out.2.1
      have hBw : B ≤ w.heap.size := by omega
      have hSW : w.heap.size ≠ S := by omega
      exact ((((((((((TT.set (Nat.le_refl _) hBw hSW _ _).set (Nat.le_refl _) hBw hSW _ _).set (Nat.le_refl _) hBw hSW _ _).set (Nat.le_refl _) hBw hSW _ _).set (Nat.le_refl _) hBw hSW _ _).set (Nat.le_refl _) hBw hSW _ _).set (Nat.le_refl _) hBw hSW _ _).set (Nat.le_refl _) hBw hSW _ _).set (Nat.le_refl _) hBw hSW _ _).set (Nat.le_refl _) hBw hSW _ _)
    · go_wp2_with fail
      refine wp_region_held_drew (S := (fun w' => w'.cell? ⟨qc, 1, none⟩ = some (.int .i64 (1 + ra)) ∧ w'.cell? ⟨qc, 4, none⟩ = some (.int .i64 (98 + rc)) ∧ w'.cell? ⟨qc, 5, none⟩ = some (.int .i64 (1 + rd)) ∧ Hid (Dk.T B S W0 w'))) (by kernel_rfl) ?_ (fun hH => ?_)
      · (try dsimp only); exact ⟨m1, m4, m5, T8.out.drew⟩
      obtain ⟨X0, hX0⟩ : ∃ X, X = w8.drew := ⟨_, rfl⟩
      rw [← hX0] at hH ⊢
      have bX : Below w8.heap.size w8 X0 := by rw [hX0]; exact Below.drew (Below.refl _ _)
      have m0 := (bX.cell (p := ⟨qc, 0, none⟩) hg8).trans m0
      have m1 := (bX.cell (p := ⟨qc, 1, none⟩) hg8).trans m1
      have m2 := (bX.cell (p := ⟨qc, 2, none⟩) hg8).trans m2
      have m3 := (bX.cell (p := ⟨qc, 3, none⟩) hg8).trans m3
      have m4 := (bX.cell (p := ⟨qc, 4, none⟩) hg8).trans m4
      have m5 := (bX.cell (p := ⟨qc, 5, none⟩) hg8).trans m5
      have m6 := (bX.cell (p := ⟨qc, 6, none⟩) hg8).trans m6
      have m7 := (bX.cell (p := ⟨qc, 7, none⟩) hg8).trans m7
      have m8 := (bX.cell (p := ⟨qc, 8, none⟩) hg8).trans m8
      have m9 := (bX.cell (p := ⟨qc, 9, none⟩) hg8).trans m9
      have mf : ∀ j, X0.frozen? ⟨qc, j, none⟩ = false := fun j => (bX.frozen (p := ⟨qc, j, none⟩) hg8).trans (mf j)
      have hg8 : qc < X0.heap.size := Nat.lt_of_lt_of_le hg8 bX.size
      clear hX0 bX
      refine wpAnyH_take (i := 0) (oi := ?_) (v := ?_) ?_ (by kernel_rfl) (by kernel_rfl) (by kernel_rfl) ?_ ?_ (by assumption) ?_
      rotate_left
      rotate_left
      · (simp only [List.getElem?_toArray, List.getElem?_cons_succ, List.getElem?_cons_zero]; rfl)
      · exact fun _ _ _ h => h
      · refine Or.inl ⟨by rfl, ?_⟩; (intro w hSw; (try dsimp only at hSw); go_simp; first | done | with_reducible rfl)
      (try simp only [Act.put, List.setIfInBounds_toArray, List.set_cons_zero, List.set_cons_succ])
      refine wpAnyH_take (i := 1) (oi := ?_) (v := ?_) ?_ (by kernel_rfl) (by kernel_rfl) (by kernel_rfl) ?_ ?_ (by assumption) ?_
      rotate_left
      rotate_left
      · (simp only [List.getElem?_toArray, List.getElem?_cons_succ, List.getElem?_cons_zero]; rfl)
      · exact fun _ _ _ h => h
      · refine Or.inl ⟨by rfl, ?_⟩; (intro w hSw; (try dsimp only at hSw); go_simp; first | done | with_reducible rfl)
      (try simp only [Act.put, List.setIfInBounds_toArray, List.set_cons_zero, List.set_cons_succ])
      refine wpAnyH_take (i := 2) (oi := ?_) (v := ?_) ?_ (by kernel_rfl) (by kernel_rfl) (by kernel_rfl) ?_ ?_ (by assumption) ?_
      rotate_left
      rotate_left
      · (simp only [List.getElem?_toArray, List.getElem?_cons_succ, List.getElem?_cons_zero]; rfl)
      · exact fun _ _ _ h => h
      · refine Or.inl ⟨by rfl, ?_⟩; (intro w hSw; (try dsimp only at hSw); go_simp; first | done | with_reducible rfl)
      (try simp only [Act.put, List.setIfInBounds_toArray, List.set_cons_zero, List.set_cons_succ])
      refine wpAnyH_take (i := 5) (oi := ?_) (v := ?_) ?_ (by kernel_rfl) (by kernel_rfl) (by kernel_rfl) ?_ ?_ (by assumption) ?_
      rotate_left
      rotate_left
      · (simp only [List.getElem?_toArray, List.getElem?_cons_succ, List.getElem?_cons_zero]; rfl)
      · exact fun _ _ _ h => h
      · refine Or.inl ⟨by rfl, ?_⟩; (intro w hSw; (try dsimp only at hSw); go_simp; first | done | with_reducible rfl)
      (try simp only [Act.put, List.setIfInBounds_toArray, List.set_cons_zero, List.set_cons_succ])
      refine wpAnyH_take (i := 6) (oi := ?_) (v := ?_) ?_ (by kernel_rfl) (by kernel_rfl) (by kernel_rfl) ?_ ?_ (by assumption) ?_
      rotate_left
      rotate_left
      · (simp only [List.getElem?_toArray, List.getElem?_cons_succ, List.getElem?_cons_zero]; rfl)
      · exact fun _ _ _ h => h
      · refine Or.inl ⟨by rfl, ?_⟩; (intro w hSw; (try dsimp only at hSw); go_simp; first | done | with_reducible rfl)
      (try simp only [Act.put, List.setIfInBounds_toArray, List.set_cons_zero, List.set_cons_succ])
      refine wpAnyH_take (i := 7) (oi := ?_) (v := ?_) ?_ (by kernel_rfl) (by kernel_rfl) (by kernel_rfl) ?_ ?_ (by assumption) ?_
      rotate_left
      rotate_left
      · (simp only [List.getElem?_toArray, List.getElem?_cons_succ, List.getElem?_cons_zero]; rfl)
      · exact fun _ _ _ h => h
      · refine Or.inl ⟨by rfl, ?_⟩; (intro w hSw; (try dsimp only at hSw); go_simp; first | done | with_reducible rfl)
      (try simp only [Act.put, List.setIfInBounds_toArray, List.set_cons_zero, List.set_cons_succ])
      refine wpAnyH_take (i := 8) (oi := ?_) (v := ?_) ?_ (by kernel_rfl) (by kernel_rfl) (by kernel_rfl) ?_ ?_ (by assumption) ?_
      rotate_left
      rotate_left
      · (simp only [List.getElem?_toArray, List.getElem?_cons_succ, List.getElem?_cons_zero]; rfl)
      · exact fun _ _ _ h => h
      · refine Or.inl ⟨by rfl, ?_⟩; (intro w hSw; (try dsimp only at hSw); go_simp; first | done | with_reducible rfl)
      (try simp only [Act.put, List.setIfInBounds_toArray, List.set_cons_zero, List.set_cons_succ])
      refine wpAnyH_ready (rs := [3]) (by kernel_rfl) (by simp) ?_
      refine AllReadyH.cons (o := ?_) ?_ (fun K hK => ?_) AllReadyH.nil
      rotate_left
      · (simp only [List.getElem?_toArray, List.getElem?_cons_succ, List.getElem?_cons_zero]; rfl)
      go_simp
      go_at_call 39; refine (drawN_any B S 6 X0 (show Hid _ from hH.2.2.2).out.1 (by omega)).mono ?_; rintro e w9 ⟨⟨rh, rfl, rh0, rh1, _⟩, s9, g9⟩; have rhl := rh1 (by omega); clear rh1; have T9 : Hid (Dk.T B S W0 w9) := (show Hid _ from hH.2.2.2).out.next s9 g9; have c0 := Dk.T.cell (B := B) (W0 := W0) g9 hg8 hne m0; have c1 := Dk.T.cell (B := B) (W0 := W0) g9 hg8 hne m1; have c2 := Dk.T.cell (B := B) (W0 := W0) g9 hg8 hne m2; have c3 := Dk.T.cell (B := B) (W0 := W0) g9 hg8 hne m3; have c4 := Dk.T.cell (B := B) (W0 := W0) g9 hg8 hne m4; have c5 := Dk.T.cell (B := B) (W0 := W0) g9 hg8 hne m5; have c6 := Dk.T.cell (B := B) (W0 := W0) g9 hg8 hne m6; have c7 := Dk.T.cell (B := B) (W0 := W0) g9 hg8 hne m7; have c8 := Dk.T.cell (B := B) (W0 := W0) g9 hg8 hne m8; have c9 := Dk.T.cell (B := B) (W0 := W0) g9 hg8 hne m9; have cf : ∀ j, w9.frozen? ⟨qc, j, none⟩ = false := fun j => (World.frozen?_of_block (a := ⟨qc, j, none⟩) (g9.block qc hg8 (fun e => hne (Option.some.inj e)))).trans (mf j); clear s9 g9 hg8 mf m0 m1 m2 m3 m4 m5 m6 m7 m8 m9; have hwr : IntKind.i64.wrap (1 + rh) = 1 + rh := by rw [IntKind.wrap_i64]; omega
      (try go_wp2_with fail)
      refine hK.out _ _ ?_ (fun hH2 => ?_)
      · (try dsimp only); exact ⟨c1, c4, c5, T9⟩
      clear hK K hH
      have hH := hH2
      clear hH2
      (try simp only [Act.put, List.setIfInBounds_toArray, List.set_cons_zero, List.set_cons_succ])
      refine wpAnyH_take (i := 4) (oi := ?_) (v := ?_) ?_ (by kernel_rfl) (by kernel_rfl) (by kernel_rfl) ?_ ?_ (by assumption) ?_
      rotate_left
      rotate_left
      · (simp only [List.getElem?_toArray, List.getElem?_cons_succ, List.getElem?_cons_zero]; rfl)
      · exact fun _ _ _ h => h
      · refine Or.inl ⟨by rfl, ?_⟩; (intro w hSw; (try dsimp only at hSw); go_simp; first | done | with_reducible rfl)
      (try simp only [Act.put, List.setIfInBounds_toArray, List.set_cons_zero, List.set_cons_succ])
      refine wpAnyH_take (i := 9) (oi := ?_) (v := ?_) ?_ (by kernel_rfl) (by kernel_rfl) (by kernel_rfl) ?_ ?_ (by assumption) ?_
      rotate_left
      rotate_left
      · (simp only [List.getElem?_toArray, List.getElem?_cons_succ, List.getElem?_cons_zero]; rfl)
      · exact fun _ _ _ h => h
      · refine Or.inl ⟨by rfl, ?_⟩; (intro w hSw; (try dsimp only at hSw); go_simp; first | done | with_reducible rfl)
      (try simp only [Act.put, List.setIfInBounds_toArray, List.set_cons_zero, List.set_cons_succ])
      have HX : Hid ((Dk.tenSet w9 qc (.int .i64 4) (.int .i64 (1 + ra)) (.int .i64 (1 + rh)) (.bool false) (.int .i64 (98 + rc)) (.int .i64 (1 + rd)) (.int .i64 0) (.bool false) (.int .i64 0) (.bool false)).cell? ⟨qc, 0, none⟩ = some (.int .i64 4) ∧ (Dk.tenSet w9 qc (.int .i64 4) (.int .i64 (1 + ra)) (.int .i64 (1 + rh)) (.bool false) (.int .i64 (98 + rc)) (.int .i64 (1 + rd)) (.int .i64 0) (.bool false) (.int .i64 0) (.bool false)).cell? ⟨qc, 1, none⟩ = some (.int .i64 (1 + ra)) ∧ (Dk.tenSet w9 qc (.int .i64 4) (.int .i64 (1 + ra)) (.int .i64 (1 + rh)) (.bool false) (.int .i64 (98 + rc)) (.int .i64 (1 + rd)) (.int .i64 0) (.bool false) (.int .i64 0) (.bool false)).cell? ⟨qc, 2, none⟩ = some (.int .i64 (1 + rh)) ∧ (Dk.tenSet w9 qc (.int .i64 4) (.int .i64 (1 + ra)) (.int .i64 (1 + rh)) (.bool false) (.int .i64 (98 + rc)) (.int .i64 (1 + rd)) (.int .i64 0) (.bool false) (.int .i64 0) (.bool false)).cell? ⟨qc, 3, none⟩ = some (.bool false) ∧ (Dk.tenSet w9 qc (.int .i64 4) (.int .i64 (1 + ra)) (.int .i64 (1 + rh)) (.bool false) (.int .i64 (98 + rc)) (.int .i64 (1 + rd)) (.int .i64 0) (.bool false) (.int .i64 0) (.bool false)).cell? ⟨qc, 4, none⟩ = some (.int .i64 (98 + rc)) ∧ (Dk.tenSet w9 qc (.int .i64 4) (.int .i64 (1 + ra)) (.int .i64 (1 + rh)) (.bool false) (.int .i64 (98 + rc)) (.int .i64 (1 + rd)) (.int .i64 0) (.bool false) (.int .i64 0) (.bool false)).cell? ⟨qc, 5, none⟩ = some (.int .i64 (1 + rd)) ∧ (Dk.tenSet w9 qc (.int .i64 4) (.int .i64 (1 + ra)) (.int .i64 (1 + rh)) (.bool false) (.int .i64 (98 + rc)) (.int .i64 (1 + rd)) (.int .i64 0) (.bool false) (.int .i64 0) (.bool false)).cell? ⟨qc, 6, none⟩ = some (.int .i64 0) ∧ (Dk.tenSet w9 qc (.int .i64 4) (.int .i64 (1 + ra)) (.int .i64 (1 + rh)) (.bool false) (.int .i64 (98 + rc)) (.int .i64 (1 + rd)) (.int .i64 0) (.bool false) (.int .i64 0) (.bool false)).cell? ⟨qc, 7, none⟩ = some (.bool false) ∧ (Dk.tenSet w9 qc (.int .i64 4) (.int .i64 (1 + ra)) (.int .i64 (1 + rh)) (.bool false) (.int .i64 (98 + rc)) (.int .i64 (1 + rd)) (.int .i64 0) (.bool false) (.int .i64 0) (.bool false)).cell? ⟨qc, 8, none⟩ = some (.int .i64 0) ∧ (Dk.tenSet w9 qc (.int .i64 4) (.int .i64 (1 + ra)) (.int .i64 (1 + rh)) (.bool false) (.int .i64 (98 + rc)) (.int .i64 (1 + rd)) (.int .i64 0) (.bool false) (.int .i64 0) (.bool false)).cell? ⟨qc, 9, none⟩ = some (.bool false)) := Dk.ten_cells (.int .i64 4) (.int .i64 (1 + ra)) (.int .i64 (1 + rh)) (.bool false) (.int .i64 (98 + rc)) (.int .i64 (1 + rd)) (.int .i64 0) (.bool false) (.int .i64 0) (.bool false) (fun j hj => by match j, hj with | 0, _ => rw [c0]; rfl | 1, _ => rw [c1]; rfl | 2, _ => rw [c2]; rfl | 3, _ => rw [c3]; rfl | 4, _ => rw [c4]; rfl | 5, _ => rw [c5]; rfl | 6, _ => rw [c6]; rfl | 7, _ => rw [c7]; rfl | 8, _ => rw [c8]; rfl | 9, _ => rw [c9]; rfl)
      have TX : Hid (Dk.T B S W0 (Dk.tenSet w9 qc (.int .i64 4) (.int .i64 (1 + ra)) (.int .i64 (1 + rh)) (.bool false) (.int .i64 (98 + rc)) (.int .i64 (1 + rd)) (.int .i64 0) (.bool false) (.int .i64 0) (.bool false))) := T9.out.ten HQ6.out _ _ _ _ _ _ _ _ _ _
      refine wpAnyH_ready (rs := [10]) (by kernel_rfl) (by simp) ?_
      refine AllReadyH.cons (o := ?_) ?_ (fun K hK => ?_) AllReadyH.nil
      rotate_left
      · (simp only [List.getElem?_toArray, List.getElem?_cons_succ, List.getElem?_cons_zero]; rfl)
      go_simp
      skip
      (try go_wp2_with fail)
      refine hK.out _ _ ?_ (fun hH2 => ?_)
      · (try dsimp only); exact ⟨HX.out.2.1, HX.out.2.2.2.2.1, HX.out.2.2.2.2.2.1, TX⟩
      clear hK K hH
      have hH := hH2
      clear hH2
      (try simp only [Act.put, List.setIfInBounds_toArray, List.set_cons_zero, List.set_cons_succ])
      refine wpAnyH_done (by kernel_rfl) ?_ _
      obtain ⟨X9, hX9⟩ : ∃ X, X = Dk.tenSet w9 qc (.int .i64 4) (.int .i64 (1 + ra)) (.int .i64 (1 + rh)) (.bool false) (.int .i64 (98 + rc)) (.int .i64 (1 + rd)) (.int .i64 0) (.bool false) (.int .i64 0) (.bool false) := ⟨_, rfl⟩
      rw [← hX9] at HX TX
      have kf : ∀ j, X9.frozen? ⟨qc, j, none⟩ = false := fun j => by rw [hX9, Dk.ten_frozen]; exact cf j
      unfold Dk.tenSet at hX9
      rw [← hX9]
      clear hX9 hH cf c0 c1 c2 c3 c4 c5 c6 c7 c8 c9
      have k0 := HX.out.1
      have k1 := HX.out.2.1
      have k2 := HX.out.2.2.1
      have k3 := HX.out.2.2.2.1
      have k4 := HX.out.2.2.2.2.1
      have k5 := HX.out.2.2.2.2.2.1
      have k6 := HX.out.2.2.2.2.2.2.1
      have k7 := HX.out.2.2.2.2.2.2.2.1
      have k8 := HX.out.2.2.2.2.2.2.2.2.1
      have k9 := HX.out.2.2.2.2.2.2.2.2.2
      clear HX
      have hqa := HQ8.out.1
      have hqb := HQ8.out.2.1
      have z0 := Dk.T.cell (B := B) (W0 := W0) TX.out.2 (by omega) (by omega) HZ0.out
      have z1 := Dk.T.cell (B := B) (W0 := W0) TX.out.2 (by omega) (by omega) HZ1.out
      have z2 := Dk.T.cell (B := B) (W0 := W0) TX.out.2 (by omega) (by omega) HZ2.out
      have z3 := Dk.T.cell (B := B) (W0 := W0) TX.out.2 (by omega) (by omega) HZ3.out
      have z4 := Dk.T.cell (B := B) (W0 := W0) TX.out.2 (by omega) (by omega) HZ4.out
      have z5 := Dk.T.cell (B := B) (W0 := W0) TX.out.2 (by omega) (by omega) HZ5.out
      have z6 := Dk.T.cell (B := B) (W0 := W0) TX.out.2 (by omega) (by omega) HZ6.out
      have z7 := Dk.T.cell (B := B) (W0 := W0) TX.out.2 (by omega) (by omega) HZ7.out
      have z8 := Dk.T.cell (B := B) (W0 := W0) TX.out.2 (by omega) (by omega) HZ8.out
      have z9 := Dk.T.cell (B := B) (W0 := W0) TX.out.2 (by omega) (by omega) HZ9.out
      have zf : ∀ j, X9.frozen? ⟨w.heap.size, j, none⟩ = false := fun j => (World.frozen?_of_block (a := ⟨w.heap.size, j, none⟩) (TX.out.2.block w.heap.size (by omega) (fun e => by have := Option.some.inj e; omega))).trans (HZF.out j)
      go_wp2_with fail
      refine bodyPost_ret (v := .agg #[.int .i64 4, .int .i64 (1 + ra), .int .i64 (1 + rh), .bool false, .int .i64 (98 + rc), .int .i64 (1 + rd), .int .i64 0, .bool false, .int .i64 0, .bool false]) (by simp [results, Try.results33, go_sem, z0, z1, z2, z3, z4, z5, z6, z7, z8, z9] <;> rfl) rfl ⟨⟨⟨_, _, _, _, _, _, _, _, _, _⟩, rfl⟩, ?_⟩
      have TT : Dk.T B S w X9 := ⟨TX.out.1, Fk.grownBy_trans HG0.out TX.out.2⟩
      have hqq := HQ8.out.2.2
      have hqB := HQ6.out.2.1
      have hBw : B ≤ w.heap.size := by omega
      have hSW : w.heap.size ≠ S := by omega
      exact ((((((((((TT.set (Nat.le_refl _) hBw hSW _ _).set (Nat.le_refl _) hBw hSW _ _).set (Nat.le_refl _) hBw hSW _ _).set (Nat.le_refl _) hBw hSW _ _).set (Nat.le_refl _) hBw hSW _ _).set (Nat.le_refl _) hBw hSW _ _).set (Nat.le_refl _) hBw hSW _ _).set (Nat.le_refl _) hBw hSW _ _).set (Nat.le_refl _) hBw hSW _ _).set (Nat.le_refl _) hBw hSW _ _)
    · go_wp2_with fail
      refine (drawOne_any B S 3 w8 T8.out.1 (by omega)).mono ?_
      rintro e w9 ⟨⟨ri, rfl⟩, s9, g9⟩
      have T9 : Hid (Dk.T B S W0 w9) := T8.out.next s9 g9
      have c0 := Dk.T.cell (B := B) (W0 := W0) g9 hg8 hne m0
      have c1 := Dk.T.cell (B := B) (W0 := W0) g9 hg8 hne m1
      have c2 := Dk.T.cell (B := B) (W0 := W0) g9 hg8 hne m2
      have c3 := Dk.T.cell (B := B) (W0 := W0) g9 hg8 hne m3
      have c4 := Dk.T.cell (B := B) (W0 := W0) g9 hg8 hne m4
      have c5 := Dk.T.cell (B := B) (W0 := W0) g9 hg8 hne m5
      have c6 := Dk.T.cell (B := B) (W0 := W0) g9 hg8 hne m6
      have c7 := Dk.T.cell (B := B) (W0 := W0) g9 hg8 hne m7
      have c8 := Dk.T.cell (B := B) (W0 := W0) g9 hg8 hne m8
      have c9 := Dk.T.cell (B := B) (W0 := W0) g9 hg8 hne m9
      have cf : ∀ j, w9.frozen? ⟨qc, j, none⟩ = false := fun j => (World.frozen?_of_block (a := ⟨qc, j, none⟩) (g9.block qc hg8 (fun e => hne (Option.some.inj e)))).trans (mf j)
      clear s9 g9 hg8 mf m0 m1 m2 m3 m4 m5 m6 m7 m8 m9
      have hqa := HQ8.out.1
      have hqb := HQ8.out.2.1
      have z0 := Dk.T.cell (B := B) (W0 := W0) T9.out.2 (by omega) (by omega) HZ0.out
      have z1 := Dk.T.cell (B := B) (W0 := W0) T9.out.2 (by omega) (by omega) HZ1.out
      have z2 := Dk.T.cell (B := B) (W0 := W0) T9.out.2 (by omega) (by omega) HZ2.out
      have z3 := Dk.T.cell (B := B) (W0 := W0) T9.out.2 (by omega) (by omega) HZ3.out
      have z4 := Dk.T.cell (B := B) (W0 := W0) T9.out.2 (by omega) (by omega) HZ4.out
      have z5 := Dk.T.cell (B := B) (W0 := W0) T9.out.2 (by omega) (by omega) HZ5.out
      have z6 := Dk.T.cell (B := B) (W0 := W0) T9.out.2 (by omega) (by omega) HZ6.out
      have z7 := Dk.T.cell (B := B) (W0 := W0) T9.out.2 (by omega) (by omega) HZ7.out
      have z8 := Dk.T.cell (B := B) (W0 := W0) T9.out.2 (by omega) (by omega) HZ8.out
      have z9 := Dk.T.cell (B := B) (W0 := W0) T9.out.2 (by omega) (by omega) HZ9.out
      have zf : ∀ j, w9.frozen? ⟨w.heap.size, j, none⟩ = false := fun j => (World.frozen?_of_block (a := ⟨w.heap.size, j, none⟩) (T9.out.2.block w.heap.size (by omega) (fun e => by have := Option.some.inj e; omega))).trans (HZF.out j)
      cases ri with
      | false =>
        go_wp2_with fail
        refine bodyPost_ret (v := .agg #[.int .i64 1, .int .i64 (1 + ra), .int .i64 0, .bool rb, .int .i64 (98 + rc), .int .i64 (1 + rd), .int .i64 lf, .bool false, .int .i64 0, .bool false]) (by simp [results, Try.results33, go_sem, z0, z1, z2, z3, z4, z5, z6, z7, z8, z9] <;> rfl) rfl ⟨⟨⟨_, _, _, _, _, _, _, _, _, _⟩, rfl⟩, ?_⟩
        have TT : Dk.T B S w w9 := ⟨T9.out.1, Fk.grownBy_trans HG0.out T9.out.2⟩
        have hqq := HQ8.out.2.2
        have hqB := HQ6.out.2.1
        have hBw : B ≤ w.heap.size := by omega
        have hSW : w.heap.size ≠ S := by omega
        exact ((((((((((TT.set (Nat.le_refl _) hBw hSW _ _).set (Nat.le_refl _) hBw hSW _ _).set (Nat.le_refl _) hBw hSW _ _).set (Nat.le_refl _) hBw hSW _ _).set (Nat.le_refl _) hBw hSW _ _).set (Nat.le_refl _) hBw hSW _ _).set (Nat.le_refl _) hBw hSW _ _).set (Nat.le_refl _) hBw hSW _ _).set (Nat.le_refl _) hBw hSW _ _).set (Nat.le_refl _) hBw hSW _ _)
      | true =>
        go_wp2_with fail
        refine bodyPost_ret (v := .agg #[.int .i64 5, .int .i64 0, .int .i64 0, .bool false, .int .i64 0, .int .i64 0, .int .i64 0, .bool false, .int .i64 0, .bool false]) (by simp [results, Try.results33, go_sem, z0, z1, z2, z3, z4, z5, z6, z7, z8, z9] <;> rfl) rfl ⟨⟨⟨_, _, _, _, _, _, _, _, _, _⟩, rfl⟩, ?_⟩
        have TT : Dk.T B S w w9 := ⟨T9.out.1, Fk.grownBy_trans HG0.out T9.out.2⟩
        have hqq := HQ8.out.2.2
        have hqB := HQ6.out.2.1
        have hBw : B ≤ w.heap.size := by omega
        have hSW : w.heap.size ≠ S := by omega
        exact ((((((((((((((((((((TT.set hqq hqB hne _ _).set hqq hqB hne _ _).set hqq hqB hne _ _).set hqq hqB hne _ _).set hqq hqB hne _ _).set hqq hqB hne _ _).set hqq hqB hne _ _).set hqq hqB hne _ _).set hqq hqB hne _ _).set hqq hqB hne _ _).set (Nat.le_refl _) hBw hSW _ _).set (Nat.le_refl _) hBw hSW _ _).set (Nat.le_refl _) hBw hSW _ _).set (Nat.le_refl _) hBw hSW _ _).set (Nat.le_refl _) hBw hSW _ _).set (Nat.le_refl _) hBw hSW _ _).set (Nat.le_refl _) hBw hSW _ _).set (Nat.le_refl _) hBw hSW _ _).set (Nat.le_refl _) hBw hSW _ _).set (Nat.le_refl _) hBw hSW _ _)
  have n0 : ¬ rg = 0 := fun h => c4 (.inl h)
  have n1 : ¬ rg = 1 := fun h => c4 (.inr (.inl h))
  have n2 : ¬ rg = 2 := fun h => c4 (.inr (.inr (.inl h)))
  have n3 : ¬ rg = 3 := fun h => c4 (.inr (.inr (.inr h)))
  clear c4
  have z0 := Dk.T.cell (B := B) (W0 := W0) T8.out.2 (by omega) (by omega) HZ0.out
  have z1 := Dk.T.cell (B := B) (W0 := W0) T8.out.2 (by omega) (by omega) HZ1.out
  have z2 := Dk.T.cell (B := B) (W0 := W0) T8.out.2 (by omega) (by omega) HZ2.out
  have z3 := Dk.T.cell (B := B) (W0 := W0) T8.out.2 (by omega) (by omega) HZ3.out
  have z4 := Dk.T.cell (B := B) (W0 := W0) T8.out.2 (by omega) (by omega) HZ4.out
  have z5 := Dk.T.cell (B := B) (W0 := W0) T8.out.2 (by omega) (by omega) HZ5.out
  have z6 := Dk.T.cell (B := B) (W0 := W0) T8.out.2 (by omega) (by omega) HZ6.out
  have z7 := Dk.T.cell (B := B) (W0 := W0) T8.out.2 (by omega) (by omega) HZ7.out
  have z8 := Dk.T.cell (B := B) (W0 := W0) T8.out.2 (by omega) (by omega) HZ8.out
  have z9 := Dk.T.cell (B := B) (W0 := W0) T8.out.2 (by omega) (by omega) HZ9.out
  have zf : ∀ j, w8.frozen? ⟨w.heap.size, j, none⟩ = false := fun j => (World.frozen?_of_block (a := ⟨w.heap.size, j, none⟩) (T8.out.2.block w.heap.size (by omega) (fun e => by have := Option.some.inj e; omega))).trans (HZF.out j)
  go_wp2_with fail
  refine bodyPost_ret (v := .agg #[.int .i64 1, .int .i64 (1 + ra), .int .i64 0, .bool rb, .int .i64 (98 + rc), .int .i64 (1 + rd), .int .i64 lf, .bool false, .int .i64 0, .bool false]) (by simp [results, Try.results33, go_sem, z0, z1, z2, z3, z4, z5, z6, z7, z8, z9] <;> rfl) rfl ⟨⟨⟨_, _, _, _, _, _, _, _, _, _⟩, rfl⟩, ?_⟩
  have TT : Dk.T B S w w8 := ⟨T8.out.1, Fk.grownBy_trans HG0.out T8.out.2⟩
  exact ((((((((((TT.set (Nat.le_refl _) (by omega) (by omega) _ _).set (Nat.le_refl _) (by omega) (by omega) _ _).set (Nat.le_refl _) (by omega) (by omega) _ _).set (Nat.le_refl _) (by omega) (by omega) _ _).set (Nat.le_refl _) (by omega) (by omega) _ _).set (Nat.le_refl _) (by omega) (by omega) _ _).set (Nat.le_refl _) (by omega) (by omega) _ _).set (Nat.le_refl _) (by omega) (by omega) _ _).set (Nat.le_refl _) (by omega) (by omega) _ _).set (Nat.le_refl _) (by omega) (by omega) _ _)
end Go.Proofs.Ytfagldipjpaceaa
