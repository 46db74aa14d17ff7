/- The walk of the program's bytes of a book of either make. -/
import Derived.Test.YtiekgchicholcaaSnapImpl
import Derived.Test.YtiekgchicholcaaSealWalks
namespace Go.Proofs.Ytiekgchicholcaa
open Go.RowKit
set_option linter.unusedVariables false
set_option linter.unusedSimpArgs false
set_option maxRecDepth 100000 in
set_option maxHeartbeats 4000000 in
theorem snapBytes_any (g n s : Int) (hg : g = 1 ∨ g = 2) (x y : Value) (B A : List Or.E) (w : World)
    (hx : Rk.View Or.S w x B) (hy : Rk.View Or.S w y A) (l0 : B.length ≤ 1048576) (l1 : A.length ≤ 1048576) (m0 : B.length ≤ 131072) (m1 : A.length ≤ 131072) (f0 : ∀ k, k < B.length → Or.Fit (Ob.at' B k)) (f1 : ∀ k, k < A.length → Or.Fit (Ob.at' A k)) (n0 : -9223372036854775808 ≤ n ∧ n ≤ 9223372036854775807) (s0 : -9223372036854775808 ≤ s ∧ s ≤ 9223372036854775807) :
    Calls Try.prog 33 #[.agg #[.int .i64 g, .int .i64 n, x, y, .int .i64 s]] w fun e w' => e = .returned (.string (sealed (Rc.bytes g (Sp.fields (decide (g = 2)) B A n s)))) ∧ Below w.heap.size w w' := by
  have HX := Fk.hide hx
  have HY := Fk.hide hy
  obtain ⟨a0, cap0, rfl, _⟩ := hx
  obtain ⟨a1, cap1, rfl, _⟩ := hy
  obtain ⟨wide, hw⟩ : ∃ b, (g == 2) = b := ⟨_, rfl⟩
  have HWD : Hid (decide (g = 2) = wide) := by show _ = _; rw [← hw]; rcases hg with rfl | rfl <;> rfl
  obtain ⟨W1, hW1⟩ : ∃ W, W = w.alloc (.cells #[.int .i64 g, .int .i64 n, .slice a0 B.length cap0, .slice a1 A.length cap1, .int .i64 s] 70) := ⟨_, rfl⟩
  have b1 : Below w.heap.size w W1 := by rw [hW1]; exact (Below.refl _ _).alloc (Nat.le_refl _) _
  have hz1 : w.heap.size < W1.heap.size := by rw [hW1]; simp
  have d0 : W1.cell? ⟨w.heap.size, 0, none⟩ = some (.int .i64 g) := by rw [hW1, Fk.cellTop _ _ _ _ _ rfl]; rfl
  have d1 : W1.cell? ⟨w.heap.size, 1, none⟩ = some (.int .i64 n) := by rw [hW1, Fk.cellTop _ _ _ _ _ rfl]; rfl
  have d2 : W1.cell? ⟨w.heap.size, 2, none⟩ = some (.slice a0 B.length cap0) := by rw [hW1, Fk.cellTop _ _ _ _ _ rfl]; rfl
  have d3 : W1.cell? ⟨w.heap.size, 3, none⟩ = some (.slice a1 A.length cap1) := by rw [hW1, Fk.cellTop _ _ _ _ _ rfl]; rfl
  have d4 : W1.cell? ⟨w.heap.size, 4, none⟩ = some (.int .i64 s) := by rw [hW1, Fk.cellTop _ _ _ _ _ rfl]; rfl
  have HW1 := Fk.hide hW1
  have HB1 := Fk.hide b1
  have HX1 := Fk.hide (HX.out.below b1)
  have HY1 := Fk.hide (HY.out.below b1)
  clear hW1 b1 HX HY
  have HB : Hid (Below W1.heap.size W1 W1.drew) := Below.drew (Below.refl _ _)
  obtain ⟨p0, hp0⟩ : ∃ t, t = Pn.putNum n := ⟨_, rfl⟩
  obtain ⟨p3, hp3⟩ : ∃ t, t = Pn.putNum s := ⟨_, rfl⟩
  obtain ⟨rB, hrB⟩ : ∃ t, t = Sp.row wide B B.length := ⟨_, rfl⟩
  obtain ⟨rA, hrA⟩ : ∃ t, t = Sp.row wide A A.length := ⟨_, rfl⟩
  have g0 : Hid (∀ w', Calls Try.prog 64 #[.int .i64 n] w' fun e w'' => e = .returned (.string p0) ∧ Below w'.heap.size w' w'') := fun w' => by rw [hp0]; exact implPut_any n w' n0.1 n0.2
  have g3 : Hid (∀ w', Calls Try.prog 64 #[.int .i64 s] w' fun e w'' => e = .returned (.string p3) ∧ Below w'.heap.size w' w'') := fun w' => by rw [hp3]; exact implPut_any s w' s0.1 s0.2
  have g1 : Hid (∀ w', Below W1.heap.size W1 w' → Calls Try.prog 65 #[.int .i64 g, .slice a0 B.length cap0] w' fun e w'' => e = .returned (.string rB) ∧ Below w'.heap.size w' w'') := fun w' h' => by rw [hrB]; exact ordersBytes_any g wide hw _ B w' (HX1.out.below h') l0 (by have := Sp.parts_length wide B B.length; omega) f0
  have g2 : Hid (∀ w', Below W1.heap.size W1 w' → Calls Try.prog 65 #[.int .i64 g, .slice a1 A.length cap1] w' fun e w'' => e = .returned (.string rA) ∧ Below w'.heap.size w' w'') := fun w' h' => by rw [hrA]; exact ordersBytes_any g wide hw _ A w' (HY1.out.below h') l1 (by have := Sp.parts_length wide A A.length; omega) f1
  have HE : Hid (Sp.fields (decide (g = 2)) B A n s = [(1, p0), (2, rB), (3, rA), (4, p3)]) := by show _ = _; rw [HWD.out, hp0, hp3, hrB, hrA]; rfl
  have HFF := Fk.hide (Sp.fields_fit (decide (g = 2)) B A n s l0 l1)
  clear hp0 hp3 hrB hrA hw HWD n0 s0 hg
  go_enter Try.func33, Try.ntmps33
  go_wp2_with fail
  rw [← HW1.out]
  go_region_held3 (fun w' => w'.cell? ⟨w.heap.size, 0, none⟩ = some (.int .i64 g) ∧ w'.cell? ⟨w.heap.size, 1, none⟩ = some (.int .i64 n) ∧ w'.cell? ⟨w.heap.size, 2, none⟩ = some (.slice a0 B.length cap0) ∧ w'.cell? ⟨w.heap.size, 3, none⟩ = some (.slice a1 A.length cap1) ∧ w'.cell? ⟨w.heap.size, 4, none⟩ = some (.int .i64 s))
    (first | go_keep | (go_split_ands; exact ⟨by assumption, by assumption, by assumption, by assumption, by assumption⟩))
    (first
      | (have hchk := HB4.out; clear hchk; go_at_call 64; refine (g3.out _).mono ?_; rintro e w5 ⟨rfl, b5⟩; have B5 : Below W1.heap.size W1 w5 := HB4.out.trans (b5.mono HB4.out.size); have vq0 := (B5.cell (p := ⟨w.heap.size, 0, none⟩) (by exact hz1)).trans d0; have vq1 := (B5.cell (p := ⟨w.heap.size, 1, none⟩) (by exact hz1)).trans d1; have vq2 := (B5.cell (p := ⟨w.heap.size, 2, none⟩) (by exact hz1)).trans d2; have vq3 := (B5.cell (p := ⟨w.heap.size, 3, none⟩) (by exact hz1)).trans d3; have vq4 := (B5.cell (p := ⟨w.heap.size, 4, none⟩) (by exact hz1)).trans d4; have HB5 := Fk.hide B5; clear B5 b5)
      | (have hchk := HB3.out; clear hchk; go_at_call 65; refine (g2.out _ HB3.out).mono ?_; rintro e w4 ⟨rfl, b4⟩; have B4 : Below W1.heap.size W1 w4 := HB3.out.trans (b4.mono HB3.out.size); have uq0 := (B4.cell (p := ⟨w.heap.size, 0, none⟩) (by exact hz1)).trans d0; have uq1 := (B4.cell (p := ⟨w.heap.size, 1, none⟩) (by exact hz1)).trans d1; have uq2 := (B4.cell (p := ⟨w.heap.size, 2, none⟩) (by exact hz1)).trans d2; have uq3 := (B4.cell (p := ⟨w.heap.size, 3, none⟩) (by exact hz1)).trans d3; have uq4 := (B4.cell (p := ⟨w.heap.size, 4, none⟩) (by exact hz1)).trans d4; have HB4 := Fk.hide B4; clear B4 b4)
      | (have hchk := HB2.out; clear hchk; go_at_call 65; refine (g1.out _ HB2.out).mono ?_; rintro e w3 ⟨rfl, b3⟩; have B3 : Below W1.heap.size W1 w3 := HB2.out.trans (b3.mono HB2.out.size); have tq0 := (B3.cell (p := ⟨w.heap.size, 0, none⟩) (by exact hz1)).trans d0; have tq1 := (B3.cell (p := ⟨w.heap.size, 1, none⟩) (by exact hz1)).trans d1; have tq2 := (B3.cell (p := ⟨w.heap.size, 2, none⟩) (by exact hz1)).trans d2; have tq3 := (B3.cell (p := ⟨w.heap.size, 3, none⟩) (by exact hz1)).trans d3; have tq4 := (B3.cell (p := ⟨w.heap.size, 4, none⟩) (by exact hz1)).trans d4; have HB3 := Fk.hide B3; clear B3 b3)
      | (go_at_call 64; refine (g0.out _).mono ?_; rintro e w2 ⟨rfl, b2⟩; have B2 : Below W1.heap.size W1 w2 := HB.out.trans b2; have sq0 := (B2.cell (p := ⟨w.heap.size, 0, none⟩) (by exact hz1)).trans d0; have sq1 := (B2.cell (p := ⟨w.heap.size, 1, none⟩) (by exact hz1)).trans d1; have sq2 := (B2.cell (p := ⟨w.heap.size, 2, none⟩) (by exact hz1)).trans d2; have sq3 := (B2.cell (p := ⟨w.heap.size, 3, none⟩) (by exact hz1)).trans d3; have sq4 := (B2.cell (p := ⟨w.heap.size, 4, none⟩) (by exact hz1)).trans d4; have HB2 := Fk.hide B2; clear B2 b2))
  obtain ⟨W6, hW6⟩ : ∃ W, W = w5.alloc (.cells #[.int .i64 1, .string p0, .int .i64 2, .string rB, .int .i64 3, .string rA, .int .i64 4, .string p3] 104) := ⟨_, rfl⟩
  have b6 : Below w5.heap.size w5 W6 := by rw [hW6]; exact (Below.refl _ _).alloc (Nat.le_refl _) _
  have O6 : Hid (Rk.View Fd.S W6 (.slice (some ⟨w5.heap.size, 0, none⟩) 4 4) (Sp.fields (decide (g = 2)) B A n s)) := by
    show Rk.View _ _ _ _
    rw [HE.out, hW6]
    exact (show Rk.Own Fd.S _ w5.heap.size 104 _ [(1, p0), (2, rB), (3, rA), (4, p3)] from World.ownsRow_lit w5 #[.int .i64 1, .string p0, .int .i64 2, .string rB, .int .i64 3, .string rA, .int .i64 4, .string p3] 4 (Nat.le_refl _) (by unfold maxLen; omega) rfl).view
  have B6 := Fk.hide (HB1.out.trans ((HB5.out.trans (b6.mono HB5.out.size)).mono HB1.out.size))
  have e0 : W6.cell? ⟨w.heap.size, 0, none⟩ = some (.int .i64 g) := (b6.cell (by show w.heap.size < w5.heap.size; have := HB5.out.size; omega)).trans vq0
  rw [← hW6]
  clear hW6 b6 hz1 sq0 sq1 sq2 sq3 sq4 tq0 tq1 tq2 tq3 tq4 uq0 uq1 uq2 uq3 uq4 vq0 vq1 vq2 vq3 vq4 d0 d1 d2 d3 d4
  obtain ⟨t7, ht7⟩ : ∃ t, t = Rc.bytes g (Sp.fields (decide (g = 2)) B A n s) := ⟨_, rfl⟩
  have HZ : Hid (t7.size ≤ maxLen) := by show _ ≤ _; rw [ht7]; exact Sp.bytes_size _ _
  have FB : Hid (∀ w', Rk.View Fd.S w' (.slice (some ⟨w5.heap.size, 0, none⟩) 4 4) (Sp.fields (decide (g = 2)) B A n s) → Calls Try.prog 67 #[.agg #[.int .i64 g, .slice (some ⟨w5.heap.size, 0, none⟩) 4 4]] w' fun e w'' => e = .returned (.string t7) ∧ Below w'.heap.size w' w'') := fun w' h => by rw [ht7]; exact recBytes_impl g _ _ w' h HFF.out (by rw [Sp.fields_length]; unfold maxLen; omega)
  have HT7 := Fk.hide ht7
  clear ht7
  have HD6 : Hid (Below W6.heap.size W6 W6.drew) := Below.drew (Below.refl _ _)
  go_wp2_with fail
  refine (FB.out _ O6.out).mono ?_
  rintro e w7 ⟨rfl, k7⟩
  have B7 := Fk.hide (B6.out.trans (k7.mono B6.out.size))
  clear k7
  go_wp2_with fail
  refine (implSeal_any _ _ HZ.out).mono ?_
  rintro e w8 ⟨rfl, k8⟩
  have B8 := Fk.hide (B7.out.trans (k8.mono B7.out.size))
  clear k8
  go_wp2_with fail
  go_ret
  exact ⟨by rw [← HT7.out]; rfl, B8.out⟩
end Go.Proofs.Ytiekgchicholcaa
