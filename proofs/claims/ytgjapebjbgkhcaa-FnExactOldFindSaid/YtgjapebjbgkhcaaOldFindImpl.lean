/- The walks of the program's look for an order: seatOf. -/
import Derived.Test.YtgjapebjbgkhcaaOldSeat
import Derived.WalkMore
namespace Go.Proofs.Ytgjapebjbgkhcaa
open Go.RowKit
set_option linter.unusedVariables false
set_option linter.unusedSimpArgs false

set_option maxRecDepth 100000 in
set_option maxHeartbeats 8000000 in
theorem seatOf_any (u v : Value) (n : Int) (id : Int) (B A : List Or.E) (w : World) (hu : Rk.View Or.S w u B) (hv : Rk.View Or.S w v A) (l0 : B.length ≤ 1048576) (l1 : A.length ≤ 1048576) :
    Calls Try.prog 67 #[.agg #[u, v, .int .i64 n], .int .i64 id] w fun e w' => (∃ buy k there, e = .returned (.tuple #[.agg #[.bool buy, .int .i64 k], .bool there]) ∧ ((there = true ∧ ∃ j : Nat, k = j ∧ ((buy = true ∧ Ob.hits B id j) ∨ (buy = false ∧ Ob.lacks B id B.length ∧ Ob.hits A id j))) ∨ (there = false ∧ Ob.lacks B id B.length ∧ Ob.lacks A id A.length))) ∧ Below w.heap.size w w' := by
  obtain ⟨a0, cap0, rfl, hs0⟩ := hu
  obtain ⟨a1, cap1, rfl, hs1⟩ := hv
  obtain ⟨W, hW⟩ : ∃ W, W = (((w.alloc (.cells #[.slice a0 B.length cap0, .slice a1 A.length cap1, .int .i64 n] 25)).alloc (.cells #[.bool false, .int .i64 0] 96)).alloc (.cells #[.bool false, .int .i64 0] 96)).alloc (.cells #[.bool true, .bool false] 4) := ⟨_, rfl⟩
  have b0 : Below w.heap.size w W := by
    rw [hW]
    repeat (first | exact Below.refl _ _ | refine Below.alloc ?_ (by simp <;> omega) _)
  have c0 : W.cell? ⟨w.heap.size, 0, none⟩ = some (.slice a0 B.length cap0) := by rw [hW, Fk.cellOld _ _ _ _ (by simp <;> omega), Fk.cellOld _ _ _ _ (by simp <;> omega), Fk.cellOld _ _ _ _ (by simp <;> omega), Fk.cellTop _ _ _ _ _ (by simp)]; rfl
  have c1 : W.cell? ⟨w.heap.size, 1, none⟩ = some (.slice a1 A.length cap1) := by rw [hW, Fk.cellOld _ _ _ _ (by simp <;> omega), Fk.cellOld _ _ _ _ (by simp <;> omega), Fk.cellOld _ _ _ _ (by simp <;> omega), Fk.cellTop _ _ _ _ _ (by simp)]; rfl
  have c2 : W.cell? ⟨w.heap.size, 2, none⟩ = some (.int .i64 n) := by rw [hW, Fk.cellOld _ _ _ _ (by simp <;> omega), Fk.cellOld _ _ _ _ (by simp <;> omega), Fk.cellOld _ _ _ _ (by simp <;> omega), Fk.cellTop _ _ _ _ _ (by simp)]; rfl
  have r0 : W.cell? ⟨w.heap.size + 1, 0, none⟩ = some (.bool false) := by rw [hW, Fk.cellOld _ _ _ _ (by simp <;> omega), Fk.cellOld _ _ _ _ (by simp <;> omega), Fk.cellTop _ _ _ _ _ (by simp)]; rfl
  have r1 : W.cell? ⟨w.heap.size + 1, 1, none⟩ = some (.int .i64 0) := by rw [hW, Fk.cellOld _ _ _ _ (by simp <;> omega), Fk.cellOld _ _ _ _ (by simp <;> omega), Fk.cellTop _ _ _ _ _ (by simp)]; rfl
  have f0 : W.cell? ⟨w.heap.size + 1 + 1, 0, none⟩ = some (.bool false) := by rw [hW, Fk.cellOld _ _ _ _ (by simp <;> omega), Fk.cellTop _ _ _ _ _ (by simp)]; rfl
  have f1 : W.cell? ⟨w.heap.size + 1 + 1, 1, none⟩ = some (.int .i64 0) := by rw [hW, Fk.cellOld _ _ _ _ (by simp <;> omega), Fk.cellTop _ _ _ _ _ (by simp)]; rfl
  have s0 : W.cell? ⟨w.heap.size + 1 + 1 + 1, 0, none⟩ = some (.bool true) := by rw [hW, Fk.cellTop _ _ _ _ _ (by simp)]; rfl
  have s1 : W.cell? ⟨w.heap.size + 1 + 1 + 1, 1, none⟩ = some (.bool false) := by rw [hW, Fk.cellTop _ _ _ _ _ (by simp)]; rfl
  have hf1 : ∀ j, W.frozen? ⟨w.heap.size + 1, j, none⟩ = false := fun j => by rw [hW, Fk.frozOld _ _ _ _ (by simp <;> omega), Fk.frozOld _ _ _ _ (by simp <;> omega), Fk.frozTop _ _ _ _ _ (by simp)]
  have hf2 : ∀ j, W.frozen? ⟨w.heap.size + 1 + 1, j, none⟩ = false := fun j => by rw [hW, Fk.frozOld _ _ _ _ (by simp <;> omega), Fk.frozTop _ _ _ _ _ (by simp)]
  have hz : W.heap.size = w.heap.size + 4 := by rw [hW]; simp
  have HW := Fk.hide hW
  clear hW
  go_enter Try.func67, Try.ntmps67
  go_wp2_with fail
  go_step3
  go_wp2_with fail
  go_step3
  go_wp2_with fail
  rw [← HW.out]
  go_loopw [7, 15] (fun th i wr => ∃ t : Nat, t ≤ 2 ∧ th = .bool false ∧ i = .int .i64 t ∧ Hid ((0 < t → Ob.lacks B id B.length) ∧ (1 < t → Ob.lacks A id A.length)) ∧ Below W.heap.size W wr) (fun _ i _ => 2 - (intOf i).toNat)
  case atStart => exact ⟨0, by omega, rfl, rfl, ⟨fun h => absurd h (by omega), fun h => absurd h (by omega)⟩, Below.refl _ _⟩
  case round =>
    obtain ⟨t, ht, rfl, rfl, HT, bel⟩ := hrel
    obtain ⟨wo, hwo⟩ : ∃ x, x = wr := ⟨_, rfl⟩
    subst hwo
    rcases (by omega : t = 0 ∨ t = 1 ∨ t = 2) with rfl | rfl | rfl
    · skip
      have c0o := (bel.cell (p := ⟨w.heap.size, 0, none⟩) (by show w.heap.size < _; omega)).trans c0
      have c1o := (bel.cell (p := ⟨w.heap.size, 1, none⟩) (by show w.heap.size < _; omega)).trans c1
      have c2o := (bel.cell (p := ⟨w.heap.size, 2, none⟩) (by show w.heap.size < _; omega)).trans c2
      have r0o := (bel.cell (p := ⟨w.heap.size + 1, 0, none⟩) (by show w.heap.size + 1 < _; omega)).trans r0
      have r1o := (bel.cell (p := ⟨w.heap.size + 1, 1, none⟩) (by show w.heap.size + 1 < _; omega)).trans r1
      have f0o := (bel.cell (p := ⟨w.heap.size + 1 + 1, 0, none⟩) (by show w.heap.size + 1 + 1 < _; omega)).trans f0
      have f1o := (bel.cell (p := ⟨w.heap.size + 1 + 1, 1, none⟩) (by show w.heap.size + 1 + 1 < _; omega)).trans f1
      have s0o := (bel.cell (p := ⟨w.heap.size + 1 + 1 + 1, 0, none⟩) (by show w.heap.size + 1 + 1 + 1 < _; omega)).trans s0
      have s1o := (bel.cell (p := ⟨w.heap.size + 1 + 1 + 1, 1, none⟩) (by show w.heap.size + 1 + 1 + 1 < _; omega)).trans s1
      go_wp2_with fail
      refine (sideOf_any _ _ _ true _).mono ?_
      simp only [Ob.pick]
      rintro e w1 ⟨rfl, k1⟩
      have bW1 : Below W.heap.size W w1 := bel.trans (k1.mono bel.size)
      have B1 : Below w.heap.size w w1 := b0.trans (bW1.mono b0.size)
      have hz1 : w.heap.size + 4 ≤ w1.heap.size := by rw [← hz]; exact bW1.size
      clear k1 c0o c1o c2o r0o r1o f0o f1o s0o s1o
      go_wp2_with fail
      go_loopw [7, 23] (fun th i wr => ∃ k : Nat, k ≤ B.length ∧ th = .bool false ∧ i = .int .i64 k ∧ Hid (Ob.lacks B id k) ∧ Below w1.heap.size w1 wr) (fun _ i _ => B.length - (intOf i).toNat)
      case atStart => exact ⟨0, Nat.zero_le _, rfl, rfl, fun j hj => absurd hj (by omega), Below.refl _ _⟩
      case round =>
        obtain ⟨k, hk, rfl, rfl, HK, beli⟩ := hrel
        obtain ⟨wi, hwi⟩ : ∃ x, x = wr := ⟨_, rfl⟩
        subst hwi
        have bWi : Below W.heap.size W wi := bW1.trans (beli.mono bW1.size)
        have Bi : Below w.heap.size w wi := B1.trans (beli.mono B1.size)
        have hzi : w.heap.size + 4 ≤ wi.heap.size := Nat.le_trans hz1 beli.size
        by_cases hlt : k < B.length
        · obtain ⟨vb, vo, rfl, hvb, hsL⟩ := hs0 (by omega)
          have hs' := hsL.below hvb Bi
          have q0 := Or.c0 hs' hlt
          have q1 := Or.c1 hs' hlt
          have q2 := Or.c2 hs' hlt
          have q3 := Or.c3 hs' hlt
          have q4 := Or.c4 hs' hlt
          have q5 := Or.c5 hs' hlt
          have q6 := Or.c6 hs' hlt
          have q7 := Or.c7 hs' hlt
          obtain ⟨f, hf⟩ : ∃ f, f = Rk.at_ Or.S B k := ⟨_, rfl⟩
          have HF := Fk.hide hf
          rw [← hf] at q0 q1 q2 q3 q4 q5 q6 q7
          clear hf hs'
          have bX : Below wi.heap.size wi (wi.alloc (.cells #[.int .i64 f.1, .int .i64 f.2.1, .int .i64 f.2.2.1, .int .i64 f.2.2.2.1, .bool f.2.2.2.2.1, .int .i64 f.2.2.2.2.2.1, .int .i64 f.2.2.2.2.2.2.1, .bool f.2.2.2.2.2.2.2] 40)) := (Below.refl _ _).alloc (Nat.le_refl _) _
          have HBX : Hid (Below w1.heap.size w1 (wi.alloc (.cells #[.int .i64 f.1, .int .i64 f.2.1, .int .i64 f.2.2.1, .int .i64 f.2.2.2.1, .bool f.2.2.2.2.1, .int .i64 f.2.2.2.2.2.1, .int .i64 f.2.2.2.2.2.2.1, .bool f.2.2.2.2.2.2.2] 40))) := beli.trans (bX.mono beli.size)
          have HBw : Hid (Below w.heap.size w (wi.alloc (.cells #[.int .i64 f.1, .int .i64 f.2.1, .int .i64 f.2.2.1, .int .i64 f.2.2.2.1, .bool f.2.2.2.2.1, .int .i64 f.2.2.2.2.2.1, .int .i64 f.2.2.2.2.2.2.1, .bool f.2.2.2.2.2.2.2] 40))) := Bi.trans (bX.mono Bi.size)
          have bWX : Below W.heap.size W (wi.alloc (.cells #[.int .i64 f.1, .int .i64 f.2.1, .int .i64 f.2.2.1, .int .i64 f.2.2.2.1, .bool f.2.2.2.2.1, .int .i64 f.2.2.2.2.2.1, .int .i64 f.2.2.2.2.2.2.1, .bool f.2.2.2.2.2.2.2] 40)) := bWi.trans (bX.mono bWi.size)
          have r0x := (bWX.cell (p := ⟨w.heap.size + 1, 0, none⟩) (by show w.heap.size + 1 < _; omega)).trans r0
          have r1x := (bWX.cell (p := ⟨w.heap.size + 1, 1, none⟩) (by show w.heap.size + 1 < _; omega)).trans r1
          have f0x := (bWX.cell (p := ⟨w.heap.size + 1 + 1, 0, none⟩) (by show w.heap.size + 1 + 1 < _; omega)).trans f0
          have f1x := (bWX.cell (p := ⟨w.heap.size + 1 + 1, 1, none⟩) (by show w.heap.size + 1 + 1 < _; omega)).trans f1
          have g1 : ∀ j, (wi.alloc (.cells #[.int .i64 f.1, .int .i64 f.2.1, .int .i64 f.2.2.1, .int .i64 f.2.2.2.1, .bool f.2.2.2.2.1, .int .i64 f.2.2.2.2.2.1, .int .i64 f.2.2.2.2.2.2.1, .bool f.2.2.2.2.2.2.2] 40)).frozen? ⟨w.heap.size + 1, j, none⟩ = false := fun j => (bWX.frozen (by show w.heap.size + 1 < _; omega)).trans (hf1 j)
          have g2 : ∀ j, (wi.alloc (.cells #[.int .i64 f.1, .int .i64 f.2.1, .int .i64 f.2.2.1, .int .i64 f.2.2.2.1, .bool f.2.2.2.2.1, .int .i64 f.2.2.2.2.2.1, .int .i64 f.2.2.2.2.2.2.1, .bool f.2.2.2.2.2.2.2] 40)).frozen? ⟨w.heap.size + 1 + 1, j, none⟩ = false := fun j => (bWX.frozen (by show w.heap.size + 1 + 1 < _; omega)).trans (hf2 j)
          clear bX bWX
          by_cases heq : f.1 = id
          · have HH : Hid (Ob.hits B id k) := ⟨hlt, by unfold Ob.at'; rw [← HF.out, heq], HK.out⟩
            rw [heq] at r0x r1x f0x f1x HBw
            simp only [heq] at g1 g2
            go_wp2_with fail
            rw [Exit.noGoto_ret]
            refine bodyPost_ret (v := .tuple #[.agg #[.bool true, .int .i64 (k : Int)], .bool true]) (by simp [results, Try.results67, go_sem, r0x, r1x, f0x, f1x] <;> rfl) rfl ⟨⟨_, _, _, rfl, .inl ⟨rfl, k, rfl, .inl ⟨rfl, HH.out⟩⟩⟩, ?_⟩
            repeat (refine Below.setCell ?_ (by simp <;> omega) _)
            exact HBw.out
          · go_wp2_with fail
            go_roundw
            case rel =>
              refine ⟨k + 1, by omega, rfl, by go_num, (fun j hj => ?_), HBX.out⟩
              by_cases e : j = k
              · rw [e]; intro h; exact heq (by rw [HF.out]; exact h)
              · exact HK.out j (by omega)
            case measure => simp [intOf]; omega
        · have e : k = B.length := by omega
          subst e
          go_wp2_with fail
          go_roundw
          case rel => exact ⟨0 + 1, by omega, rfl, by go_num, ⟨fun _ => HK.out, fun h => absurd h (by omega)⟩, bWi⟩
          case measure => simp [intOf]
    · skip
      have c0o := (bel.cell (p := ⟨w.heap.size, 0, none⟩) (by show w.heap.size < _; omega)).trans c0
      have c1o := (bel.cell (p := ⟨w.heap.size, 1, none⟩) (by show w.heap.size < _; omega)).trans c1
      have c2o := (bel.cell (p := ⟨w.heap.size, 2, none⟩) (by show w.heap.size < _; omega)).trans c2
      have r0o := (bel.cell (p := ⟨w.heap.size + 1, 0, none⟩) (by show w.heap.size + 1 < _; omega)).trans r0
      have r1o := (bel.cell (p := ⟨w.heap.size + 1, 1, none⟩) (by show w.heap.size + 1 < _; omega)).trans r1
      have f0o := (bel.cell (p := ⟨w.heap.size + 1 + 1, 0, none⟩) (by show w.heap.size + 1 + 1 < _; omega)).trans f0
      have f1o := (bel.cell (p := ⟨w.heap.size + 1 + 1, 1, none⟩) (by show w.heap.size + 1 + 1 < _; omega)).trans f1
      have s0o := (bel.cell (p := ⟨w.heap.size + 1 + 1 + 1, 0, none⟩) (by show w.heap.size + 1 + 1 + 1 < _; omega)).trans s0
      have s1o := (bel.cell (p := ⟨w.heap.size + 1 + 1 + 1, 1, none⟩) (by show w.heap.size + 1 + 1 + 1 < _; omega)).trans s1
      go_wp2_with fail
      refine (sideOf_any _ _ _ false _).mono ?_
      simp only [Ob.pick]
      rintro e w1 ⟨rfl, k1⟩
      have bW1 : Below W.heap.size W w1 := bel.trans (k1.mono bel.size)
      have B1 : Below w.heap.size w w1 := b0.trans (bW1.mono b0.size)
      have hz1 : w.heap.size + 4 ≤ w1.heap.size := by rw [← hz]; exact bW1.size
      clear k1 c0o c1o c2o r0o r1o f0o f1o s0o s1o
      go_wp2_with fail
      go_loopw [7, 23] (fun th i wr => ∃ k : Nat, k ≤ A.length ∧ th = .bool false ∧ i = .int .i64 k ∧ Hid (Ob.lacks A id k) ∧ Below w1.heap.size w1 wr) (fun _ i _ => A.length - (intOf i).toNat)
      case atStart => exact ⟨0, Nat.zero_le _, rfl, rfl, fun j hj => absurd hj (by omega), Below.refl _ _⟩
      case round =>
        obtain ⟨k, hk, rfl, rfl, HK, beli⟩ := hrel
        obtain ⟨wi, hwi⟩ : ∃ x, x = wr := ⟨_, rfl⟩
        subst hwi
        have bWi : Below W.heap.size W wi := bW1.trans (beli.mono bW1.size)
        have Bi : Below w.heap.size w wi := B1.trans (beli.mono B1.size)
        have hzi : w.heap.size + 4 ≤ wi.heap.size := Nat.le_trans hz1 beli.size
        by_cases hlt : k < A.length
        · obtain ⟨vb, vo, rfl, hvb, hsL⟩ := hs1 (by omega)
          have hs' := hsL.below hvb Bi
          have q0 := Or.c0 hs' hlt
          have q1 := Or.c1 hs' hlt
          have q2 := Or.c2 hs' hlt
          have q3 := Or.c3 hs' hlt
          have q4 := Or.c4 hs' hlt
          have q5 := Or.c5 hs' hlt
          have q6 := Or.c6 hs' hlt
          have q7 := Or.c7 hs' hlt
          obtain ⟨f, hf⟩ : ∃ f, f = Rk.at_ Or.S A k := ⟨_, rfl⟩
          have HF := Fk.hide hf
          rw [← hf] at q0 q1 q2 q3 q4 q5 q6 q7
          clear hf hs'
          have bX : Below wi.heap.size wi (wi.alloc (.cells #[.int .i64 f.1, .int .i64 f.2.1, .int .i64 f.2.2.1, .int .i64 f.2.2.2.1, .bool f.2.2.2.2.1, .int .i64 f.2.2.2.2.2.1, .int .i64 f.2.2.2.2.2.2.1, .bool f.2.2.2.2.2.2.2] 40)) := (Below.refl _ _).alloc (Nat.le_refl _) _
          have HBX : Hid (Below w1.heap.size w1 (wi.alloc (.cells #[.int .i64 f.1, .int .i64 f.2.1, .int .i64 f.2.2.1, .int .i64 f.2.2.2.1, .bool f.2.2.2.2.1, .int .i64 f.2.2.2.2.2.1, .int .i64 f.2.2.2.2.2.2.1, .bool f.2.2.2.2.2.2.2] 40))) := beli.trans (bX.mono beli.size)
          have HBw : Hid (Below w.heap.size w (wi.alloc (.cells #[.int .i64 f.1, .int .i64 f.2.1, .int .i64 f.2.2.1, .int .i64 f.2.2.2.1, .bool f.2.2.2.2.1, .int .i64 f.2.2.2.2.2.1, .int .i64 f.2.2.2.2.2.2.1, .bool f.2.2.2.2.2.2.2] 40))) := Bi.trans (bX.mono Bi.size)
          have bWX : Below W.heap.size W (wi.alloc (.cells #[.int .i64 f.1, .int .i64 f.2.1, .int .i64 f.2.2.1, .int .i64 f.2.2.2.1, .bool f.2.2.2.2.1, .int .i64 f.2.2.2.2.2.1, .int .i64 f.2.2.2.2.2.2.1, .bool f.2.2.2.2.2.2.2] 40)) := bWi.trans (bX.mono bWi.size)
          have r0x := (bWX.cell (p := ⟨w.heap.size + 1, 0, none⟩) (by show w.heap.size + 1 < _; omega)).trans r0
          have r1x := (bWX.cell (p := ⟨w.heap.size + 1, 1, none⟩) (by show w.heap.size + 1 < _; omega)).trans r1
          have f0x := (bWX.cell (p := ⟨w.heap.size + 1 + 1, 0, none⟩) (by show w.heap.size + 1 + 1 < _; omega)).trans f0
          have f1x := (bWX.cell (p := ⟨w.heap.size + 1 + 1, 1, none⟩) (by show w.heap.size + 1 + 1 < _; omega)).trans f1
          have g1 : ∀ j, (wi.alloc (.cells #[.int .i64 f.1, .int .i64 f.2.1, .int .i64 f.2.2.1, .int .i64 f.2.2.2.1, .bool f.2.2.2.2.1, .int .i64 f.2.2.2.2.2.1, .int .i64 f.2.2.2.2.2.2.1, .bool f.2.2.2.2.2.2.2] 40)).frozen? ⟨w.heap.size + 1, j, none⟩ = false := fun j => (bWX.frozen (by show w.heap.size + 1 < _; omega)).trans (hf1 j)
          have g2 : ∀ j, (wi.alloc (.cells #[.int .i64 f.1, .int .i64 f.2.1, .int .i64 f.2.2.1, .int .i64 f.2.2.2.1, .bool f.2.2.2.2.1, .int .i64 f.2.2.2.2.2.1, .int .i64 f.2.2.2.2.2.2.1, .bool f.2.2.2.2.2.2.2] 40)).frozen? ⟨w.heap.size + 1 + 1, j, none⟩ = false := fun j => (bWX.frozen (by show w.heap.size + 1 + 1 < _; omega)).trans (hf2 j)
          clear bX bWX
          by_cases heq : f.1 = id
          · have HH : Hid (Ob.hits A id k) := ⟨hlt, by unfold Ob.at'; rw [← HF.out, heq], HK.out⟩
            rw [heq] at r0x r1x f0x f1x HBw
            simp only [heq] at g1 g2
            go_wp2_with fail
            rw [Exit.noGoto_ret]
            refine bodyPost_ret (v := .tuple #[.agg #[.bool false, .int .i64 (k : Int)], .bool true]) (by simp [results, Try.results67, go_sem, r0x, r1x, f0x, f1x] <;> rfl) rfl ⟨⟨_, _, _, rfl, .inl ⟨rfl, k, rfl, .inr ⟨rfl, HT.out.1 (by omega), HH.out⟩⟩⟩, ?_⟩
            repeat (refine Below.setCell ?_ (by simp <;> omega) _)
            exact HBw.out
          · go_wp2_with fail
            go_roundw
            case rel =>
              refine ⟨k + 1, by omega, rfl, by go_num, (fun j hj => ?_), HBX.out⟩
              by_cases e : j = k
              · rw [e]; intro h; exact heq (by rw [HF.out]; exact h)
              · exact HK.out j (by omega)
            case measure => simp [intOf]; omega
        · have e : k = A.length := by omega
          subst e
          go_wp2_with fail
          go_roundw
          case rel => exact ⟨1 + 1, by omega, rfl, by go_num, ⟨fun _ => HT.out.1 (by omega), fun _ => HK.out⟩, bWi⟩
          case measure => simp [intOf]
    · have hB := HT.out.1 (by omega)
      have hA := HT.out.2 (by omega)
      have HN := Fk.hide (⟨hB, hA⟩ : _ ∧ _)
      clear hB hA
      have HBo : Hid (Below w.heap.size w wo) := b0.trans (bel.mono b0.size)
      have r0x := (bel.cell (p := ⟨w.heap.size + 1, 0, none⟩) (by show w.heap.size + 1 < _; omega)).trans r0
      have r1x := (bel.cell (p := ⟨w.heap.size + 1, 1, none⟩) (by show w.heap.size + 1 < _; omega)).trans r1
      have f0x := (bel.cell (p := ⟨w.heap.size + 1 + 1, 0, none⟩) (by show w.heap.size + 1 + 1 < _; omega)).trans f0
      have f1x := (bel.cell (p := ⟨w.heap.size + 1 + 1, 1, none⟩) (by show w.heap.size + 1 + 1 < _; omega)).trans f1
      have g1 : ∀ j, wo.frozen? ⟨w.heap.size + 1, j, none⟩ = false := fun j => (bel.frozen (by show w.heap.size + 1 < _; omega)).trans (hf1 j)
      go_wp2_with fail
      rw [Exit.noGoto_ret]
      refine bodyPost_ret (v := .tuple #[.agg #[.bool false, .int .i64 0], .bool false]) (by simp [results, Try.results67, go_sem, r0x, r1x, f0x, f1x] <;> rfl) rfl ⟨⟨_, _, _, rfl, .inr ⟨rfl, HN.out.1, HN.out.2⟩⟩, ?_⟩
      repeat (refine Below.setCell ?_ (by simp <;> omega) _)
      exact HBo.out
end Go.Proofs.Ytgjapebjbgkhcaa
