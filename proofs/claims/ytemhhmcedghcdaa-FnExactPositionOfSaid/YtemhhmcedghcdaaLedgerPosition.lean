/- The walks of positions and of evenness, on both sides. -/
import Derived.Test.YtemhhmcedghcdaaProg
import Derived.Test.YtemhhmcedghcdaaLedgerMath
import Derived.Test.YtemhhmcedghcdaaLedgerRightSpec
import Derived.Test.YtemhhmcedghcdaaLedgerRightImpl
import Derived.WalkKit
import Derived.WalkSpells
import Derived.WalkLawsBesides
import Derived.BigRegion
import Derived.BigQuiet
import Derived.Deep.RegionWith
import Derived.Lib.QuietBelow
namespace Go.Proofs.Ytemhhmcedghcdaa
open Go.RowKit
set_option linter.unusedVariables false
set_option linter.unusedSimpArgs false

set_option maxHeartbeats 400000 in
theorem counts_owner (f : En.E) (owner : Int) (pb : Nat) (w : World) (hb : pb < w.heap.size) (hc : w.cell? ⟨pb, 0, none⟩ = some (.int .i64 owner)) :
    Calls Try.prog 56 #[.agg #[.int .i64 f.1, .int .i64 f.2.1, .bool f.2.2.1, .int .i64 f.2.2.2.1, .int .i64 f.2.2.2.2.1, .int .i64 f.2.2.2.2.2.1, .int .i64 f.2.2.2.2.2.2], .pointer (some ⟨pb, 0, none⟩)] w fun e w' => e = .returned (.bool (decide (f.2.1 = owner))) ∧ Below w.heap.size w w' := by
  have HB : Hid (∀ o, Below w.heap.size w (w.alloc o)) := fun o => (Below.refl w.heap.size w).alloc (Nat.le_refl _) o
  have lc : (w.alloc (.cells #[.int .i64 f.1, .int .i64 f.2.1, .bool f.2.2.1, .int .i64 f.2.2.2.1, .int .i64 f.2.2.2.2.1, .int .i64 f.2.2.2.2.2.1, .int .i64 f.2.2.2.2.2.2] 47)).cell? ⟨pb, 0, none⟩ = some (.int .i64 owner) := by rw [Fk.cellOld _ _ _ _ hb]; exact hc
  go_enter Try.func56, Try.ntmps56
  go_wp2_with fail
  go_ret
  exact ⟨rfl, HB.out _⟩

set_option maxRecDepth 100000 in
set_option maxHeartbeats 8000000 in
theorem positionIn_owner (v : Value) (L : List En.E) (owner : Int) (pb : Nat) (w : World) (hv : Rk.View En.S w v L) (hr : Lg.right L = true) (hpb : pb < w.heap.size) (hpc : w.cell? ⟨pb, 0, none⟩ = some (.int .i64 owner)) :
    Calls Try.prog 55 #[v, .func (.func 56) #[] #[.pointer (some ⟨pb, 0, none⟩)]] w fun e w' => e = .returned (.agg #[.int .i64 (Lg.posn (fun f => decide (f.2.1 = owner)) L).1, .int .i64 (Lg.posn (fun f => decide (f.2.1 = owner)) L).2.1, .int .i64 (Lg.posn (fun f => decide (f.2.1 = owner)) L).2.2.1, .int .i64 (Lg.posn (fun f => decide (f.2.1 = owner)) L).2.2.2]) ∧ Below w.heap.size w w' := by
  obtain ⟨W, hW⟩ : ∃ W, W = (w.alloc (.cells #[.int .i64 0, .int .i64 0, .int .i64 0, .int .i64 0] 53)).alloc (.cells #[.int .i64 0, .int .i64 0, .int .i64 0, .int .i64 0] 53) := ⟨_, rfl⟩
  have b0 : Below w.heap.size w W := by rw [hW]; exact ((Below.refl _ _).alloc (Nat.le_refl _) _).alloc (by simp) _
  have hz : W.heap.size = w.heap.size + 2 := by rw [hW]; simp
  have HZ0 : Hid (W.cell? ⟨w.heap.size, 0, none⟩ = some (.int .i64 0)) := by show _ = _; rw [hW, Fk.cellOld _ _ _ _ (by simp), Fk.cellTop _ _ _ _ _ (by simp)]; rfl
  have HZ1 : Hid (W.cell? ⟨w.heap.size, 1, none⟩ = some (.int .i64 0)) := by show _ = _; rw [hW, Fk.cellOld _ _ _ _ (by simp), Fk.cellTop _ _ _ _ _ (by simp)]; rfl
  have HZ2 : Hid (W.cell? ⟨w.heap.size, 2, none⟩ = some (.int .i64 0)) := by show _ = _; rw [hW, Fk.cellOld _ _ _ _ (by simp), Fk.cellTop _ _ _ _ _ (by simp)]; rfl
  have HZ3 : Hid (W.cell? ⟨w.heap.size, 3, none⟩ = some (.int .i64 0)) := by show _ = _; rw [hW, Fk.cellOld _ _ _ _ (by simp), Fk.cellTop _ _ _ _ _ (by simp)]; rfl
  have HZF : Hid (∀ j, W.frozen? ⟨w.heap.size, j, none⟩ = false) := fun j => by rw [hW, Fk.frozOld _ _ _ _ (by simp), Fk.frozTop _ _ _ _ _ (by simp)]
  have p0 : W.cell? ⟨w.heap.size + 1, 0, none⟩ = some (.int .i64 0) := by rw [hW, Fk.cellTop _ _ _ _ _ (by simp)]; rfl
  have p1 : W.cell? ⟨w.heap.size + 1, 1, none⟩ = some (.int .i64 0) := by rw [hW, Fk.cellTop _ _ _ _ _ (by simp)]; rfl
  have p2 : W.cell? ⟨w.heap.size + 1, 2, none⟩ = some (.int .i64 0) := by rw [hW, Fk.cellTop _ _ _ _ _ (by simp)]; rfl
  have p3 : W.cell? ⟨w.heap.size + 1, 3, none⟩ = some (.int .i64 0) := by rw [hW, Fk.cellTop _ _ _ _ _ (by simp)]; rfl
  have pf : ∀ j, W.frozen? ⟨w.heap.size + 1, j, none⟩ = false := fun j => by rw [hW, Fk.frozTop _ _ _ _ _ (by simp)]
  obtain ⟨P, hP⟩ : ∃ P : En.E → Bool, P = (fun f => decide (f.2.1 = owner)) := ⟨_, rfl⟩
  have HCALL : Hid (∀ f (W2 : World), (∀ k, k < w.heap.size → W2.heap[k]? = w.heap[k]?) → w.heap.size ≤ W2.heap.size → Calls Try.prog 56 #[.agg #[.int .i64 f.1, .int .i64 f.2.1, .bool f.2.2.1, .int .i64 f.2.2.2.1, .int .i64 f.2.2.2.2.1, .int .i64 f.2.2.2.2.2.1, .int .i64 f.2.2.2.2.2.2], .pointer (some ⟨pb, 0, none⟩)] W2 fun e w' => e = .returned (.bool (P f)) ∧ Below W2.heap.size W2 w') := fun f W2 hk hsz => by rw [hP]; exact counts_owner f owner pb W2 (by omega) ((World.cell?_of_block (a := ⟨pb, 0, none⟩) (hk pb hpb)).trans hpc)
  rw [← hP]
  clear hP
  have HV := Fk.hide hv
  have hl60 : L.length ≤ 60 := (Lg.right_inv hr).1
  have HRI := Fk.hide (Lg.right_inv hr).2.1
  have HPB := Fk.hide (Lg.posn_bound P hr)
  obtain ⟨a, cap, rfl, hs⟩ := hv
  have HW := Fk.hide hW
  clear hW hr
  go_enter Try.func55, Try.ntmps55
  go_wp2_with fail
  rw [← HW.out]
  have HB0 := Fk.hide b0
  go_loopw [10] (fun i wr => ∃ (k : Nat) (p : Lg.P), k ≤ L.length ∧ i = .int .i64 k ∧ Hid (p = Lg.posn P (L.take k)) ∧ wr.cell? ⟨w.heap.size + 1, 0, none⟩ = some (.int .i64 p.1) ∧ wr.cell? ⟨w.heap.size + 1, 1, none⟩ = some (.int .i64 p.2.1) ∧ wr.cell? ⟨w.heap.size + 1, 2, none⟩ = some (.int .i64 p.2.2.1) ∧ wr.cell? ⟨w.heap.size + 1, 3, none⟩ = some (.int .i64 p.2.2.2) ∧ (∀ j, wr.frozen? ⟨w.heap.size + 1, j, none⟩ = false) ∧ Below (w.heap.size + 1) W wr) (fun i _ => L.length - (intOf i).toNat)
  case atStart => exact ⟨0, (0, 0, 0, 0), Nat.zero_le _, rfl, rfl, p0, p1, p2, p3, pf, Below.refl _ _⟩
  case round =>
    clear p0 p1 p2 p3 pf
    obtain ⟨k, p, hk, rfl, HP, p0, p1, p2, p3, pf, bel⟩ := hrel
    have B3 : Below w.heap.size w wr := HB0.out.trans (bel.mono (Nat.le_succ _))
    have hz3 : w.heap.size + 2 ≤ wr.heap.size := by rw [← hz]; exact bel.size
    have hbd := HPB.out k hk
    rw [← HP.out] at hbd
    by_cases hlt : k < L.length
    · obtain ⟨b, o, rfl, hb, hs1⟩ := hs (by omega)
      have hs' := hs1.below hb B3
      have q0 := En.c0 hs' hlt
      have q1 := En.c1 hs' hlt
      have q2 := En.c2 hs' hlt
      have q3 := En.c3 hs' hlt
      have q4 := En.c4 hs' hlt
      have q5 := En.c5 hs' hlt
      have q6 := En.c6 hs' hlt
      have hok := Lg.ok_inv (HRI.out k hlt)
      have hst := Lg.posn_take P L k hlt
      rw [← HP.out] at hst
      unfold Lg.at' at hok hst
      obtain ⟨f, hf⟩ : ∃ f, f = Rk.at_ En.S L k := ⟨_, rfl⟩
      rw [← hf] at q0 q1 q2 q3 q4 q5 q6 hok hst
      clear hf hs' HP
      have HST := Fk.hide hst
      clear hst
      obtain ⟨W2, hW2⟩ : ∃ W2, W2 = wr.alloc (.cells #[.int .i64 f.1, .int .i64 f.2.1, .bool f.2.2.1, .int .i64 f.2.2.2.1, .int .i64 f.2.2.2.2.1, .int .i64 f.2.2.2.2.2.1, .int .i64 f.2.2.2.2.2.2] 47) := ⟨_, rfl⟩
      have bX : Below wr.heap.size wr W2 := by rw [hW2]; exact (Below.refl _ _).alloc (Nat.le_refl _) _
      have x0 : W2.cell? ⟨wr.heap.size, 0, none⟩ = some (.int .i64 f.1) := by rw [hW2, Fk.cellTop _ _ _ _ _ rfl]; rfl
      have x1 : W2.cell? ⟨wr.heap.size, 1, none⟩ = some (.int .i64 f.2.1) := by rw [hW2, Fk.cellTop _ _ _ _ _ rfl]; rfl
      have x2 : W2.cell? ⟨wr.heap.size, 2, none⟩ = some (.bool f.2.2.1) := by rw [hW2, Fk.cellTop _ _ _ _ _ rfl]; rfl
      have x3 : W2.cell? ⟨wr.heap.size, 3, none⟩ = some (.int .i64 f.2.2.2.1) := by rw [hW2, Fk.cellTop _ _ _ _ _ rfl]; rfl
      have x4 : W2.cell? ⟨wr.heap.size, 4, none⟩ = some (.int .i64 f.2.2.2.2.1) := by rw [hW2, Fk.cellTop _ _ _ _ _ rfl]; rfl
      have x5 : W2.cell? ⟨wr.heap.size, 5, none⟩ = some (.int .i64 f.2.2.2.2.2.1) := by rw [hW2, Fk.cellTop _ _ _ _ _ rfl]; rfl
      have x6 : W2.cell? ⟨wr.heap.size, 6, none⟩ = some (.int .i64 f.2.2.2.2.2.2) := by rw [hW2, Fk.cellTop _ _ _ _ _ rfl]; rfl
      have hzX : wr.heap.size < W2.heap.size := by rw [hW2]; simp
      have HW2 := Fk.hide hW2
      have HBX := Fk.hide bX
      clear hW2 bX
      go_wp2_with fail
      rw [← HW2.out]
      refine (HCALL.out f W2 (fun q hq => (HBX.out.block q (by omega)).trans (B3.block q hq)) (by have := HBX.out.size; omega)).mono ?_
      rintro e w2 ⟨rfl, k2⟩
      have HBW : Hid (Below wr.heap.size wr w2) := HBX.out.trans (k2.mono HBX.out.size)
      have HBE : Hid (Below (w.heap.size + 1) W w2) := bel.trans (HBW.out.mono (by omega))
      have y2 := (k2.cell (p := ⟨wr.heap.size, 2, none⟩) (by show wr.heap.size < _; omega)).trans x2
      have y4 := (k2.cell (p := ⟨wr.heap.size, 4, none⟩) (by show wr.heap.size < _; omega)).trans x4
      have y6 := (k2.cell (p := ⟨wr.heap.size, 6, none⟩) (by show wr.heap.size < _; omega)).trans x6
      have m0 := (HBW.out.cell (p := ⟨w.heap.size + 1, 0, none⟩) (by show w.heap.size + 1 < _; omega)).trans p0
      have m1 := (HBW.out.cell (p := ⟨w.heap.size + 1, 1, none⟩) (by show w.heap.size + 1 < _; omega)).trans p1
      have m2 := (HBW.out.cell (p := ⟨w.heap.size + 1, 2, none⟩) (by show w.heap.size + 1 < _; omega)).trans p2
      have m3 := (HBW.out.cell (p := ⟨w.heap.size + 1, 3, none⟩) (by show w.heap.size + 1 < _; omega)).trans p3
      have mf : ∀ j, w2.frozen? ⟨w.heap.size + 1, j, none⟩ = false := fun j => (HBW.out.frozen (by show w.heap.size + 1 < _; omega)).trans (pf j)
      clear k2 p0 p1 p2 p3 pf B3 bel q0 q1 q2 q3 q4 q5 q6 x0 x1 x2 x3 x4 x5 x6
      obtain ⟨c, hc⟩ : ∃ c, c = P f := ⟨_, rfl⟩
      have HC : Hid (c = P f) := hc
      rw [← hc]
      clear hc
      cases c with
      | false =>
        have HP2 : Hid (p = Lg.posn P (L.take (k + 1))) := by show _ = _; rw [HST.out]; exact (if_neg (by have := HC.out; simpa using this.symm)).symm
        go_wp2_with fail
        go_roundw
        case rel => exact ⟨k + 1, p, by omega, by go_num, HP2, m0, m1, m2, m3, mf, HBE.out⟩
        case measure => simp [intOf]; omega
      | true =>
        obtain ⟨f0, f1, f2, f3, f4, f5, f6⟩ := f
        obtain ⟨a0, a1, a2, a3⟩ := p
        have HST2 : Hid (Lg.posn P (L.take (k + 1)) = Lg.add (a0, a1, a2, a3) (f0, f1, f2, f3, f4, f5, f6)) := by show _ = _; rw [HST.out]; exact if_pos (by have := HC.out; simpa using this.symm)
        simp only at hok hbd m0 m1 m2 m3 y2 y4 y6
        obtain ⟨_, _, ⟨g0, g1⟩, ⟨g2, g3⟩, _, g4, g5⟩ := hok
        obtain ⟨⟨g6, g7⟩, ⟨g8, g9⟩, ⟨ga, gb⟩, gc, gd⟩ := hbd
        clear HC HST
        cases f2 with
        | true =>
          go_wp2_with fail
          go_roundw
          case rel =>
            refine ⟨k + 1, (a0 + f4, a1, a2 + f6, a3), by omega, by go_num, by show _ = _; rw [HST2.out]; rfl, ?_, ?_, ?_, ?_, fun j => by simp [mf], ?_⟩
            · simp [go_sem, m0, m1, m2, m3]
            · simp [go_sem, m0, m1, m2, m3]
            · simp [go_sem, m0, m1, m2, m3]
            · simp [go_sem, m0, m1, m2, m3]
            · exact (HBE.out.setCell (Nat.le_refl _) _).setCell (Nat.le_refl _) _
          case measure => simp [intOf]; omega
        | false =>
          go_wp2_with fail
          go_roundw
          case rel =>
            refine ⟨k + 1, (a0, a1 + f4, a2, a3 + f6), by omega, by go_num, by show _ = _; rw [HST2.out]; rfl, ?_, ?_, ?_, ?_, fun j => by simp [mf], ?_⟩
            · simp [go_sem, m0, m1, m2, m3]
            · simp [go_sem, m0, m1, m2, m3]
            · simp [go_sem, m0, m1, m2, m3]
            · simp [go_sem, m0, m1, m2, m3]
            · exact (HBE.out.setCell (Nat.le_refl _) _).setCell (Nat.le_refl _) _
          case measure => simp [intOf]; omega
    · have e : k = L.length := by omega
      have HP2 : Hid (p = Lg.posn P L) := by show _ = _; rw [HP.out, e, List.take_length]
      clear HP hbd
      have z0 := (bel.cell (p := ⟨w.heap.size, 0, none⟩) (by show w.heap.size < _; omega)).trans HZ0.out
      have z1 := (bel.cell (p := ⟨w.heap.size, 1, none⟩) (by show w.heap.size < _; omega)).trans HZ1.out
      have z2 := (bel.cell (p := ⟨w.heap.size, 2, none⟩) (by show w.heap.size < _; omega)).trans HZ2.out
      have z3 := (bel.cell (p := ⟨w.heap.size, 3, none⟩) (by show w.heap.size < _; omega)).trans HZ3.out
      have zf : ∀ j, wr.frozen? ⟨w.heap.size, j, none⟩ = false := fun j => (bel.frozen (by show w.heap.size < _; omega)).trans (HZF.out j)
      go_wp2_with fail
      rw [← HP2.out]
      refine bodyPost_ret (v := .agg #[.int .i64 p.1, .int .i64 p.2.1, .int .i64 p.2.2.1, .int .i64 p.2.2.2]) (by simp [results, Try.results55, go_sem, z0, z1, z2, z3] <;> rfl) rfl ⟨rfl, ?_⟩
      repeat (refine Below.setCell ?_ (by simp <;> omega) _)
      exact B3

set_option maxHeartbeats 400000 in
theorem counts_all (f : En.E) (w : World) :
    Calls Try.prog 57 #[.agg #[.int .i64 f.1, .int .i64 f.2.1, .bool f.2.2.1, .int .i64 f.2.2.2.1, .int .i64 f.2.2.2.2.1, .int .i64 f.2.2.2.2.2.1, .int .i64 f.2.2.2.2.2.2]] w fun e w' => e = .returned (.bool true) ∧ Below w.heap.size w w' := by
  have HB : Hid (∀ o, Below w.heap.size w (w.alloc o)) := fun o => (Below.refl w.heap.size w).alloc (Nat.le_refl _) o
  go_enter Try.func57, Try.ntmps57
  go_wp2_with fail
  go_ret
  exact ⟨rfl, HB.out _⟩

set_option maxRecDepth 100000 in
set_option maxHeartbeats 8000000 in
theorem positionIn_all (v : Value) (L : List En.E) (w : World) (hv : Rk.View En.S w v L) (hr : Lg.right L = true) :
    Calls Try.prog 55 #[v, .func (.func 57) #[] #[]] w fun e w' => e = .returned (.agg #[.int .i64 (Lg.posn (fun _ => true) L).1, .int .i64 (Lg.posn (fun _ => true) L).2.1, .int .i64 (Lg.posn (fun _ => true) L).2.2.1, .int .i64 (Lg.posn (fun _ => true) L).2.2.2]) ∧ Below w.heap.size w w' := by
  obtain ⟨W, hW⟩ : ∃ W, W = (w.alloc (.cells #[.int .i64 0, .int .i64 0, .int .i64 0, .int .i64 0] 53)).alloc (.cells #[.int .i64 0, .int .i64 0, .int .i64 0, .int .i64 0] 53) := ⟨_, rfl⟩
  have b0 : Below w.heap.size w W := by rw [hW]; exact ((Below.refl _ _).alloc (Nat.le_refl _) _).alloc (by simp) _
  have hz : W.heap.size = w.heap.size + 2 := by rw [hW]; simp
  have HZ0 : Hid (W.cell? ⟨w.heap.size, 0, none⟩ = some (.int .i64 0)) := by show _ = _; rw [hW, Fk.cellOld _ _ _ _ (by simp), Fk.cellTop _ _ _ _ _ (by simp)]; rfl
  have HZ1 : Hid (W.cell? ⟨w.heap.size, 1, none⟩ = some (.int .i64 0)) := by show _ = _; rw [hW, Fk.cellOld _ _ _ _ (by simp), Fk.cellTop _ _ _ _ _ (by simp)]; rfl
  have HZ2 : Hid (W.cell? ⟨w.heap.size, 2, none⟩ = some (.int .i64 0)) := by show _ = _; rw [hW, Fk.cellOld _ _ _ _ (by simp), Fk.cellTop _ _ _ _ _ (by simp)]; rfl
  have HZ3 : Hid (W.cell? ⟨w.heap.size, 3, none⟩ = some (.int .i64 0)) := by show _ = _; rw [hW, Fk.cellOld _ _ _ _ (by simp), Fk.cellTop _ _ _ _ _ (by simp)]; rfl
  have HZF : Hid (∀ j, W.frozen? ⟨w.heap.size, j, none⟩ = false) := fun j => by rw [hW, Fk.frozOld _ _ _ _ (by simp), Fk.frozTop _ _ _ _ _ (by simp)]
  have p0 : W.cell? ⟨w.heap.size + 1, 0, none⟩ = some (.int .i64 0) := by rw [hW, Fk.cellTop _ _ _ _ _ (by simp)]; rfl
  have p1 : W.cell? ⟨w.heap.size + 1, 1, none⟩ = some (.int .i64 0) := by rw [hW, Fk.cellTop _ _ _ _ _ (by simp)]; rfl
  have p2 : W.cell? ⟨w.heap.size + 1, 2, none⟩ = some (.int .i64 0) := by rw [hW, Fk.cellTop _ _ _ _ _ (by simp)]; rfl
  have p3 : W.cell? ⟨w.heap.size + 1, 3, none⟩ = some (.int .i64 0) := by rw [hW, Fk.cellTop _ _ _ _ _ (by simp)]; rfl
  have pf : ∀ j, W.frozen? ⟨w.heap.size + 1, j, none⟩ = false := fun j => by rw [hW, Fk.frozTop _ _ _ _ _ (by simp)]
  obtain ⟨P, hP⟩ : ∃ P : En.E → Bool, P = (fun _ => true) := ⟨_, rfl⟩
  have HCALL : Hid (∀ f (W2 : World), (∀ k, k < w.heap.size → W2.heap[k]? = w.heap[k]?) → w.heap.size ≤ W2.heap.size → Calls Try.prog 57 #[.agg #[.int .i64 f.1, .int .i64 f.2.1, .bool f.2.2.1, .int .i64 f.2.2.2.1, .int .i64 f.2.2.2.2.1, .int .i64 f.2.2.2.2.2.1, .int .i64 f.2.2.2.2.2.2]] W2 fun e w' => e = .returned (.bool (P f)) ∧ Below W2.heap.size W2 w') := fun f W2 hk hsz => by rw [hP]; exact counts_all f W2
  rw [← hP]
  clear hP
  have HV := Fk.hide hv
  have hl60 : L.length ≤ 60 := (Lg.right_inv hr).1
  have HRI := Fk.hide (Lg.right_inv hr).2.1
  have HPB := Fk.hide (Lg.posn_bound P hr)
  obtain ⟨a, cap, rfl, hs⟩ := hv
  have HW := Fk.hide hW
  clear hW hr
  go_enter Try.func55, Try.ntmps55
  go_wp2_with fail
  rw [← HW.out]
  have HB0 := Fk.hide b0
  go_loopw [10] (fun i wr => ∃ (k : Nat) (p : Lg.P), k ≤ L.length ∧ i = .int .i64 k ∧ Hid (p = Lg.posn P (L.take k)) ∧ wr.cell? ⟨w.heap.size + 1, 0, none⟩ = some (.int .i64 p.1) ∧ wr.cell? ⟨w.heap.size + 1, 1, none⟩ = some (.int .i64 p.2.1) ∧ wr.cell? ⟨w.heap.size + 1, 2, none⟩ = some (.int .i64 p.2.2.1) ∧ wr.cell? ⟨w.heap.size + 1, 3, none⟩ = some (.int .i64 p.2.2.2) ∧ (∀ j, wr.frozen? ⟨w.heap.size + 1, j, none⟩ = false) ∧ Below (w.heap.size + 1) W wr) (fun i _ => L.length - (intOf i).toNat)
  case atStart => exact ⟨0, (0, 0, 0, 0), Nat.zero_le _, rfl, rfl, p0, p1, p2, p3, pf, Below.refl _ _⟩
  case round =>
    clear p0 p1 p2 p3 pf
    obtain ⟨k, p, hk, rfl, HP, p0, p1, p2, p3, pf, bel⟩ := hrel
    have B3 : Below w.heap.size w wr := HB0.out.trans (bel.mono (Nat.le_succ _))
    have hz3 : w.heap.size + 2 ≤ wr.heap.size := by rw [← hz]; exact bel.size
    have hbd := HPB.out k hk
    rw [← HP.out] at hbd
    by_cases hlt : k < L.length
    · obtain ⟨b, o, rfl, hb, hs1⟩ := hs (by omega)
      have hs' := hs1.below hb B3
      have q0 := En.c0 hs' hlt
      have q1 := En.c1 hs' hlt
      have q2 := En.c2 hs' hlt
      have q3 := En.c3 hs' hlt
      have q4 := En.c4 hs' hlt
      have q5 := En.c5 hs' hlt
      have q6 := En.c6 hs' hlt
      have hok := Lg.ok_inv (HRI.out k hlt)
      have hst := Lg.posn_take P L k hlt
      rw [← HP.out] at hst
      unfold Lg.at' at hok hst
      obtain ⟨f, hf⟩ : ∃ f, f = Rk.at_ En.S L k := ⟨_, rfl⟩
      rw [← hf] at q0 q1 q2 q3 q4 q5 q6 hok hst
      clear hf hs' HP
      have HST := Fk.hide hst
      clear hst
      obtain ⟨W2, hW2⟩ : ∃ W2, W2 = wr.alloc (.cells #[.int .i64 f.1, .int .i64 f.2.1, .bool f.2.2.1, .int .i64 f.2.2.2.1, .int .i64 f.2.2.2.2.1, .int .i64 f.2.2.2.2.2.1, .int .i64 f.2.2.2.2.2.2] 47) := ⟨_, rfl⟩
      have bX : Below wr.heap.size wr W2 := by rw [hW2]; exact (Below.refl _ _).alloc (Nat.le_refl _) _
      have x0 : W2.cell? ⟨wr.heap.size, 0, none⟩ = some (.int .i64 f.1) := by rw [hW2, Fk.cellTop _ _ _ _ _ rfl]; rfl
      have x1 : W2.cell? ⟨wr.heap.size, 1, none⟩ = some (.int .i64 f.2.1) := by rw [hW2, Fk.cellTop _ _ _ _ _ rfl]; rfl
      have x2 : W2.cell? ⟨wr.heap.size, 2, none⟩ = some (.bool f.2.2.1) := by rw [hW2, Fk.cellTop _ _ _ _ _ rfl]; rfl
      have x3 : W2.cell? ⟨wr.heap.size, 3, none⟩ = some (.int .i64 f.2.2.2.1) := by rw [hW2, Fk.cellTop _ _ _ _ _ rfl]; rfl
      have x4 : W2.cell? ⟨wr.heap.size, 4, none⟩ = some (.int .i64 f.2.2.2.2.1) := by rw [hW2, Fk.cellTop _ _ _ _ _ rfl]; rfl
      have x5 : W2.cell? ⟨wr.heap.size, 5, none⟩ = some (.int .i64 f.2.2.2.2.2.1) := by rw [hW2, Fk.cellTop _ _ _ _ _ rfl]; rfl
      have x6 : W2.cell? ⟨wr.heap.size, 6, none⟩ = some (.int .i64 f.2.2.2.2.2.2) := by rw [hW2, Fk.cellTop _ _ _ _ _ rfl]; rfl
      have hzX : wr.heap.size < W2.heap.size := by rw [hW2]; simp
      have HW2 := Fk.hide hW2
      have HBX := Fk.hide bX
      clear hW2 bX
      go_wp2_with fail
      rw [← HW2.out]
      refine (HCALL.out f W2 (fun q hq => (HBX.out.block q (by omega)).trans (B3.block q hq)) (by have := HBX.out.size; omega)).mono ?_
      rintro e w2 ⟨rfl, k2⟩
      have HBW : Hid (Below wr.heap.size wr w2) := HBX.out.trans (k2.mono HBX.out.size)
      have HBE : Hid (Below (w.heap.size + 1) W w2) := bel.trans (HBW.out.mono (by omega))
      have y2 := (k2.cell (p := ⟨wr.heap.size, 2, none⟩) (by show wr.heap.size < _; omega)).trans x2
      have y4 := (k2.cell (p := ⟨wr.heap.size, 4, none⟩) (by show wr.heap.size < _; omega)).trans x4
      have y6 := (k2.cell (p := ⟨wr.heap.size, 6, none⟩) (by show wr.heap.size < _; omega)).trans x6
      have m0 := (HBW.out.cell (p := ⟨w.heap.size + 1, 0, none⟩) (by show w.heap.size + 1 < _; omega)).trans p0
      have m1 := (HBW.out.cell (p := ⟨w.heap.size + 1, 1, none⟩) (by show w.heap.size + 1 < _; omega)).trans p1
      have m2 := (HBW.out.cell (p := ⟨w.heap.size + 1, 2, none⟩) (by show w.heap.size + 1 < _; omega)).trans p2
      have m3 := (HBW.out.cell (p := ⟨w.heap.size + 1, 3, none⟩) (by show w.heap.size + 1 < _; omega)).trans p3
      have mf : ∀ j, w2.frozen? ⟨w.heap.size + 1, j, none⟩ = false := fun j => (HBW.out.frozen (by show w.heap.size + 1 < _; omega)).trans (pf j)
      clear k2 p0 p1 p2 p3 pf B3 bel q0 q1 q2 q3 q4 q5 q6 x0 x1 x2 x3 x4 x5 x6
      obtain ⟨c, hc⟩ : ∃ c, c = P f := ⟨_, rfl⟩
      have HC : Hid (c = P f) := hc
      rw [← hc]
      clear hc
      cases c with
      | false =>
        have HP2 : Hid (p = Lg.posn P (L.take (k + 1))) := by show _ = _; rw [HST.out]; exact (if_neg (by have := HC.out; simpa using this.symm)).symm
        go_wp2_with fail
        go_roundw
        case rel => exact ⟨k + 1, p, by omega, by go_num, HP2, m0, m1, m2, m3, mf, HBE.out⟩
        case measure => simp [intOf]; omega
      | true =>
        obtain ⟨f0, f1, f2, f3, f4, f5, f6⟩ := f
        obtain ⟨a0, a1, a2, a3⟩ := p
        have HST2 : Hid (Lg.posn P (L.take (k + 1)) = Lg.add (a0, a1, a2, a3) (f0, f1, f2, f3, f4, f5, f6)) := by show _ = _; rw [HST.out]; exact if_pos (by have := HC.out; simpa using this.symm)
        simp only at hok hbd m0 m1 m2 m3 y2 y4 y6
        obtain ⟨_, _, ⟨g0, g1⟩, ⟨g2, g3⟩, _, g4, g5⟩ := hok
        obtain ⟨⟨g6, g7⟩, ⟨g8, g9⟩, ⟨ga, gb⟩, gc, gd⟩ := hbd
        clear HC HST
        cases f2 with
        | true =>
          go_wp2_with fail
          go_roundw
          case rel =>
            refine ⟨k + 1, (a0 + f4, a1, a2 + f6, a3), by omega, by go_num, by show _ = _; rw [HST2.out]; rfl, ?_, ?_, ?_, ?_, fun j => by simp [mf], ?_⟩
            · simp [go_sem, m0, m1, m2, m3]
            · simp [go_sem, m0, m1, m2, m3]
            · simp [go_sem, m0, m1, m2, m3]
            · simp [go_sem, m0, m1, m2, m3]
            · exact (HBE.out.setCell (Nat.le_refl _) _).setCell (Nat.le_refl _) _
          case measure => simp [intOf]; omega
        | false =>
          go_wp2_with fail
          go_roundw
          case rel =>
            refine ⟨k + 1, (a0, a1 + f4, a2, a3 + f6), by omega, by go_num, by show _ = _; rw [HST2.out]; rfl, ?_, ?_, ?_, ?_, fun j => by simp [mf], ?_⟩
            · simp [go_sem, m0, m1, m2, m3]
            · simp [go_sem, m0, m1, m2, m3]
            · simp [go_sem, m0, m1, m2, m3]
            · simp [go_sem, m0, m1, m2, m3]
            · exact (HBE.out.setCell (Nat.le_refl _) _).setCell (Nat.le_refl _) _
          case measure => simp [intOf]; omega
    · have e : k = L.length := by omega
      have HP2 : Hid (p = Lg.posn P L) := by show _ = _; rw [HP.out, e, List.take_length]
      clear HP hbd
      have z0 := (bel.cell (p := ⟨w.heap.size, 0, none⟩) (by show w.heap.size < _; omega)).trans HZ0.out
      have z1 := (bel.cell (p := ⟨w.heap.size, 1, none⟩) (by show w.heap.size < _; omega)).trans HZ1.out
      have z2 := (bel.cell (p := ⟨w.heap.size, 2, none⟩) (by show w.heap.size < _; omega)).trans HZ2.out
      have z3 := (bel.cell (p := ⟨w.heap.size, 3, none⟩) (by show w.heap.size < _; omega)).trans HZ3.out
      have zf : ∀ j, wr.frozen? ⟨w.heap.size, j, none⟩ = false := fun j => (bel.frozen (by show w.heap.size < _; omega)).trans (HZF.out j)
      go_wp2_with fail
      rw [← HP2.out]
      refine bodyPost_ret (v := .agg #[.int .i64 p.1, .int .i64 p.2.1, .int .i64 p.2.2.1, .int .i64 p.2.2.2]) (by simp [results, Try.results55, go_sem, z0, z1, z2, z3] <;> rfl) rfl ⟨rfl, ?_⟩
      repeat (refine Below.setCell ?_ (by simp <;> omega) _)
      exact B3

set_option maxRecDepth 100000 in
set_option maxHeartbeats 8000000 in
theorem l11Position_any (v : Value) (L : List En.E) (owner : Int) (w : World) (hv : Rk.View En.S w v L) (hr : Lg.right L = true) :
    Calls Try.prog 54 #[v, .int .i64 owner] w fun e w' => e = .returned (.agg #[.int .i64 (Lg.posn (fun f => decide (owner = 0) || decide (f.2.1 = owner)) L).1, .int .i64 (Lg.posn (fun f => decide (owner = 0) || decide (f.2.1 = owner)) L).2.1, .int .i64 (Lg.posn (fun f => decide (owner = 0) || decide (f.2.1 = owner)) L).2.2.1, .int .i64 (Lg.posn (fun f => decide (owner = 0) || decide (f.2.1 = owner)) L).2.2.2]) ∧ Below w.heap.size w w' := by
  obtain ⟨W, hW⟩ : ∃ W, W = (w.alloc (.cells #[.int .i64 0, .int .i64 0, .int .i64 0, .int .i64 0] 53)).alloc (.cells #[.int .i64 0, .int .i64 0, .int .i64 0, .int .i64 0] 53) := ⟨_, rfl⟩
  have b0 : Below w.heap.size w W := by rw [hW]; exact ((Below.refl _ _).alloc (Nat.le_refl _) _).alloc (by simp) _
  have hz : W.heap.size = w.heap.size + 2 := by rw [hW]; simp
  have HZ0 : Hid (W.cell? ⟨w.heap.size, 0, none⟩ = some (.int .i64 0)) := by show _ = _; rw [hW, Fk.cellOld _ _ _ _ (by simp), Fk.cellTop _ _ _ _ _ (by simp)]; rfl
  have HZ1 : Hid (W.cell? ⟨w.heap.size, 1, none⟩ = some (.int .i64 0)) := by show _ = _; rw [hW, Fk.cellOld _ _ _ _ (by simp), Fk.cellTop _ _ _ _ _ (by simp)]; rfl
  have HZ2 : Hid (W.cell? ⟨w.heap.size, 2, none⟩ = some (.int .i64 0)) := by show _ = _; rw [hW, Fk.cellOld _ _ _ _ (by simp), Fk.cellTop _ _ _ _ _ (by simp)]; rfl
  have HZ3 : Hid (W.cell? ⟨w.heap.size, 3, none⟩ = some (.int .i64 0)) := by show _ = _; rw [hW, Fk.cellOld _ _ _ _ (by simp), Fk.cellTop _ _ _ _ _ (by simp)]; rfl
  have HZF : Hid (∀ j, W.frozen? ⟨w.heap.size, j, none⟩ = false) := fun j => by rw [hW, Fk.frozOld _ _ _ _ (by simp), Fk.frozTop _ _ _ _ _ (by simp)]
  have p0 : W.cell? ⟨w.heap.size + 1, 0, none⟩ = some (.int .i64 0) := by rw [hW, Fk.cellTop _ _ _ _ _ (by simp)]; rfl
  have p1 : W.cell? ⟨w.heap.size + 1, 1, none⟩ = some (.int .i64 0) := by rw [hW, Fk.cellTop _ _ _ _ _ (by simp)]; rfl
  have p2 : W.cell? ⟨w.heap.size + 1, 2, none⟩ = some (.int .i64 0) := by rw [hW, Fk.cellTop _ _ _ _ _ (by simp)]; rfl
  have p3 : W.cell? ⟨w.heap.size + 1, 3, none⟩ = some (.int .i64 0) := by rw [hW, Fk.cellTop _ _ _ _ _ (by simp)]; rfl
  have pf : ∀ j, W.frozen? ⟨w.heap.size + 1, j, none⟩ = false := fun j => by rw [hW, Fk.frozTop _ _ _ _ _ (by simp)]
  obtain ⟨P, hP⟩ : ∃ P : En.E → Bool, P = (fun f => decide (owner = 0) || decide (f.2.1 = owner)) := ⟨_, rfl⟩
  rw [← hP]
  have HPP := Fk.hide hP
  clear hP
  have HV := Fk.hide hv
  have hl60 : L.length ≤ 60 := (Lg.right_inv hr).1
  have HRI := Fk.hide (Lg.right_inv hr).2.1
  have HPB := Fk.hide (Lg.posn_bound P hr)
  obtain ⟨a, cap, rfl, hs⟩ := hv
  have HW := Fk.hide hW
  clear hW hr
  go_enter Try.func54, Try.ntmps54
  go_wp2_with fail
  rw [← HW.out]
  have HB0 := Fk.hide b0
  go_loopw [6] (fun i wr => ∃ (k : Nat) (p : Lg.P), k ≤ L.length ∧ i = .int .i64 k ∧ Hid (p = Lg.posn P (L.take k)) ∧ wr.cell? ⟨w.heap.size + 1, 0, none⟩ = some (.int .i64 p.1) ∧ wr.cell? ⟨w.heap.size + 1, 1, none⟩ = some (.int .i64 p.2.1) ∧ wr.cell? ⟨w.heap.size + 1, 2, none⟩ = some (.int .i64 p.2.2.1) ∧ wr.cell? ⟨w.heap.size + 1, 3, none⟩ = some (.int .i64 p.2.2.2) ∧ (∀ j, wr.frozen? ⟨w.heap.size + 1, j, none⟩ = false) ∧ Below (w.heap.size + 1) W wr) (fun i _ => L.length - (intOf i).toNat)
  case atStart => exact ⟨0, (0, 0, 0, 0), Nat.zero_le _, rfl, rfl, p0, p1, p2, p3, pf, Below.refl _ _⟩
  case round =>
    clear p0 p1 p2 p3 pf
    obtain ⟨k, p, hk, rfl, HP, p0, p1, p2, p3, pf, bel⟩ := hrel
    have B3 : Below w.heap.size w wr := HB0.out.trans (bel.mono (Nat.le_succ _))
    have hz3 : w.heap.size + 2 ≤ wr.heap.size := by rw [← hz]; exact bel.size
    have hbd := HPB.out k hk
    rw [← HP.out] at hbd
    by_cases hlt : k < L.length
    · obtain ⟨b, o, rfl, hb, hs1⟩ := hs (by omega)
      have hs' := hs1.below hb B3
      have q0 := En.c0 hs' hlt
      have q1 := En.c1 hs' hlt
      have q2 := En.c2 hs' hlt
      have q3 := En.c3 hs' hlt
      have q4 := En.c4 hs' hlt
      have q5 := En.c5 hs' hlt
      have q6 := En.c6 hs' hlt
      have hok := Lg.ok_inv (HRI.out k hlt)
      have hst := Lg.posn_take P L k hlt
      rw [← HP.out] at hst
      unfold Lg.at' at hok hst
      obtain ⟨f, hf⟩ : ∃ f, f = Rk.at_ En.S L k := ⟨_, rfl⟩
      rw [← hf] at q0 q1 q2 q3 q4 q5 q6 hok hst
      clear hf hs' HP
      have HST := Fk.hide hst
      clear hst
      obtain ⟨f0, f1, f2, f3, f4, f5, f6⟩ := f
      obtain ⟨a0, a1, a2, a3⟩ := p
      simp only at hok hbd p0 p1 p2 p3 q0 q1 q2 q3 q4 q5 q6
      obtain ⟨_, _, ⟨g0, g1⟩, ⟨g2, g3⟩, _, g4, g5⟩ := hok
      obtain ⟨⟨g6, g7⟩, ⟨g8, g9⟩, ⟨ga, gb⟩, gc, gd⟩ := hbd
      have HBE : Hid (Below (w.heap.size + 1) W (wr.alloc (.cells #[.int .i64 f0, .int .i64 f1, .bool f2, .int .i64 f3, .int .i64 f4, .int .i64 f5, .int .i64 f6] 47))) := bel.alloc (by omega) _
      have m0 : (wr.alloc (.cells #[.int .i64 f0, .int .i64 f1, .bool f2, .int .i64 f3, .int .i64 f4, .int .i64 f5, .int .i64 f6] 47)).cell? ⟨w.heap.size + 1, 0, none⟩ = some (.int .i64 a0) := by rw [Fk.cellOld _ _ _ _ (by omega)]; exact p0
      have m1 : (wr.alloc (.cells #[.int .i64 f0, .int .i64 f1, .bool f2, .int .i64 f3, .int .i64 f4, .int .i64 f5, .int .i64 f6] 47)).cell? ⟨w.heap.size + 1, 1, none⟩ = some (.int .i64 a1) := by rw [Fk.cellOld _ _ _ _ (by omega)]; exact p1
      have m2 : (wr.alloc (.cells #[.int .i64 f0, .int .i64 f1, .bool f2, .int .i64 f3, .int .i64 f4, .int .i64 f5, .int .i64 f6] 47)).cell? ⟨w.heap.size + 1, 2, none⟩ = some (.int .i64 a2) := by rw [Fk.cellOld _ _ _ _ (by omega)]; exact p2
      have m3 : (wr.alloc (.cells #[.int .i64 f0, .int .i64 f1, .bool f2, .int .i64 f3, .int .i64 f4, .int .i64 f5, .int .i64 f6] 47)).cell? ⟨w.heap.size + 1, 3, none⟩ = some (.int .i64 a3) := by rw [Fk.cellOld _ _ _ _ (by omega)]; exact p3
      have mf : ∀ j, (wr.alloc (.cells #[.int .i64 f0, .int .i64 f1, .bool f2, .int .i64 f3, .int .i64 f4, .int .i64 f5, .int .i64 f6] 47)).frozen? ⟨w.heap.size + 1, j, none⟩ = false := fun j => by rw [Fk.frozOld _ _ _ _ (by omega)]; exact pf j
      clear p0 p1 p2 p3 pf B3 bel
      by_cases hcnt : owner = 0 ∨ f1 = owner
      · have HST2 : Hid (Lg.posn P (L.take (k + 1)) = Lg.add (a0, a1, a2, a3) (f0, f1, f2, f3, f4, f5, f6)) := by show _ = _; rw [HST.out]; exact if_pos (by rw [HPP.out]; simpa using hcnt)
        clear HST HPP
        have hcc : owner = 0 ∨ (owner ≠ 0 ∧ f1 = owner) := by omega
        clear hcnt
        cases f2 with
        | true =>
          rcases hcc with h0 | ⟨h0, h1⟩
          · subst h0
            go_wp2_with fail
            go_roundw
            case rel =>
              refine ⟨k + 1, (a0 + f4, a1, a2 + f6, a3), by omega, by go_num, by show _ = _; rw [HST2.out]; rfl, ?_, ?_, ?_, ?_, fun j => by simp [mf], ?_⟩
              · simp [go_sem, m0, m1, m2, m3]
              · simp [go_sem, m0, m1, m2, m3]
              · simp [go_sem, m0, m1, m2, m3]
              · simp [go_sem, m0, m1, m2, m3]
              · exact (HBE.out.setCell (Nat.le_refl _) _).setCell (Nat.le_refl _) _
            case measure => simp [intOf]; omega
          · subst h1
            go_wp2_with fail
            go_roundw
            case rel =>
              refine ⟨k + 1, (a0 + f4, a1, a2 + f6, a3), by omega, by go_num, by show _ = _; rw [HST2.out]; rfl, ?_, ?_, ?_, ?_, fun j => by simp [mf], ?_⟩
              · simp [go_sem, m0, m1, m2, m3]
              · simp [go_sem, m0, m1, m2, m3]
              · simp [go_sem, m0, m1, m2, m3]
              · simp [go_sem, m0, m1, m2, m3]
              · exact (HBE.out.setCell (Nat.le_refl _) _).setCell (Nat.le_refl _) _
            case measure => simp [intOf]; omega
        | false =>
          rcases hcc with h0 | ⟨h0, h1⟩
          · subst h0
            go_wp2_with fail
            go_roundw
            case rel =>
              refine ⟨k + 1, (a0, a1 + f4, a2, a3 + f6), by omega, by go_num, by show _ = _; rw [HST2.out]; rfl, ?_, ?_, ?_, ?_, fun j => by simp [mf], ?_⟩
              · simp [go_sem, m0, m1, m2, m3]
              · simp [go_sem, m0, m1, m2, m3]
              · simp [go_sem, m0, m1, m2, m3]
              · simp [go_sem, m0, m1, m2, m3]
              · exact (HBE.out.setCell (Nat.le_refl _) _).setCell (Nat.le_refl _) _
            case measure => simp [intOf]; omega
          · subst h1
            go_wp2_with fail
            go_roundw
            case rel =>
              refine ⟨k + 1, (a0, a1 + f4, a2, a3 + f6), by omega, by go_num, by show _ = _; rw [HST2.out]; rfl, ?_, ?_, ?_, ?_, fun j => by simp [mf], ?_⟩
              · simp [go_sem, m0, m1, m2, m3]
              · simp [go_sem, m0, m1, m2, m3]
              · simp [go_sem, m0, m1, m2, m3]
              · simp [go_sem, m0, m1, m2, m3]
              · exact (HBE.out.setCell (Nat.le_refl _) _).setCell (Nat.le_refl _) _
            case measure => simp [intOf]; omega
      · have HP2 : Hid ((a0, a1, a2, a3) = Lg.posn P (L.take (k + 1))) := by show _ = _; rw [HST.out]; exact (if_neg (by rw [HPP.out]; simpa using hcnt)).symm
        have n0 : owner ≠ 0 := fun h => hcnt (.inl h)
        have n1 : f1 ≠ owner := fun h => hcnt (.inr h)
        have n2 : (owner != 0) = true := by simp [n0]
        have n3 : (f1 != owner) = true := by simp [n1]
        clear HST hcnt
        go_wp2_with fail
        go_roundw
        case rel => exact ⟨k + 1, (a0, a1, a2, a3), by omega, by go_num, HP2, m0, m1, m2, m3, mf, HBE.out⟩
        case measure => simp [intOf]; omega
    · have e : k = L.length := by omega
      have HP2 : Hid (p = Lg.posn P L) := by show _ = _; rw [HP.out, e, List.take_length]
      clear HP hbd
      have z0 := (bel.cell (p := ⟨w.heap.size, 0, none⟩) (by show w.heap.size < _; omega)).trans HZ0.out
      have z1 := (bel.cell (p := ⟨w.heap.size, 1, none⟩) (by show w.heap.size < _; omega)).trans HZ1.out
      have z2 := (bel.cell (p := ⟨w.heap.size, 2, none⟩) (by show w.heap.size < _; omega)).trans HZ2.out
      have z3 := (bel.cell (p := ⟨w.heap.size, 3, none⟩) (by show w.heap.size < _; omega)).trans HZ3.out
      have zf : ∀ j, wr.frozen? ⟨w.heap.size, j, none⟩ = false := fun j => (bel.frozen (by show w.heap.size < _; omega)).trans (HZF.out j)
      go_wp2_with fail
      rw [← HP2.out]
      refine bodyPost_ret (v := .agg #[.int .i64 p.1, .int .i64 p.2.1, .int .i64 p.2.2.1, .int .i64 p.2.2.2]) (by simp [results, Try.results54, go_sem, z0, z1, z2, z3] <;> rfl) rfl ⟨rfl, ?_⟩
      repeat (refine Below.setCell ?_ (by simp <;> omega) _)
      exact B3
end Go.Proofs.Ytemhhmcedghcdaa
