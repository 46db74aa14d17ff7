/- The walks of the program's bar of trades, and of what asks it. -/
import Derived.Test.YtficlppngnnpoaaTapeBarImpl
namespace Go.Proofs.Ytficlppngnnpoaa
open Go.RowKit
set_option linter.unusedVariables false
set_option linter.unusedSimpArgs false
set_option maxRecDepth 100000 in
set_option maxHeartbeats 4000000 in
theorem barOf_any (v : Value) (L : List Td.E) (w : World) (hv : Rk.View Td.S w v L) (hr : Tp.right L = true) :
    Calls Try.prog 45 #[v] w fun e w' => e = .returned (Tp.vl (Tp.bar L)) ∧ Below w.heap.size w w' := by
  obtain ⟨a, cap, rfl, hs⟩ := hv
  have hl4 : L.length ≤ 400 := (Tp.right_inv hr).1
  have HOK := Fk.hide (Tp.right_inv hr).2
  have HFI := Fk.hide (Tp.fine_take hr)
  clear hr
  obtain ⟨W, hW⟩ : ∃ W, W = (w.alloc (.cells #[.int .i64 0, .int .i64 0, .int .i64 0, .int .i64 0, .int .i64 0] 35)).alloc (.cells #[.int .i64 0, .int .i64 0, .int .i64 0, .int .i64 0, .int .i64 0] 82) := ⟨_, rfl⟩
  have b0 : Below w.heap.size w W := by rw [hW]; exact ((Below.refl _ _).alloc (Nat.le_refl _) _).alloc (by simp) _
  have hz : W.heap.size = w.heap.size + 2 := by rw [hW]; simp
  have HP : Hid (∀ j, j < 5 → W.cell? ⟨w.heap.size + 1, j, none⟩ = some (.int .i64 0)) := fun j hj => by
    rw [hW, Fk.cellTop _ _ _ _ _ (by simp)]
    match j, hj with
    | 0, _ => rfl
    | 1, _ => rfl
    | 2, _ => rfl
    | 3, _ => rfl
    | 4, _ => rfl
  have HZ : Hid (∀ j, j < 5 → W.cell? ⟨w.heap.size, j, none⟩ = some (.int .i64 0)) := fun j hj => by
    rw [hW, Fk.cellOld _ _ _ _ (by simp), Fk.cellTop _ _ _ _ _ rfl]
    match j, hj with
    | 0, _ => rfl
    | 1, _ => rfl
    | 2, _ => rfl
    | 3, _ => rfl
    | 4, _ => rfl
  have pf : ∀ j, W.frozen? ⟨w.heap.size + 1, j, none⟩ = false := fun j => by rw [hW, Fk.frozTop _ _ _ _ _ (by simp)]
  have HZF : Hid (∀ j, W.frozen? ⟨w.heap.size, j, none⟩ = false) := fun j => by rw [hW, Fk.frozOld _ _ _ _ (by simp), Fk.frozTop _ _ _ _ _ rfl]
  have HW := Fk.hide hW
  have HB0 := Fk.hide b0
  clear hW b0
  go_enter Try.func45, Try.ntmps45
  go_wp2_with fail
  rw [← HW.out]
  go_loopw [8] (fun i wr => ∃ (k : Nat) (p : Ba.E), k ≤ L.length ∧ i = .int .i64 k ∧ Hid (p = Tp.bar (L.take k)) ∧ wr.cell? ⟨w.heap.size + 1, 0, none⟩ = some (.int .i64 p.1) ∧ wr.cell? ⟨w.heap.size + 1, 1, none⟩ = some (.int .i64 p.2.1) ∧ wr.cell? ⟨w.heap.size + 1, 2, none⟩ = some (.int .i64 p.2.2.1) ∧ wr.cell? ⟨w.heap.size + 1, 3, none⟩ = some (.int .i64 p.2.2.2.1) ∧ wr.cell? ⟨w.heap.size + 1, 4, none⟩ = some (.int .i64 p.2.2.2.2) ∧ (∀ j, wr.frozen? ⟨w.heap.size + 1, j, none⟩ = false) ∧ Hid (Below (w.heap.size + 1) W wr)) (fun i _ => L.length - (intOf i).toNat)
  case atStart => exact ⟨0, (0, 0, 0, 0, 0), Nat.zero_le _, rfl, rfl, HP.out 0 (by omega), HP.out 1 (by omega), HP.out 2 (by omega), HP.out 3 (by omega), HP.out 4 (by omega), pf, Below.refl _ _⟩
  case round =>
    clear pf
    obtain ⟨k, p, hk, rfl, HPK, p0, p1, p2, p3, p4, pf, BEL⟩ := hrel
    have B3 : Below w.heap.size w wr := HB0.out.trans (BEL.out.mono (Nat.le_succ _))
    have hz3 : w.heap.size + 2 ≤ wr.heap.size := by rw [← hz]; exact BEL.out.size
    have hfi : Tp.Fine k p := by rw [HPK.out]; exact HFI.out k hk
    by_cases hlt : k < L.length
    · obtain ⟨b, o, rfl, hb, hs1⟩ := hs (by omega)
      have hs' := hs1.below hb B3
      have q0 := Td.c0 hs' hlt
      have q1 := Td.c1 hs' hlt
      have hok := Tp.ok_inv (HOK.out k hlt)
      have hst := Tp.bar_take L k hlt
      rw [← HPK.out] at hst
      unfold Tp.at' at hok hst
      obtain ⟨f, hf⟩ : ∃ f, f = Rk.at_ Td.S L k := ⟨_, rfl⟩
      rw [← hf] at q0 q1 hok hst
      clear hf hs' HPK
      have HST := Fk.hide hst
      clear hst
      obtain ⟨W2, hW2⟩ : ∃ W2, W2 = wr.alloc (.cells #[.int .i64 f.1, .int .i64 f.2] 37) := ⟨_, rfl⟩
      have bX : Below wr.heap.size wr W2 := by rw [hW2]; exact (Below.refl _ _).alloc (Nat.le_refl _) _
      have x0 : W2.cell? ⟨wr.heap.size, 0, none⟩ = some (.int .i64 f.1) := by rw [hW2, Fk.cellTop _ _ _ _ _ rfl]; rfl
      have x1 : W2.cell? ⟨wr.heap.size, 1, none⟩ = some (.int .i64 f.2) := by rw [hW2, Fk.cellTop _ _ _ _ _ rfl]; rfl
      have y0 : (wr.alloc (.cells #[.int .i64 f.1, .int .i64 f.2] 37)).cell? ⟨w.heap.size + 1, 0, none⟩ = some (.int .i64 p.1) := by rw [Fk.cellOld _ _ _ _ (by omega)]; exact p0
      have y1 : (wr.alloc (.cells #[.int .i64 f.1, .int .i64 f.2] 37)).cell? ⟨w.heap.size + 1, 1, none⟩ = some (.int .i64 p.2.1) := by rw [Fk.cellOld _ _ _ _ (by omega)]; exact p1
      have y2 : (wr.alloc (.cells #[.int .i64 f.1, .int .i64 f.2] 37)).cell? ⟨w.heap.size + 1, 2, none⟩ = some (.int .i64 p.2.2.1) := by rw [Fk.cellOld _ _ _ _ (by omega)]; exact p2
      have y3 : (wr.alloc (.cells #[.int .i64 f.1, .int .i64 f.2] 37)).cell? ⟨w.heap.size + 1, 3, none⟩ = some (.int .i64 p.2.2.2.1) := by rw [Fk.cellOld _ _ _ _ (by omega)]; exact p3
      have y4 : (wr.alloc (.cells #[.int .i64 f.1, .int .i64 f.2] 37)).cell? ⟨w.heap.size + 1, 4, none⟩ = some (.int .i64 p.2.2.2.2) := by rw [Fk.cellOld _ _ _ _ (by omega)]; exact p4
      have hzX : wr.heap.size < W2.heap.size := by rw [hW2]; simp
      have HW2 := Fk.hide hW2
      have HBX := Fk.hide bX
      have HHL : Hid (p.2.2.2.2 = 0 ∨ p.2.2.1 ≤ p.2.1) := by
        by_cases h0 : k = 0
        · subst h0; exact .inl (by rw [hfi.1 rfl])
        · have := hfi.2.2.2 (by omega); exact .inr (by omega)
      have HAM : Hid (0 ≤ p.2.2.2.2 ∧ p.2.2.2.2 ≤ 1000000) := by have h1 := hfi.2.1; have h2 := hfi.2.2.1; exact ⟨by omega, by omega⟩
      have HAT : Hid (1 ≤ f.2 ∧ f.2 ≤ 1000) := hok.2
      clear hW2 bX hok hfi
      go_wp2_with fail
      rw [← HW2.out]
      refine (with_any p f.1 f.2 W2 HHL.out HAM.out.1 HAM.out.2 HAT.out.1 HAT.out.2).mono ?_
      rintro e w2 ⟨rfl, k2⟩
      have HBW : Hid (Below wr.heap.size wr w2) := HBX.out.trans (k2.mono HBX.out.size)
      have HBE : Hid (Below (w.heap.size + 1) W w2) := BEL.out.trans (HBW.out.mono (by omega))
      have m0 := (HBW.out.cell (p := ⟨w.heap.size + 1, 0, none⟩) (by show w.heap.size + 1 < _; omega)).trans p0
      have m1 := (HBW.out.cell (p := ⟨w.heap.size + 1, 1, none⟩) (by show w.heap.size + 1 < _; omega)).trans p1
      have m2 := (HBW.out.cell (p := ⟨w.heap.size + 1, 2, none⟩) (by show w.heap.size + 1 < _; omega)).trans p2
      have m3 := (HBW.out.cell (p := ⟨w.heap.size + 1, 3, none⟩) (by show w.heap.size + 1 < _; omega)).trans p3
      have m4 := (HBW.out.cell (p := ⟨w.heap.size + 1, 4, none⟩) (by show w.heap.size + 1 < _; omega)).trans p4
      have mf : ∀ j, w2.frozen? ⟨w.heap.size + 1, j, none⟩ = false := fun j => (HBW.out.frozen (by show w.heap.size + 1 < _; omega)).trans (pf j)
      obtain ⟨g, hg⟩ : ∃ g, g = Tp.step p (f.1, f.2) := ⟨_, rfl⟩
      rw [← hg]
      have HG : Hid (g = Tp.bar (L.take (k + 1))) := by show _ = _; rw [HST.out, hg]
      clear k2 p0 p1 p2 p3 p4 pf B3 q0 q1 x0 x1 y0 y1 y2 y3 y4 hg HST HHL HAM HAT
      go_wp2_with fail
      go_roundw
      case rel =>
        refine ⟨k + 1, g, by omega, by go_num, HG, ?_, ?_, ?_, ?_, ?_, fun j => by simp [mf], ?_⟩
        · simp [go_sem, m0, m1, m2, m3, m4]
        · simp [go_sem, m0, m1, m2, m3, m4]
        · simp [go_sem, m0, m1, m2, m3, m4]
        · simp [go_sem, m0, m1, m2, m3, m4]
        · simp [go_sem, m0, m1, m2, m3, m4]
        · exact (((((HBE.out.setCell (Nat.le_refl _) _).setCell (Nat.le_refl _) _).setCell (Nat.le_refl _) _).setCell (Nat.le_refl _) _).setCell (Nat.le_refl _) _)
      case measure => simp [intOf]; omega
    · have e : k = L.length := by omega
      have HG : Hid (p = Tp.bar L) := by show _ = _; rw [HPK.out, e, List.take_length]
      have HB3 := Fk.hide B3
      have z0 := (BEL.out.cell (p := ⟨w.heap.size, 0, none⟩) (by show w.heap.size < _; omega)).trans (HZ.out 0 (by omega))
      have z1 := (BEL.out.cell (p := ⟨w.heap.size, 1, none⟩) (by show w.heap.size < _; omega)).trans (HZ.out 1 (by omega))
      have z2 := (BEL.out.cell (p := ⟨w.heap.size, 2, none⟩) (by show w.heap.size < _; omega)).trans (HZ.out 2 (by omega))
      have z3 := (BEL.out.cell (p := ⟨w.heap.size, 3, none⟩) (by show w.heap.size < _; omega)).trans (HZ.out 3 (by omega))
      have z4 := (BEL.out.cell (p := ⟨w.heap.size, 4, none⟩) (by show w.heap.size < _; omega)).trans (HZ.out 4 (by omega))
      have zf : ∀ j, wr.frozen? ⟨w.heap.size, j, none⟩ = false := fun j => (BEL.out.frozen (by show w.heap.size < _; omega)).trans (HZF.out j)
      clear HPK hfi B3
      go_wp2_with fail
      refine bodyPost_ret (v := Tp.vl p) (by simp [results, Try.results45, go_sem, z0, z1, z2, z3, z4]) rfl ⟨by rw [HG.out], ?_⟩
      exact (((((HB3.out.setCell (Nat.le_refl _) _).setCell (Nat.le_refl _) _).setCell (Nat.le_refl _) _).setCell (Nat.le_refl _) _).setCell (Nat.le_refl _) _)

set_option maxHeartbeats 400000 in
theorem barOfAll_any (v : Value) (L : List Td.E) (w : World) (hv : Rk.View Td.S w v L) (hl : L.length ≤ 1048576) :
    Calls Try.prog 47 #[v] w fun e w' => e = .returned (Tp.vl (Tp.barAll L)) ∧ Below w.heap.size w w' := by
  obtain ⟨W, hW⟩ : ∃ W, W = w.alloc (.cells #[.int .i64 0, .int .i64 0, .int .i64 0, .int .i64 0, .int .i64 0] 35) := ⟨_, rfl⟩
  have b0 : Below w.heap.size w W := by rw [hW]; exact (Below.refl _ _).alloc (Nat.le_refl _) _
  have hz : W.heap.size = w.heap.size + 1 := by rw [hW]; simp
  have c0 : W.cell? ⟨w.heap.size, 0, none⟩ = some (.int .i64 0) := by rw [hW, Fk.cellTop _ _ _ _ _ rfl]; rfl
  have c1 : W.cell? ⟨w.heap.size, 1, none⟩ = some (.int .i64 0) := by rw [hW, Fk.cellTop _ _ _ _ _ rfl]; rfl
  have c2 : W.cell? ⟨w.heap.size, 2, none⟩ = some (.int .i64 0) := by rw [hW, Fk.cellTop _ _ _ _ _ rfl]; rfl
  have c3 : W.cell? ⟨w.heap.size, 3, none⟩ = some (.int .i64 0) := by rw [hW, Fk.cellTop _ _ _ _ _ rfl]; rfl
  have c4 : W.cell? ⟨w.heap.size, 4, none⟩ = some (.int .i64 0) := by rw [hW, Fk.cellTop _ _ _ _ _ rfl]; rfl
  have cf : ∀ j, W.frozen? ⟨w.heap.size, j, none⟩ = false := fun j => by rw [hW, Fk.frozTop _ _ _ _ _ rfl]
  have HV := Fk.hide hv
  obtain ⟨a, cap, rfl, _⟩ := hv
  have HW := Fk.hide hW
  have HB0 := Fk.hide b0
  clear hW b0
  go_enter Try.func47, Try.ntmps47
  go_wp2_with fail
  rw [← HW.out]
  obtain ⟨c, hc⟩ : ∃ c, c = Tp.right L := ⟨_, rfl⟩
  have HC := Fk.hide hc
  have HT := Fk.hide (tradesRight_any _ L W (HV.out.below HB0.out) hl)
  have HT2 := HT.out
  rw [← hc] at HT2
  clear hc
  refine HT2.mono ?_
  rintro e W1 ⟨rfl, k1⟩
  have HB1 : Hid (Below w.heap.size w W1) := HB0.out.trans (k1.mono HB0.out.size)
  have hz1 : w.heap.size < W1.heap.size := by have := k1.size; omega
  have d0 := (k1.cell (p := ⟨w.heap.size, 0, none⟩) (by show w.heap.size < _; omega)).trans c0
  have d1 := (k1.cell (p := ⟨w.heap.size, 1, none⟩) (by show w.heap.size < _; omega)).trans c1
  have d2 := (k1.cell (p := ⟨w.heap.size, 2, none⟩) (by show w.heap.size < _; omega)).trans c2
  have d3 := (k1.cell (p := ⟨w.heap.size, 3, none⟩) (by show w.heap.size < _; omega)).trans c3
  have d4 := (k1.cell (p := ⟨w.heap.size, 4, none⟩) (by show w.heap.size < _; omega)).trans c4
  have df : ∀ j, W1.frozen? ⟨w.heap.size, j, none⟩ = false := fun j => (k1.frozen (by show w.heap.size < _; omega)).trans (cf j)
  clear k1 c0 c1 c2 c3 c4 cf hz HT HT2
  cases c with
  | false =>
    have HA : Hid (Tp.barAll L = (0, 0, 0, 0, 0)) := Tp.barAll_no HC.out.symm
    go_wp2_with fail
    refine bodyPost_ret (v := Tp.vl (0, 0, 0, 0, 0)) (by simp [results, Try.results47, go_sem, d0, d1, d2, d3, d4]) rfl ⟨by rw [HA.out], ?_⟩
    first | exact HB1.out | exact (((((HB1.out.setCell (Nat.le_refl _) _).setCell (Nat.le_refl _) _).setCell (Nat.le_refl _) _).setCell (Nat.le_refl _) _).setCell (Nat.le_refl _) _)
  | true =>
    have HA : Hid (Tp.barAll L = Tp.bar L) := Tp.barAll_yes HC.out.symm
    go_wp2_with fail
    refine (barOf_any _ L W1 (HV.out.below HB1.out) HC.out.symm).mono ?_
    rintro e W2 ⟨rfl, k1⟩
    obtain ⟨g, hg⟩ : ∃ g, g = Tp.bar L := ⟨_, rfl⟩
    rw [← hg]
    have HG : Hid (Tp.barAll L = g) := by show _ = _; rw [HA.out, hg]
    have HB2 : Hid (Below w.heap.size w W2) := HB1.out.trans (k1.mono HB1.out.size)
    have e0 := (k1.cell (p := ⟨w.heap.size, 0, none⟩) (by show w.heap.size < _; omega)).trans d0
    have e1 := (k1.cell (p := ⟨w.heap.size, 1, none⟩) (by show w.heap.size < _; omega)).trans d1
    have e2 := (k1.cell (p := ⟨w.heap.size, 2, none⟩) (by show w.heap.size < _; omega)).trans d2
    have e3 := (k1.cell (p := ⟨w.heap.size, 3, none⟩) (by show w.heap.size < _; omega)).trans d3
    have e4 := (k1.cell (p := ⟨w.heap.size, 4, none⟩) (by show w.heap.size < _; omega)).trans d4
    have ef : ∀ j, W2.frozen? ⟨w.heap.size, j, none⟩ = false := fun j => (k1.frozen (by show w.heap.size < _; omega)).trans (df j)
    clear k1 d0 d1 d2 d3 d4 df hg HA
    go_wp2_with fail
    refine bodyPost_ret (v := Tp.vl g) (by simp [results, Try.results47, go_sem, e0, e1, e2, e3, e4]) rfl ⟨by rw [HG.out], ?_⟩
    exact (((((HB2.out.setCell (Nat.le_refl _) _).setCell (Nat.le_refl _) _).setCell (Nat.le_refl _) _).setCell (Nat.le_refl _) _).setCell (Nat.le_refl _) _)

theorem Tp.field_high (o h l c a : Int) (W : World) : (Instr.field 35 (.agg #[.int .i64 o, .int .i64 h, .int .i64 l, .int .i64 c, .int .i64 a]) 1).run Try.prog W = .ok (.int .i64 h) W := by kernel_rfl
theorem Tp.field_low (o h l c a : Int) (W : World) : (Instr.field 35 (.agg #[.int .i64 o, .int .i64 h, .int .i64 l, .int .i64 c, .int .i64 a]) 2).run Try.prog W = .ok (.int .i64 l) W := by kernel_rfl
theorem Tp.field_amount (o h l c a : Int) (W : World) : (Instr.field 35 (.agg #[.int .i64 o, .int .i64 h, .int .i64 l, .int .i64 c, .int .i64 a]) 4).run Try.prog W = .ok (.int .i64 a) W := by kernel_rfl
set_option maxHeartbeats 400000 in
theorem volumeOf_impl (v : Value) (L : List Td.E) (w : World) (hv : Rk.View Td.S w v L) (hl : L.length ≤ 1048576) :
    Calls Try.prog 13 #[v] w fun e w' => e = .returned (.int .i64 (Tp.barAll L).2.2.2.2) ∧ Below w.heap.size w w' := by
  have HV := Fk.hide hv
  obtain ⟨a, cap, rfl, _⟩ := hv
  go_enter Try.func13, Try.ntmps13
  go_wp2_with fail
  refine (barOfAll_any _ L w HV.out hl).mono ?_
  rintro e W1 ⟨rfl, k1⟩
  obtain ⟨⟨b0, b1, b2, b3, b4⟩, hb⟩ : ∃ b, b = Tp.barAll L := ⟨_, rfl⟩
  have HBB := Fk.hide hb
  rw [← hb]
  clear hb
  have hfd := Tp.field_amount b0 b1 b2 b3 b4
  go_wp2_with fail
  go_ret
  exact ⟨by rw [← HBB.out]; rfl, k1⟩
set_option maxHeartbeats 400000 in
theorem highOf_impl (v : Value) (L : List Td.E) (w : World) (hv : Rk.View Td.S w v L) (hl : L.length ≤ 1048576) :
    Calls Try.prog 15 #[v] w fun e w' => e = .returned (.int .i64 (Tp.barAll L).2.1) ∧ Below w.heap.size w w' := by
  have HV := Fk.hide hv
  obtain ⟨a, cap, rfl, _⟩ := hv
  go_enter Try.func15, Try.ntmps15
  go_wp2_with fail
  refine (barOfAll_any _ L w HV.out hl).mono ?_
  rintro e W1 ⟨rfl, k1⟩
  obtain ⟨⟨b0, b1, b2, b3, b4⟩, hb⟩ : ∃ b, b = Tp.barAll L := ⟨_, rfl⟩
  have HBB := Fk.hide hb
  rw [← hb]
  clear hb
  have hfd := Tp.field_high b0 b1 b2 b3 b4
  go_wp2_with fail
  go_ret
  exact ⟨by rw [← HBB.out]; rfl, k1⟩
set_option maxHeartbeats 400000 in
theorem lowOf_impl (v : Value) (L : List Td.E) (w : World) (hv : Rk.View Td.S w v L) (hl : L.length ≤ 1048576) :
    Calls Try.prog 16 #[v] w fun e w' => e = .returned (.int .i64 (Tp.barAll L).2.2.1) ∧ Below w.heap.size w w' := by
  have HV := Fk.hide hv
  obtain ⟨a, cap, rfl, _⟩ := hv
  go_enter Try.func16, Try.ntmps16
  go_wp2_with fail
  refine (barOfAll_any _ L w HV.out hl).mono ?_
  rintro e W1 ⟨rfl, k1⟩
  obtain ⟨⟨b0, b1, b2, b3, b4⟩, hb⟩ : ∃ b, b = Tp.barAll L := ⟨_, rfl⟩
  have HBB := Fk.hide hb
  rw [← hb]
  clear hb
  have hfd := Tp.field_low b0 b1 b2 b3 b4
  go_wp2_with fail
  go_ret
  exact ⟨by rw [← HBB.out]; rfl, k1⟩
end Go.Proofs.Ytficlppngnnpoaa
