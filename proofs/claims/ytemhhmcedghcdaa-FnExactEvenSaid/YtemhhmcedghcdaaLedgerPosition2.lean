/- The walks of PositionOf and of Even, on both sides. -/
import Derived.Test.YtemhhmcedghcdaaLedgerPosition
namespace Go.Proofs.Ytemhhmcedghcdaa
open Go.RowKit
set_option linter.unusedVariables false
set_option linter.unusedSimpArgs false

theorem Lg.posn_ext {c d : En.E → Bool} {L : List En.E} (h : ∀ f ∈ L, c f = d f) : Lg.posn c L = Lg.posn d L := by
  unfold Lg.posn
  generalize ((0, 0, 0, 0) : Lg.P) = z
  induction L generalizing z with
  | nil => rfl
  | cons f r ih =>
    simp only [List.foldl_cons]
    rw [h f (by simp), ih (fun g hg => h g (by simp [hg]))]
theorem Lg.posn_none {c : En.E → Bool} {L : List En.E} (h : ∀ f ∈ L, c f = false) : Lg.posn c L = (0, 0, 0, 0) := by
  rw [Lg.posn_ext h]
  unfold Lg.posn
  induction L with
  | nil => rfl
  | cons f r ih => simpa using ih (fun g hg => h g (by simp [hg]))
theorem Lg.right_owner {L : List En.E} (h : Lg.right L = true) : ∀ f ∈ L, 1 ≤ f.2.1 ∧ f.2.1 ≤ 9 := by
  intro f hf
  obtain ⟨i, hi, rfl⟩ := List.getElem_of_mem hf
  have := (Lg.ok_inv ((Lg.right_inv h).2.1 i hi)).2.1
  unfold Lg.at' at this
  rw [Rk.at_get L i hi] at this
  exact this
theorem Lg.position_ill {L : List En.E} {o : Int} (h : Lg.right L = false) : Lg.position L o = (0, 0, 0, 0) := by simp [Lg.position, h]
theorem Lg.position_out {L : List En.E} {o : Int} (h : Cm.inn o 1 9 = false) : Lg.position L o = (0, 0, 0, 0) := by
  unfold Lg.position
  split
  · rename_i hr
    refine Lg.posn_none fun f hf => ?_
    have := Lg.right_owner hr f hf
    refine decide_eq_false fun e => ?_
    rw [e] at this
    simp [Cm.inn] at h
    omega
  · rfl
theorem Lg.position_yes {L : List En.E} {o : Int} (h : Lg.right L = true) : Lg.position L o = Lg.posn (fun f => decide (f.2.1 = o)) L := if_pos h
theorem Lg.posn_owner {L : List En.E} {o : Int} (h : Cm.inn o 1 9 = true) : Lg.posn (fun f => decide (o = 0) || decide (f.2.1 = o)) L = Lg.posn (fun f => decide (f.2.1 = o)) L := by
  have h' : 1 ≤ o ∧ o ≤ 9 := by simpa [Cm.inn] using h
  refine Lg.posn_ext fun f _ => ?_
  have : decide (o = 0) = false := decide_eq_false (by omega)
  rw [this, Bool.false_or]
theorem Lg.posn_all {L : List En.E} : Lg.posn (fun f => decide ((0 : Int) = 0) || decide (f.2.1 = 0)) L = Lg.posn (fun _ => true) L :=
  Lg.posn_ext fun f _ => by simp
theorem Lg.even_ill {L : List En.E} (h : Lg.right L = false) : Lg.even L = false := by simp [Lg.even, h]
theorem Lg.even_yes {L : List En.E} (h : Lg.right L = true) : Lg.even L = (decide ((Lg.posn (fun _ => true) L).1 = (Lg.posn (fun _ => true) L).2.1) && decide ((Lg.posn (fun _ => true) L).2.2.1 = (Lg.posn (fun _ => true) L).2.2.2)) := by rw [Lg.even, h, Bool.true_and]

set_option maxRecDepth 100000 in
set_option maxHeartbeats 4000000 in
theorem positionOf_impl (v : Value) (owner : Int) (L : List En.E) (w : World) (hv : Rk.View En.S w v L) (hl : L.length ≤ 1048576) :
    Calls Try.prog 31 #[v, .int .i64 owner] w fun e w' => e = .returned (.agg #[.int .i64 (Lg.position L owner).1, .int .i64 (Lg.position L owner).2.1, .int .i64 (Lg.position L owner).2.2.1, .int .i64 (Lg.position L owner).2.2.2]) ∧ Below w.heap.size w w' := by
  obtain ⟨W, hW⟩ : ∃ W, W = (w.alloc (.cells #[.int .i64 owner] 2)).alloc (.cells #[.int .i64 0, .int .i64 0, .int .i64 0, .int .i64 0] 53) := ⟨_, rfl⟩
  have b0 : Below w.heap.size w W := by rw [hW]; exact ((Below.refl _ _).alloc (Nat.le_refl _) _).alloc (by simp) _
  have hz : W.heap.size = w.heap.size + 2 := by rw [hW]; simp
  have HZ0 : Hid (W.cell? ⟨w.heap.size + 1, 0, none⟩ = some (.int .i64 0)) := by show _ = _; rw [hW, Fk.cellTop _ _ _ _ _ (by simp)]; rfl
  have HZ1 : Hid (W.cell? ⟨w.heap.size + 1, 1, none⟩ = some (.int .i64 0)) := by show _ = _; rw [hW, Fk.cellTop _ _ _ _ _ (by simp)]; rfl
  have HZ2 : Hid (W.cell? ⟨w.heap.size + 1, 2, none⟩ = some (.int .i64 0)) := by show _ = _; rw [hW, Fk.cellTop _ _ _ _ _ (by simp)]; rfl
  have HZ3 : Hid (W.cell? ⟨w.heap.size + 1, 3, none⟩ = some (.int .i64 0)) := by show _ = _; rw [hW, Fk.cellTop _ _ _ _ _ (by simp)]; rfl
  have HZF : Hid (∀ j, W.frozen? ⟨w.heap.size + 1, j, none⟩ = false) := fun j => by rw [hW, Fk.frozTop _ _ _ _ _ (by simp)]
  have co : W.cell? ⟨w.heap.size, 0, none⟩ = some (.int .i64 owner) := by rw [hW, Fk.cellOld _ _ _ _ (by simp), Fk.cellTop _ _ _ _ _ rfl]; rfl
  have HV := Fk.hide hv
  obtain ⟨a, cap, rfl, hs⟩ := hv
  have HW := Fk.hide hW
  clear hW hs
  obtain ⟨x, hx⟩ : ∃ x, x = Lg.position L owner := ⟨_, rfl⟩
  rw [← hx]
  have HX := Fk.hide hx
  clear hx
  go_enter Try.func31, Try.ntmps31
  go_wp2_with fail
  rw [← HW.out]
  refine (ledgerRight_impl _ L _ (HV.out.below b0) hl).mono ?_
  rintro e w1 ⟨rfl, k1⟩
  have B1 : Below w.heap.size w w1 := b0.trans (k1.mono b0.size)
  have bW1 : Below W.heap.size W w1 := k1
  have hz1 : w.heap.size + 2 ≤ w1.heap.size := by rw [← hz]; exact k1.size
  have co1 := (k1.cell (p := ⟨w.heap.size, 0, none⟩) (by show w.heap.size < _; omega)).trans co
  clear k1 co
  obtain ⟨r, hr⟩ : ∃ r, r = Lg.right L := ⟨_, rfl⟩
  rw [← hr]
  have HR := Fk.hide hr
  clear hr
  cases r with
  | false =>
    have hxz : x = (0, 0, 0, 0) := by rw [HX.out]; exact Lg.position_ill HR.out.symm
    subst hxz
    have z0 := (bW1.cell (p := ⟨w.heap.size + 1, 0, none⟩) (by show w.heap.size + 1 < _; omega)).trans HZ0.out
    have z1 := (bW1.cell (p := ⟨w.heap.size + 1, 1, none⟩) (by show w.heap.size + 1 < _; omega)).trans HZ1.out
    have z2 := (bW1.cell (p := ⟨w.heap.size + 1, 2, none⟩) (by show w.heap.size + 1 < _; omega)).trans HZ2.out
    have z3 := (bW1.cell (p := ⟨w.heap.size + 1, 3, none⟩) (by show w.heap.size + 1 < _; omega)).trans HZ3.out
    have zf : ∀ j, w1.frozen? ⟨w.heap.size + 1, j, none⟩ = false := fun j => (bW1.frozen (by show w.heap.size + 1 < _; omega)).trans (HZF.out j)
    go_wp2_with fail
    refine bodyPost_ret (v := .agg #[.int .i64 0, .int .i64 0, .int .i64 0, .int .i64 0]) (by simp [results, Try.results31, go_sem, z0, z1, z2, z3] <;> rfl) rfl ⟨rfl, ?_⟩
    repeat (refine Below.setCell ?_ (by simp <;> omega) _)
    exact B1
  | true =>
    have HQ : Hid (Lg.posn (fun f => decide (f.2.1 = owner)) L = x) := by show _ = _; rw [HX.out]; exact (Lg.position_yes HR.out.symm).symm
    have HCL := Fk.hide (positionIn_owner _ L owner w.heap.size w1 (HV.out.below B1) HR.out.symm (by omega) co1)
    rw [HQ.out] at HCL
    clear co1
    go_wp2_with fail
    refine HCL.out.mono ?_
    rintro e w3 ⟨rfl, k3⟩
    have B3 : Below w.heap.size w w3 := B1.trans (k3.mono B1.size)
    have bW3 : Below W.heap.size W w3 := bW1.trans (k3.mono bW1.size)
    clear k3 B1 bW1
    have z0 := (bW3.cell (p := ⟨w.heap.size + 1, 0, none⟩) (by show w.heap.size + 1 < _; omega)).trans HZ0.out
    have z1 := (bW3.cell (p := ⟨w.heap.size + 1, 1, none⟩) (by show w.heap.size + 1 < _; omega)).trans HZ1.out
    have z2 := (bW3.cell (p := ⟨w.heap.size + 1, 2, none⟩) (by show w.heap.size + 1 < _; omega)).trans HZ2.out
    have z3 := (bW3.cell (p := ⟨w.heap.size + 1, 3, none⟩) (by show w.heap.size + 1 < _; omega)).trans HZ3.out
    have zf : ∀ j, w3.frozen? ⟨w.heap.size + 1, j, none⟩ = false := fun j => (bW3.frozen (by show w.heap.size + 1 < _; omega)).trans (HZF.out j)
    go_wp2_with fail
    refine bodyPost_ret (v := .agg #[.int .i64 x.1, .int .i64 x.2.1, .int .i64 x.2.2.1, .int .i64 x.2.2.2]) (by simp [results, Try.results31, go_sem, z0, z1, z2, z3] <;> rfl) rfl ⟨rfl, ?_⟩
    repeat (refine Below.setCell ?_ (by simp <;> omega) _)
    exact B3
set_option maxRecDepth 100000 in
set_option maxHeartbeats 4000000 in
theorem positionOf_spec (v : Value) (owner : Int) (L : List En.E) (w : World) (hv : Rk.View En.S w v L) (hl : L.length ≤ 1048576) :
    Calls Try.prog 30 #[v, .int .i64 owner] w fun e w' => e = .returned (.agg #[.int .i64 (Lg.position L owner).1, .int .i64 (Lg.position L owner).2.1, .int .i64 (Lg.position L owner).2.2.1, .int .i64 (Lg.position L owner).2.2.2]) ∧ Below w.heap.size w w' := by
  obtain ⟨W, hW⟩ : ∃ W, W = w.alloc (.cells #[.int .i64 0, .int .i64 0, .int .i64 0, .int .i64 0] 53) := ⟨_, rfl⟩
  have b0 : Below w.heap.size w W := by rw [hW]; exact (Below.refl _ _).alloc (Nat.le_refl _) _
  have hz : W.heap.size = w.heap.size + 1 := by rw [hW]; simp
  have HZ0 : Hid (W.cell? ⟨w.heap.size, 0, none⟩ = some (.int .i64 0)) := by show _ = _; rw [hW, Fk.cellTop _ _ _ _ _ (by simp)]; rfl
  have HZ1 : Hid (W.cell? ⟨w.heap.size, 1, none⟩ = some (.int .i64 0)) := by show _ = _; rw [hW, Fk.cellTop _ _ _ _ _ (by simp)]; rfl
  have HZ2 : Hid (W.cell? ⟨w.heap.size, 2, none⟩ = some (.int .i64 0)) := by show _ = _; rw [hW, Fk.cellTop _ _ _ _ _ (by simp)]; rfl
  have HZ3 : Hid (W.cell? ⟨w.heap.size, 3, none⟩ = some (.int .i64 0)) := by show _ = _; rw [hW, Fk.cellTop _ _ _ _ _ (by simp)]; rfl
  have HZF : Hid (∀ j, W.frozen? ⟨w.heap.size, j, none⟩ = false) := fun j => by rw [hW, Fk.frozTop _ _ _ _ _ (by simp)]
  have HV := Fk.hide hv
  obtain ⟨a, cap, rfl, hs⟩ := hv
  have HW := Fk.hide hW
  clear hW hs
  obtain ⟨x, hx⟩ : ∃ x, x = Lg.position L owner := ⟨_, rfl⟩
  rw [← hx]
  have HX := Fk.hide hx
  clear hx
  by_cases hc : (400 : Int) < (L.length : Int)
  · have hxz : x = (0, 0, 0, 0) := by rw [HX.out]; exact Lg.position_ill (Lg.right_long (by omega))
    subst hxz
    have bW1 : Below W.heap.size W W := Below.refl _ _
    have z0 := (bW1.cell (p := ⟨w.heap.size, 0, none⟩) (by show w.heap.size < _; omega)).trans HZ0.out
    have z1 := (bW1.cell (p := ⟨w.heap.size, 1, none⟩) (by show w.heap.size < _; omega)).trans HZ1.out
    have z2 := (bW1.cell (p := ⟨w.heap.size, 2, none⟩) (by show w.heap.size < _; omega)).trans HZ2.out
    have z3 := (bW1.cell (p := ⟨w.heap.size, 3, none⟩) (by show w.heap.size < _; omega)).trans HZ3.out
    have zf : ∀ j, W.frozen? ⟨w.heap.size, j, none⟩ = false := fun j => (bW1.frozen (by show w.heap.size < _; omega)).trans (HZF.out j)
    go_enter Try.func30, Try.ntmps30
    go_wp2_with fail
    rw [← HW.out]
    go_wp2_with fail
    refine bodyPost_ret (v := .agg #[.int .i64 0, .int .i64 0, .int .i64 0, .int .i64 0]) (by simp [results, Try.results30, go_sem, z0, z1, z2, z3] <;> rfl) rfl ⟨rfl, ?_⟩
    repeat (refine Below.setCell ?_ (by simp <;> omega) _)
    exact b0
  go_enter Try.func30, Try.ntmps30
  go_wp2_with fail
  rw [← HW.out]
  refine (ledgerRight_spec _ L _ (HV.out.below b0) hl).mono ?_
  rintro e w1 ⟨rfl, k1⟩
  have B1 : Below w.heap.size w w1 := b0.trans (k1.mono b0.size)
  have bW1 : Below W.heap.size W w1 := k1
  have hz1 : w.heap.size + 1 ≤ w1.heap.size := by rw [← hz]; exact k1.size
  clear k1
  obtain ⟨r, hr⟩ : ∃ r, r = Lg.right L := ⟨_, rfl⟩
  rw [← hr]
  have HR := Fk.hide hr
  clear hr
  cases r with
  | false =>
    have hxz : x = (0, 0, 0, 0) := by rw [HX.out]; exact Lg.position_ill HR.out.symm
    subst hxz
    have z0 := (bW1.cell (p := ⟨w.heap.size, 0, none⟩) (by show w.heap.size < _; omega)).trans HZ0.out
    have z1 := (bW1.cell (p := ⟨w.heap.size, 1, none⟩) (by show w.heap.size < _; omega)).trans HZ1.out
    have z2 := (bW1.cell (p := ⟨w.heap.size, 2, none⟩) (by show w.heap.size < _; omega)).trans HZ2.out
    have z3 := (bW1.cell (p := ⟨w.heap.size, 3, none⟩) (by show w.heap.size < _; omega)).trans HZ3.out
    have zf : ∀ j, w1.frozen? ⟨w.heap.size, j, none⟩ = false := fun j => (bW1.frozen (by show w.heap.size < _; omega)).trans (HZF.out j)
    go_wp2_with fail
    refine bodyPost_ret (v := .agg #[.int .i64 0, .int .i64 0, .int .i64 0, .int .i64 0]) (by simp [results, Try.results30, go_sem, z0, z1, z2, z3] <;> rfl) rfl ⟨rfl, ?_⟩
    repeat (refine Below.setCell ?_ (by simp <;> omega) _)
    exact B1
  | true =>
    obtain ⟨q, hq⟩ : ∃ q, q = Cm.inn owner 1 9 := ⟨_, rfl⟩
    have HQQ := Fk.hide hq
    have HOW : Hid (∀ w', Calls Try.prog 53 #[.int .i64 owner] w' fun e w'' => e = .returned (.bool q) ∧ w'' = w') := fun w' => by rw [hq]; exact l04Owner_any owner w'
    clear hq
    cases q with
    | false =>
      have hxz : x = (0, 0, 0, 0) := by rw [HX.out]; exact Lg.position_out HQQ.out.symm
      subst hxz
      have z0 := (bW1.cell (p := ⟨w.heap.size, 0, none⟩) (by show w.heap.size < _; omega)).trans HZ0.out
      have z1 := (bW1.cell (p := ⟨w.heap.size, 1, none⟩) (by show w.heap.size < _; omega)).trans HZ1.out
      have z2 := (bW1.cell (p := ⟨w.heap.size, 2, none⟩) (by show w.heap.size < _; omega)).trans HZ2.out
      have z3 := (bW1.cell (p := ⟨w.heap.size, 3, none⟩) (by show w.heap.size < _; omega)).trans HZ3.out
      have zf : ∀ j, w1.frozen? ⟨w.heap.size, j, none⟩ = false := fun j => (bW1.frozen (by show w.heap.size < _; omega)).trans (HZF.out j)
      go_wp2_with (go_at_call 53; refine (HOW.out _).mono ?_; rintro e w' ⟨rfl, rfl⟩)
      refine bodyPost_ret (v := .agg #[.int .i64 0, .int .i64 0, .int .i64 0, .int .i64 0]) (by simp [results, Try.results30, go_sem, z0, z1, z2, z3] <;> rfl) rfl ⟨rfl, ?_⟩
      repeat (refine Below.setCell ?_ (by simp <;> omega) _)
      exact B1
    | true =>
      have HQ : Hid (Lg.posn (fun f => decide (owner = 0) || decide (f.2.1 = owner)) L = x) := by show _ = _; rw [HX.out, Lg.posn_owner HQQ.out.symm]; exact (Lg.position_yes HR.out.symm).symm
      have HCL := Fk.hide (l11Position_any _ L owner w1 (HV.out.below B1) HR.out.symm)
      rw [HQ.out] at HCL
      go_wp2_with (go_at_call 53; refine (HOW.out _).mono ?_; rintro e w' ⟨rfl, rfl⟩)
      refine HCL.out.mono ?_
      rintro e w3 ⟨rfl, k3⟩
      have B3 : Below w.heap.size w w3 := B1.trans (k3.mono B1.size)
      have bW3 : Below W.heap.size W w3 := bW1.trans (k3.mono bW1.size)
      clear k3 B1 bW1
      have z0 := (bW3.cell (p := ⟨w.heap.size, 0, none⟩) (by show w.heap.size < _; omega)).trans HZ0.out
      have z1 := (bW3.cell (p := ⟨w.heap.size, 1, none⟩) (by show w.heap.size < _; omega)).trans HZ1.out
      have z2 := (bW3.cell (p := ⟨w.heap.size, 2, none⟩) (by show w.heap.size < _; omega)).trans HZ2.out
      have z3 := (bW3.cell (p := ⟨w.heap.size, 3, none⟩) (by show w.heap.size < _; omega)).trans HZ3.out
      have zf : ∀ j, w3.frozen? ⟨w.heap.size, j, none⟩ = false := fun j => (bW3.frozen (by show w.heap.size < _; omega)).trans (HZF.out j)
      go_wp2_with fail
      refine bodyPost_ret (v := .agg #[.int .i64 x.1, .int .i64 x.2.1, .int .i64 x.2.2.1, .int .i64 x.2.2.2]) (by simp [results, Try.results30, go_sem, z0, z1, z2, z3] <;> rfl) rfl ⟨rfl, ?_⟩
      repeat (refine Below.setCell ?_ (by simp <;> omega) _)
      exact B3

set_option maxHeartbeats 4000000 in
theorem even_impl (v : Value) (L : List En.E) (w : World) (hv : Rk.View En.S w v L) (hl : L.length ≤ 1048576) :
    Calls Try.prog 34 #[v] w fun e w' => e = .returned (.bool (Lg.even L)) ∧ Below w.heap.size w w' := by
  have HV := Fk.hide hv
  obtain ⟨a, cap, rfl, hs⟩ := hv
  clear hs
  go_enter Try.func34, Try.ntmps34
  go_wp2_with fail
  refine (ledgerRight_impl _ L _ HV.out hl).mono ?_
  rintro e w1 ⟨rfl, k1⟩
  have HB1 := Fk.hide k1
  obtain ⟨r, hr⟩ : ∃ r, r = Lg.right L := ⟨_, rfl⟩
  rw [← hr]
  have HR := Fk.hide hr
  clear hr k1
  cases r with
  | false =>
    have HE := Fk.hide (Lg.even_ill HR.out.symm)
    go_wp2_with fail
    go_ret
    exact ⟨by rw [HE.out]; rfl, HB1.out⟩
  | true =>
    have HE := Fk.hide (Lg.even_yes HR.out.symm)
    have HCL := Fk.hide (positionIn_all _ L w1 (HV.out.below HB1.out) HR.out.symm)
    obtain ⟨x, hx⟩ : ∃ x, x = Lg.posn (fun _ => true) L := ⟨_, rfl⟩
    rw [← hx] at HCL HE
    clear hx
    obtain ⟨x0, x1, x2, x3⟩ := x
    go_wp2_with fail
    refine HCL.out.mono ?_
    rintro e w3 ⟨rfl, k3⟩
    have HB3 := Fk.hide ((HB1.out.trans (k3.mono HB1.out.size)).alloc (Nat.le_trans HB1.out.size k3.size) (.cells #[.int .i64 x0, .int .i64 x1, .int .i64 x2, .int .i64 x3] 53))
    clear k3
    by_cases c0 : x0 = x1
    · have HE2 : Hid (Lg.even L = decide (x2 = x3)) := by show _ = _; rw [HE.out]; simp [c0]
      go_wp2_with fail
      go_ret
      exact ⟨by rw [HE2.out]; rfl, by simpa [c0] using HB3.out⟩
    · have HE2 : Hid (Lg.even L = false) := by show _ = _; rw [HE.out]; simp [c0]
      go_wp2_with fail
      go_ret
      exact ⟨by rw [HE2.out]; first | rfl | simp [c0], HB3.out⟩

set_option maxHeartbeats 4000000 in
theorem even_spec (v : Value) (L : List En.E) (w : World) (hv : Rk.View En.S w v L) (hl : L.length ≤ 1048576) :
    Calls Try.prog 33 #[v] w fun e w' => e = .returned (.bool (Lg.even L)) ∧ Below w.heap.size w w' := by
  have HV := Fk.hide hv
  obtain ⟨a, cap, rfl, hs⟩ := hv
  clear hs
  by_cases hc : (400 : Int) < (L.length : Int)
  · have HE := Fk.hide (Lg.even_ill (Lg.right_long (L := L) (by omega)))
    go_enter Try.func33, Try.ntmps33
    go_wp2_with fail
    go_ret
    exact ⟨by rw [HE.out]; rfl, Below.refl _ _⟩
  go_enter Try.func33, Try.ntmps33
  go_wp2_with fail
  refine (ledgerRight_spec _ L _ HV.out hl).mono ?_
  rintro e w1 ⟨rfl, k1⟩
  have HB1 := Fk.hide k1
  obtain ⟨r, hr⟩ : ∃ r, r = Lg.right L := ⟨_, rfl⟩
  rw [← hr]
  have HR := Fk.hide hr
  clear hr k1
  cases r with
  | false =>
    have HE := Fk.hide (Lg.even_ill HR.out.symm)
    go_wp2_with fail
    go_ret
    exact ⟨by rw [HE.out]; rfl, HB1.out⟩
  | true =>
    have HE := Fk.hide (Lg.even_yes HR.out.symm)
    have HCL := Fk.hide (Lg.posn_all (L := L) ▸ l11Position_any _ L 0 w1 (HV.out.below HB1.out) HR.out.symm)
    obtain ⟨x, hx⟩ : ∃ x, x = Lg.posn (fun _ => true) L := ⟨_, rfl⟩
    rw [← hx] at HCL HE
    clear hx
    obtain ⟨x0, x1, x2, x3⟩ := x
    go_wp2_with fail
    refine HCL.out.mono ?_
    rintro e w3 ⟨rfl, k3⟩
    have HB3 := Fk.hide ((HB1.out.trans (k3.mono HB1.out.size)).alloc (Nat.le_trans HB1.out.size k3.size) (.cells #[.int .i64 x0, .int .i64 x1, .int .i64 x2, .int .i64 x3] 53))
    clear k3
    by_cases c0 : x0 = x1
    · have HE2 : Hid (Lg.even L = decide (x2 = x3)) := by show _ = _; rw [HE.out]; simp [c0]
      go_wp2_with fail
      go_ret
      exact ⟨by rw [HE2.out]; rfl, by simpa [c0] using HB3.out⟩
    · have HE2 : Hid (Lg.even L = false) := by show _ = _; rw [HE.out]; simp [c0]
      go_wp2_with fail
      go_ret
      exact ⟨by rw [HE2.out]; first | rfl | simp [c0], HB3.out⟩
end Go.Proofs.Ytemhhmcedghcdaa
