/- The walks of both FieldOf: each answers 'fieldOf'. -/
import Derived.Test.YtlddmalhnappnaaRecRightImpl
import Derived.Test.YtlddmalhnappnaaRecRightSpec
import Derived.Test.YtlddmalhnappnaaCopyWalks
namespace Go.Proofs.Ytlddmalhnappnaa
open Go.RowKit
set_option linter.unusedVariables false
set_option linter.unusedSimpArgs false

set_option maxHeartbeats 2000000 in
theorem l03At_any (K id : Int) (v : Value) (L : List Fd.E) (w : World) (hv : Rk.View Fd.S w v L) (hl : L.length ≤ 1048576) :
    Calls Try.prog 44 #[.agg #[.int .i64 K, v], .int .i64 id] w fun e w' => e = .returned (.int .i64 (Rc.place L id)) ∧ Below w.heap.size w w' := by
  obtain ⟨W, hW⟩ : ∃ W, W = w.alloc (.cells #[.int .i64 K, v] 29) := ⟨_, rfl⟩
  have b0 : Below w.heap.size w W := by rw [hW]; exact (Below.refl _ _).alloc (Nat.le_refl _) _
  have hv' := hv.below b0
  have hcell : W.cell? ⟨w.heap.size, 1, none⟩ = some v := by rw [hW, Fk.cellTop _ _ _ _ _ rfl]; rfl
  have hsz : W.heap.size = w.heap.size + 1 := by rw [hW]; simp
  have HW := Fk.hide hW
  clear hW hv
  obtain ⟨a, cap, rfl, hs⟩ := hv'
  go_enter Try.func44, Try.ntmps44
  go_wp2_with fail
  rw [← HW.out]
  go_loopw [5] (fun i wr => ∃ k : Nat, k ≤ L.length ∧ i = .int .i64 k ∧ Hid (∀ j, j < k → Rc.idAt L j ≠ id) ∧ Below W.heap.size W wr) (fun i _ => L.length - (intOf i).toNat)
  case atStart => exact ⟨0, Nat.zero_le _, rfl, (fun j hj => absurd hj (by omega)), Below.refl _ _⟩
  case round =>
    obtain ⟨k, hk, rfl, HK, bel⟩ := hrel
    have hc1 : wr.cell? ⟨w.heap.size, 1, none⟩ = some (.slice a L.length cap) := (bel.cell (by show w.heap.size < _; omega)).trans hcell
    by_cases hlt : k < L.length
    · obtain ⟨b, o, rfl, hb, hs1⟩ := hs (by omega)
      have q0 : wr.cell? ⟨b, o + k * 2, none⟩ = some (.int .i64 (Rc.idAt L k)) := Fd.c0 (hs1.below hb bel) hlt
      obtain ⟨i, hi⟩ : ∃ i, i = Rc.idAt L k := ⟨_, rfl⟩
      have HI := Fk.hide hi
      rw [← hi] at q0
      clear hi
      by_cases he : i = id
      · have HP : Hid ((Rc.place L id) = k) := by
          show _ = _
          unfold Rc.place; rw [Rc.pos_hit hlt (HI.out.symm.trans he) HK.out, if_pos hlt]
        subst he
        go_wp2_with fail
        go_ret
        exact ⟨by rw [HP.out]; rfl, b0.trans (bel.mono b0.size)⟩
      · go_wp2_with fail
        go_roundw
        case rel =>
          refine ⟨k + 1, by omega, by go_num, (fun j hj => ?_), bel⟩
          by_cases e : j = k
          · rw [e, ← HI.out]; exact he
          · exact HK.out j (by omega)
        case measure => simp [intOf]; omega
    · have e : k = L.length := by omega
      have HP : Hid ((Rc.place L id) = -1) := by
        show _ = _
        unfold Rc.place; rw [Rc.pos_miss (by rw [← e]; exact HK.out), if_neg (Nat.lt_irrefl _)]
      subst e
      go_wp2_with fail
      go_ret
      exact ⟨by rw [HP.out]; rfl, b0.trans (bel.mono b0.size)⟩

set_option maxHeartbeats 2000000 in
theorem fieldOf_impl (K id : Int) (v : Value) (L : List Fd.E) (w : World) (hv : Rk.View Fd.S w v L) (hL : ∀ f ∈ L, Fd.Fit f) (hl : L.length ≤ maxLen) :
    Calls Try.prog 17 #[.agg #[.int .i64 K, v], .int .i64 id] w fun e w' => e = .returned (.agg #[.string (Rc.fieldOf K L id).1, .int .i64 0, .int .i64 (Rc.fieldOf K L id).2]) ∧ Below w.heap.size w w' := by
  obtain ⟨W, hW⟩ : ∃ W, W = (w.alloc (.cells #[.int .i64 K, v] 29)).alloc (.cells #[.string { data := #[] }, .int .i64 0, .int .i64 0] 35) := ⟨_, rfl⟩
  have b0 : Below w.heap.size w W := by
    rw [hW]
    repeat (first | exact Below.refl _ _ | refine Below.alloc ?_ (by simp <;> omega) _)
  have hv' := hv.below b0
  have hcell0 : W.cell? ⟨w.heap.size, 0, none⟩ = some (.int .i64 K) := by rw [hW, Fk.cellOld _ _ _ _ (by simp), Fk.cellTop _ _ _ _ _ rfl]; rfl
  have hcell : W.cell? ⟨w.heap.size, 1, none⟩ = some v := by rw [hW, Fk.cellOld _ _ _ _ (by simp), Fk.cellTop _ _ _ _ _ rfl]; rfl
  have q0 : W.cell? ⟨w.heap.size + 1, 0, none⟩ = some (.string { data := #[] }) := by rw [hW, Fk.cellTop _ _ _ _ _ (by simp)]; rfl
  have q1 : W.cell? ⟨w.heap.size + 1, 1, none⟩ = some (.int .i64 0) := by rw [hW, Fk.cellTop _ _ _ _ _ (by simp)]; rfl
  have q2 : W.cell? ⟨w.heap.size + 1, 2, none⟩ = some (.int .i64 0) := by rw [hW, Fk.cellTop _ _ _ _ _ (by simp)]; rfl
  have qf : ∀ j, W.frozen? ⟨w.heap.size + 1, j, none⟩ = false := fun j => by rw [hW, Fk.frozTop _ _ _ _ _ (by simp)]
  have hsz : W.heap.size = w.heap.size + 2 := by rw [hW]; simp
  have HW := Fk.hide hW
  clear hW hv
  have HV := Fk.hide hv'
  obtain ⟨a, cap, rfl, hs⟩ := hv'
  go_enter Try.func17, Try.ntmps17
  go_wp2_with fail
  rw [← HW.out]
  refine (recRight_impl K _ L _ HV.out hL hl).mono ?_
  rintro e w1 ⟨rfl, b1⟩
  have c1 : w1.cell? ⟨w.heap.size, 1, none⟩ = some (.slice a L.length cap) := (b1.cell (by show w.heap.size < _; omega)).trans hcell
  have p0 := (b1.cell (p := ⟨w.heap.size + 1, 0, none⟩) (by show w.heap.size + 1 < _; omega)).trans q0
  have p1 := (b1.cell (p := ⟨w.heap.size + 1, 1, none⟩) (by show w.heap.size + 1 < _; omega)).trans q1
  have p2 := (b1.cell (p := ⟨w.heap.size + 1, 2, none⟩) (by show w.heap.size + 1 < _; omega)).trans q2
  have pf : ∀ j, w1.frozen? ⟨w.heap.size + 1, j, none⟩ = false := fun j => (b1.frozen (by show w.heap.size + 1 < _; omega)).trans (qf j)
  have B1 := Fk.hide (b0.trans (b1.mono b0.size))
  have hz1 := b1.size
  have HB1 := Fk.hide b1
  clear b1 hcell hcell0 q0 q1 q2 qf
  obtain ⟨rb, hrb⟩ : ∃ rb, rb = Rc.right K L := ⟨_, rfl⟩
  have HR := Fk.hide hrb
  rw [← hrb]
  clear hrb
  cases rb with
  | false =>
    have HA : Hid (Rc.fieldOf K L id = (ByteArray.empty, 1)) := Rc.fieldOf_ill HR.out.symm
    go_wp2_with fail
    refine bodyPost_ret (v := .agg #[.string ByteArray.empty, .int .i64 0, .int .i64 1]) (by simp [results, Try.results17, go_sem, p0, p1, p2] <;> rfl) rfl ⟨by rw [HA.out], ?_⟩
    exact ((B1.out.setCell (by simp) _).setCell (by simp) _).setCell (by simp) _
  | true =>
    have h30 := (Rc.right_inv HR.out.symm).1.2.2
    have h500 := Rc.textAt_small HR.out.symm
    have hs1 := fun h0 => (hs h0)
    go_wp2_with fail
    go_loopw [13] (fun i wr => ∃ k : Nat, k ≤ L.length ∧ i = .int .i64 k ∧ Hid (∀ j, j < k → Rc.idAt L j ≠ id) ∧ Below w1.heap.size w1 wr) (fun i _ => L.length - (intOf i).toNat)
    case atStart => exact ⟨0, Nat.zero_le _, rfl, (fun j hj => absurd hj (by omega)), Below.refl _ _⟩
    case round =>
      obtain ⟨k, hk, rfl, HK, bel⟩ := hrel
      have c2 : wr.cell? ⟨w.heap.size, 1, none⟩ = some (.slice a L.length cap) := (bel.cell (by show w.heap.size < _; omega)).trans c1
      have t0 := (bel.cell (p := ⟨w.heap.size + 1, 0, none⟩) (by show w.heap.size + 1 < _; omega)).trans p0
      have t1 := (bel.cell (p := ⟨w.heap.size + 1, 1, none⟩) (by show w.heap.size + 1 < _; omega)).trans p1
      have t2 := (bel.cell (p := ⟨w.heap.size + 1, 2, none⟩) (by show w.heap.size + 1 < _; omega)).trans p2
      have tf : ∀ j, wr.frozen? ⟨w.heap.size + 1, j, none⟩ = false := fun j => (bel.frozen (by show w.heap.size + 1 < _; omega)).trans (pf j)
      have B2 := Fk.hide (B1.out.trans (bel.mono B1.out.size))
      have hzr := bel.size
      by_cases hlt : k < L.length
      · obtain ⟨b, o, rfl, hb, hs2⟩ := hs (by omega)
        have hs3 := (hs2.below hb HB1.out).below (Nat.lt_of_lt_of_le hb hz1) bel
        have y0 : wr.cell? ⟨b, o + k * 2, none⟩ = some (.int .i64 (Rc.idAt L k)) := Fd.c0 hs3 hlt
        have y1 : wr.cell? ⟨b, o + k * 2 + 1, none⟩ = some (.string (Rc.textAt L k)) := Fd.c1 hs3 hlt
        obtain ⟨i, hi⟩ : ∃ i, i = Rc.idAt L k := ⟨_, rfl⟩
        obtain ⟨t, ht⟩ : ∃ t, t = Rc.textAt L k := ⟨_, rfl⟩
        have hts : t.size ≤ 500 := by rw [ht]; exact h500 k
        have HI := Fk.hide hi
        have HT := Fk.hide ht
        rw [← hi] at y0
        rw [← ht] at y1
        clear hi ht hs3
        by_cases he : i = id
        · have HA : Hid (Rc.fieldOf K L id = (t, 0)) := by show _ = _; rw [HT.out]; exact Rc.fieldOf_hit HR.out.symm hlt (HI.out.symm.trans he) HK.out
          subst he
          go_wp2_with fail
          refine (copyText_any t _ (by omega)).mono ?_
          rintro e w3 ⟨rfl, b3⟩
          have v0 := (b3.cell (p := ⟨w.heap.size + 1, 0, none⟩) (by show w.heap.size + 1 < _; omega)).trans t0
          have v1 := (b3.cell (p := ⟨w.heap.size + 1, 1, none⟩) (by show w.heap.size + 1 < _; omega)).trans t1
          have v2 := (b3.cell (p := ⟨w.heap.size + 1, 2, none⟩) (by show w.heap.size + 1 < _; omega)).trans t2
          have vf : ∀ j, w3.frozen? ⟨w.heap.size + 1, j, none⟩ = false := fun j => (b3.frozen (by show w.heap.size + 1 < _; omega)).trans (tf j)
          have B3 := Fk.hide (B2.out.trans (b3.mono B2.out.size))
          clear b3 t0 t1 t2 tf p0 p1 p2 pf y0 y1
          go_wp2_with fail
          refine bodyPost_ret (v := .agg #[.string t, .int .i64 0, .int .i64 0]) (by simp [results, Try.results17, go_sem, v0, v1, v2] <;> rfl) rfl ⟨by rw [HA.out], ?_⟩
          exact ((B3.out.setCell (by simp) _).setCell (by simp) _).setCell (by simp) _
        · go_wp2_with fail
          go_roundw
          case rel =>
            refine ⟨k + 1, by omega, by go_num, (fun j hj => ?_), bel⟩
            by_cases e : j = k
            · rw [e, ← HI.out]; exact he
            · exact HK.out j (by omega)
          case measure => simp [intOf]; omega
      · have e : k = L.length := by omega
        have HA : Hid (Rc.fieldOf K L id = (ByteArray.empty, 6)) := Rc.fieldOf_miss HR.out.symm (by rw [← e]; exact HK.out)
        subst e
        go_wp2_with fail
        refine bodyPost_ret (v := .agg #[.string ByteArray.empty, .int .i64 0, .int .i64 6]) (by simp [results, Try.results17, go_sem, t0, t1, t2] <;> rfl) rfl ⟨by rw [HA.out], ?_⟩
        exact ((B2.out.setCell (by simp) _).setCell (by simp) _).setCell (by simp) _

set_option maxHeartbeats 2000000 in
theorem fieldOf_spec (K id : Int) (v : Value) (L : List Fd.E) (w : World) (hv : Rk.View Fd.S w v L) (hL : ∀ f ∈ L, Fd.Fit f) (hl : L.length ≤ maxLen) :
    Calls Try.prog 16 #[.agg #[.int .i64 K, v], .int .i64 id] w fun e w' => e = .returned (.agg #[.string (Rc.fieldOf K L id).1, .int .i64 0, .int .i64 (Rc.fieldOf K L id).2]) ∧ Below w.heap.size w w' := by
  obtain ⟨W, hW⟩ : ∃ W, W = (w.alloc (.cells #[.int .i64 K, v] 29)).alloc (.cells #[.string { data := #[] }, .int .i64 0, .int .i64 0] 35) := ⟨_, rfl⟩
  have b0 : Below w.heap.size w W := by
    rw [hW]
    repeat (first | exact Below.refl _ _ | refine Below.alloc ?_ (by simp <;> omega) _)
  have hv' := hv.below b0
  have hcell0 : W.cell? ⟨w.heap.size, 0, none⟩ = some (.int .i64 K) := by rw [hW, Fk.cellOld _ _ _ _ (by simp), Fk.cellTop _ _ _ _ _ rfl]; rfl
  have hcell : W.cell? ⟨w.heap.size, 1, none⟩ = some v := by rw [hW, Fk.cellOld _ _ _ _ (by simp), Fk.cellTop _ _ _ _ _ rfl]; rfl
  have q0 : W.cell? ⟨w.heap.size + 1, 0, none⟩ = some (.string { data := #[] }) := by rw [hW, Fk.cellTop _ _ _ _ _ (by simp)]; rfl
  have q1 : W.cell? ⟨w.heap.size + 1, 1, none⟩ = some (.int .i64 0) := by rw [hW, Fk.cellTop _ _ _ _ _ (by simp)]; rfl
  have q2 : W.cell? ⟨w.heap.size + 1, 2, none⟩ = some (.int .i64 0) := by rw [hW, Fk.cellTop _ _ _ _ _ (by simp)]; rfl
  have qf : ∀ j, W.frozen? ⟨w.heap.size + 1, j, none⟩ = false := fun j => by rw [hW, Fk.frozTop _ _ _ _ _ (by simp)]
  have hsz : W.heap.size = w.heap.size + 2 := by rw [hW]; simp
  have HW := Fk.hide hW
  clear hW hv
  have HV := Fk.hide hv'
  obtain ⟨a, cap, rfl, hs⟩ := hv'
  go_enter Try.func16, Try.ntmps16
  go_wp2_with fail
  rw [← HW.out]
  refine (recRight_spec K _ L _ HV.out hL hl).mono ?_
  rintro e w1 ⟨rfl, b1⟩
  have c0 : w1.cell? ⟨w.heap.size, 0, none⟩ = some (.int .i64 K) := (b1.cell (by show w.heap.size < _; omega)).trans hcell0
  have c1 : w1.cell? ⟨w.heap.size, 1, none⟩ = some (.slice a L.length cap) := (b1.cell (by show w.heap.size < _; omega)).trans hcell
  have p0 := (b1.cell (p := ⟨w.heap.size + 1, 0, none⟩) (by show w.heap.size + 1 < _; omega)).trans q0
  have p1 := (b1.cell (p := ⟨w.heap.size + 1, 1, none⟩) (by show w.heap.size + 1 < _; omega)).trans q1
  have p2 := (b1.cell (p := ⟨w.heap.size + 1, 2, none⟩) (by show w.heap.size + 1 < _; omega)).trans q2
  have pf : ∀ j, w1.frozen? ⟨w.heap.size + 1, j, none⟩ = false := fun j => (b1.frozen (by show w.heap.size + 1 < _; omega)).trans (qf j)
  have B1 := Fk.hide (b0.trans (b1.mono b0.size))
  have hz1 := b1.size
  have HB1 := Fk.hide b1
  clear b1 hcell hcell0 q0 q1 q2 qf
  obtain ⟨rb, hrb⟩ : ∃ rb, rb = Rc.right K L := ⟨_, rfl⟩
  have HR := Fk.hide hrb
  rw [← hrb]
  clear hrb
  cases rb with
  | false =>
    have HA : Hid (Rc.fieldOf K L id = (ByteArray.empty, 1)) := Rc.fieldOf_ill HR.out.symm
    go_wp2_with fail
    refine bodyPost_ret (v := .agg #[.string ByteArray.empty, .int .i64 0, .int .i64 1]) (by simp [results, Try.results16, go_sem, p0, p1, p2] <;> rfl) rfl ⟨by rw [HA.out], ?_⟩
    exact ((B1.out.setCell (by simp) _).setCell (by simp) _).setCell (by simp) _
  | true =>
    have h30 := (Rc.right_inv HR.out.symm).1.2.2
    go_wp2_with fail
    refine (l03At_any K id _ L _ (HV.out.below HB1.out) (by omega)).mono ?_
    rintro e w2 ⟨rfl, b2⟩
    have c2 : w2.cell? ⟨w.heap.size, 1, none⟩ = some (.slice a L.length cap) := (b2.cell (by show w.heap.size < _; omega)).trans c1
    have t0 := (b2.cell (p := ⟨w.heap.size + 1, 0, none⟩) (by show w.heap.size + 1 < _; omega)).trans p0
    have t1 := (b2.cell (p := ⟨w.heap.size + 1, 1, none⟩) (by show w.heap.size + 1 < _; omega)).trans p1
    have t2 := (b2.cell (p := ⟨w.heap.size + 1, 2, none⟩) (by show w.heap.size + 1 < _; omega)).trans p2
    have tf : ∀ j, w2.frozen? ⟨w.heap.size + 1, j, none⟩ = false := fun j => (b2.frozen (by show w.heap.size + 1 < _; omega)).trans (pf j)
    have B2 := Fk.hide (B1.out.trans (b2.mono B1.out.size))
    have hz2 := b2.size
    have HB2 := Fk.hide b2
    clear b2 p0 p1 p2 pf c0 c1
    rcases Rc.place_cases L id with ⟨h1, hb1⟩ | ⟨k, hk, h1, h2, hb1⟩
    · have HA : Hid (Rc.fieldOf K L id = (ByteArray.empty, 6)) := Rc.fieldOf_miss HR.out.symm hb1
      rw [h1]
      clear h1 hb1
      go_wp2_with fail
      refine bodyPost_ret (v := .agg #[.string ByteArray.empty, .int .i64 0, .int .i64 6]) (by simp [results, Try.results16, go_sem, t0, t1, t2] <;> rfl) rfl ⟨by rw [HA.out], ?_⟩
      exact ((B2.out.setCell (by simp) _).setCell (by simp) _).setCell (by simp) _
    · have HA : Hid (Rc.fieldOf K L id = (Rc.textAt L k, 0)) := Rc.fieldOf_hit HR.out.symm hk h2 hb1
      rw [h1]
      clear h1 hb1 h2
      obtain ⟨b, o, rfl, hb, hs2⟩ := hs (by omega)
      have y1 : w2.cell? ⟨b, o + k * 2 + 1, none⟩ = some (.string (Rc.textAt L k)) := Fd.c1 ((hs2.below hb HB1.out).below (Nat.lt_of_lt_of_le hb hz1) HB2.out) hk
      obtain ⟨t, ht⟩ : ∃ t, t = Rc.textAt L k := ⟨_, rfl⟩
      rw [← ht] at y1 HA
      clear ht
      go_wp2_with fail
      refine bodyPost_ret (v := .agg #[.string t, .int .i64 0, .int .i64 0]) (by simp [results, Try.results16, go_sem, t0, t1, t2] <;> rfl) rfl ⟨by rw [HA.out], ?_⟩
      exact ((B2.out.setCell (by simp) _).setCell (by simp) _).setCell (by simp) _
end Go.Proofs.Ytlddmalhnappnaa
