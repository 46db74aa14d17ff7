/- The walks of the specification's l06Do and OldDo: what a command does to an older book. -/
import Derived.Test.YtfagldipjpaceaaBookDo
import Derived.Test.YtfagldipjpaceaaBookOpen
import Derived.Test.YtfagldipjpaceaaOldRightSpec2
import Derived.Test.YtfagldipjpaceaaCmdOldSpec
namespace Go.Proofs.Ytfagldipjpaceaa
open Go.RowKit
set_option linter.unusedVariables false
set_option linter.unusedSimpArgs false
namespace Dm
def zero : Bk := ⟨[], [], 0, []⟩
/-- what is answered: the code, and the book and what is told, if it is done -/
def ans (c : Cm.C) (X : Bk) : Int × Bk := if (doo c X).1 = 0 then doo c X else ((doo c X).1, zero)
def oldDo (c : Cm.C) (B A : List Or.E) (n : Int) : Int × Bk :=
  if !(Ob.right B A n && Cm.right c) then (1, zero) else if !Cm.old c then (12, zero) else ans c ⟨B, A, n, []⟩
theorem right_fine {B A : List Or.E} {n : Int} (h : Ob.right B A n = true) : (1 ≤ n ∧ n ≤ 1000000) ∧ B.length + A.length ≤ 24 ∧ (∀ o ∈ B, Fine o ∧ o.2.2.2.2.2.2.1 = 0) ∧ (∀ o ∈ A, Fine o ∧ o.2.2.2.2.2.2.1 = 0) := by
  have one : ∀ (buy : Bool) (L : List Or.E), Ob.side n buy L = true → ∀ o ∈ L, Fine o ∧ o.2.2.2.2.2.2.1 = 0 := by
    intro buy L hs o ho
    obtain ⟨i, hi, rfl⟩ := List.getElem_of_mem ho
    have := Ob.upTo_inv hs i hi
    simp only [Ob.step, Ob.okP, Ob.okN, Bool.and_eq_true, decide_eq_true_eq] at this
    rw [show Ob.at' L i = L[i] from Rk.at_get L i hi] at this
    obtain ⟨⟨⟨h1, h2, h3⟩, h4, h5, h6, h7⟩, _⟩ := this
    exact ⟨⟨⟨by omega, by omega⟩, ⟨by omega, by omega⟩, ⟨by omega, by omega⟩, fun h => by omega⟩, h2⟩
  simp only [Ob.right, Bool.and_eq_true, decide_eq_true_eq] at h
  obtain ⟨⟨h1, h2, h3⟩, h4, h5, _⟩ := h
  exact ⟨⟨h1, h2⟩, by omega, one _ _ h4, one _ _ h5⟩
end Dm
theorem Bw.past5 {w : World} {b p i : Nat} {x y z s t v : Value} (hb : p ≠ b) (h : w.cell? ⟨p, i, none⟩ = some v) : (((((w.setCell ⟨b, 0, none⟩ x).setCell ⟨b, 1, none⟩ y).setCell ⟨b, 2, none⟩ z).setCell ⟨b, 3, none⟩ s).setCell ⟨b, 4, none⟩ t).cell? ⟨p, i, none⟩ = some v := by
  have ne : ∀ j, (⟨b, j, none⟩ : Addr) ≠ ⟨p, i, none⟩ := fun j e => hb (congrArg Addr.block e).symm
  rw [World.cell?_setCell_other _ _ _ _ (ne 4), World.cell?_setCell_other _ _ _ _ (ne 3), World.cell?_setCell_other _ _ _ _ (ne 2), World.cell?_setCell_other _ _ _ _ (ne 1), World.cell?_setCell_other _ _ _ _ (ne 0)]
  exact h
theorem Rk.Own.setLow {α : Type} {S : Rk.Shape α} {w : World} {base b : Nat} {e : TypeId} {v : Value} {L : List α} (h : Rk.Own S w base e v L) (hb : b < base) (i : Nat) (x : Value) : Rk.Own S (w.setCell ⟨b, i, none⟩ x) base e v L :=
  h.kept (Fk.grownBy_setCell w b i x) (fun k hk e => by have := (h.lt k hk).1; cases e; omega)
theorem Bw.past5d {w : World} {b p i : Nat} {x y z s t v : Value} (hb : p ≠ b) (h : w.cell? ⟨p, i, none⟩ = some v) : ((((((w.setCell ⟨b, 0, none⟩ x).setCell ⟨b, 1, none⟩ y).setCell ⟨b, 2, none⟩ z).setCell ⟨b, 3, none⟩ s).setCell ⟨b, 4, none⟩ t).drew).cell? ⟨p, i, none⟩ = some v := by
  have e : ∀ (v : World) (a : Addr), v.drew.cell? a = v.cell? a := fun _ _ => rfl
  rw [e]
  exact Bw.past5 hb h
set_option maxRecDepth 100000 in
set_option maxHeartbeats 8000000 in
theorem l06Do_any (u v : Value) (n : Int) (B A : List Or.E) (c : Cm.C) (w : World) (hu : Rk.View Or.S w u B) (hv : Rk.View Or.S w v A) (su : Rk.Shut u) (sv : Rk.Shut v) (hr : Ob.right B A n = true) (hc : Cm.right c = true) (hp : c.post = false) :
    Calls Try.prog 43 #[.agg #[u, v, .int .i64 n], .agg #[.int .i64 c.kind, .int .i64 c.owner, .int .i64 c.id, .bool c.buy, .int .i64 c.price, .int .i64 c.amount, .int .i64 c.life, .bool c.post, .int .i64 c.peak, .bool c.guard]] w fun e w' => (∃ x y z, e = .returned (.agg #[x, y, .int .i64 (Dm.ans c ⟨B, A, n, []⟩).2.n, z, .int .i64 (Dm.ans c ⟨B, A, n, []⟩).1]) ∧ Ob.Two w' w.heap.size 40 x y (Dm.ans c ⟨B, A, n, []⟩).2.b (Dm.ans c ⟨B, A, n, []⟩).2.a ∧ Rk.Own Vt.S w' w.heap.size 48 z (Dm.ans c ⟨B, A, n, []⟩).2.ev) ∧ Below w.heap.size w w' := by
  obtain ⟨⟨n1, n2⟩, l24, fb, fa⟩ := Dm.right_fine hr
  have HPP := Fk.hide hp
  have HCC := Fk.hide hc
  clear hp hc
  obtain ⟨W, hW⟩ : ∃ W, W = ((w.alloc (.cells #[u, v, .int .i64 n] 25)).alloc (.cells #[.int .i64 c.kind, .int .i64 c.owner, .int .i64 c.id, .bool c.buy, .int .i64 c.price, .int .i64 c.amount, .int .i64 c.life, .bool c.post, .int .i64 c.peak, .bool c.guard] 27)).alloc (.cells #[.slice none 0 0, .slice none 0 0, .int .i64 0, .slice none 0 0, .int .i64 0] 32) := ⟨_, rfl⟩
  have bW : Below w.heap.size w W := by rw [hW]; exact (((Below.refl _ _).alloc (Nat.le_refl _) _).alloc (by simp) _).alloc (by simp; omega) _
  have hz : W.heap.size = w.heap.size + 3 := by rw [hW]; simp
  have o0 : W.cell? ⟨w.heap.size, 0, none⟩ = some u := by rw [hW, Fk.cellOld _ _ _ _ (by simp; omega), Fk.cellOld _ _ _ _ (by simp), Fk.cellTop _ _ _ _ _ rfl]; rfl
  have o1 : W.cell? ⟨w.heap.size, 1, none⟩ = some v := by rw [hW, Fk.cellOld _ _ _ _ (by simp; omega), Fk.cellOld _ _ _ _ (by simp), Fk.cellTop _ _ _ _ _ rfl]; rfl
  have o2 : W.cell? ⟨w.heap.size, 2, none⟩ = some (.int .i64 n) := by rw [hW, Fk.cellOld _ _ _ _ (by simp; omega), Fk.cellOld _ _ _ _ (by simp), Fk.cellTop _ _ _ _ _ rfl]; rfl
  have m0 : W.cell? ⟨w.heap.size + 1, 0, none⟩ = some (.int .i64 c.kind) := by rw [hW, Fk.cellOld _ _ _ _ (by simp), Fk.cellTop _ _ _ _ _ (by simp)]; rfl
  have m1 : W.cell? ⟨w.heap.size + 1, 1, none⟩ = some (.int .i64 c.owner) := by rw [hW, Fk.cellOld _ _ _ _ (by simp), Fk.cellTop _ _ _ _ _ (by simp)]; rfl
  have m2 : W.cell? ⟨w.heap.size + 1, 2, none⟩ = some (.int .i64 c.id) := by rw [hW, Fk.cellOld _ _ _ _ (by simp), Fk.cellTop _ _ _ _ _ (by simp)]; rfl
  have m3 : W.cell? ⟨w.heap.size + 1, 3, none⟩ = some (.bool c.buy) := by rw [hW, Fk.cellOld _ _ _ _ (by simp), Fk.cellTop _ _ _ _ _ (by simp)]; rfl
  have m4 : W.cell? ⟨w.heap.size + 1, 4, none⟩ = some (.int .i64 c.price) := by rw [hW, Fk.cellOld _ _ _ _ (by simp), Fk.cellTop _ _ _ _ _ (by simp)]; rfl
  have m5 : W.cell? ⟨w.heap.size + 1, 5, none⟩ = some (.int .i64 c.amount) := by rw [hW, Fk.cellOld _ _ _ _ (by simp), Fk.cellTop _ _ _ _ _ (by simp)]; rfl
  have m6 : W.cell? ⟨w.heap.size + 1, 6, none⟩ = some (.int .i64 c.life) := by rw [hW, Fk.cellOld _ _ _ _ (by simp), Fk.cellTop _ _ _ _ _ (by simp)]; rfl
  have m7 : W.cell? ⟨w.heap.size + 1, 7, none⟩ = some (.bool c.post) := by rw [hW, Fk.cellOld _ _ _ _ (by simp), Fk.cellTop _ _ _ _ _ (by simp)]; rfl
  have m8 : W.cell? ⟨w.heap.size + 1, 8, none⟩ = some (.int .i64 c.peak) := by rw [hW, Fk.cellOld _ _ _ _ (by simp), Fk.cellTop _ _ _ _ _ (by simp)]; rfl
  have m9 : W.cell? ⟨w.heap.size + 1, 9, none⟩ = some (.bool c.guard) := by rw [hW, Fk.cellOld _ _ _ _ (by simp), Fk.cellTop _ _ _ _ _ (by simp)]; rfl
  have HZ0 : Hid (W.cell? ⟨w.heap.size + 2, 0, none⟩ = some (.slice none 0 0)) := by show _ = _; rw [hW, Fk.cellTop _ _ _ _ _ (by simp)]; rfl
  have HZ1 : Hid (W.cell? ⟨w.heap.size + 2, 1, none⟩ = some (.slice none 0 0)) := by show _ = _; rw [hW, Fk.cellTop _ _ _ _ _ (by simp)]; rfl
  have HZ2 : Hid (W.cell? ⟨w.heap.size + 2, 2, none⟩ = some (.int .i64 0)) := by show _ = _; rw [hW, Fk.cellTop _ _ _ _ _ (by simp)]; rfl
  have HZ3 : Hid (W.cell? ⟨w.heap.size + 2, 3, none⟩ = some (.slice none 0 0)) := by show _ = _; rw [hW, Fk.cellTop _ _ _ _ _ (by simp)]; rfl
  have HZ4 : Hid (W.cell? ⟨w.heap.size + 2, 4, none⟩ = some (.int .i64 0)) := by show _ = _; rw [hW, Fk.cellTop _ _ _ _ _ (by simp)]; rfl
  have HZF : Hid (∀ j, W.frozen? ⟨w.heap.size + 2, j, none⟩ = false) := fun j => by rw [hW, Fk.frozTop _ _ _ _ _ (by simp)]
  have HU := Fk.hide (hu.below bW)
  have HV := Fk.hide (hv.below bW)
  have HW := Fk.hide hW
  have HBW := Fk.hide bW
  obtain ⟨ua, uc, rfl, _⟩ := hu
  obtain ⟨va, vc, rfl, _⟩ := hv
  clear hW
  obtain ⟨r, hrr⟩ : ∃ r, r = Dm.ans c ⟨B, A, n, []⟩ := ⟨_, rfl⟩
  rw [← hrr]
  have HR := Fk.hide hrr
  clear hrr bW
  go_enter Try.func43, Try.ntmps43
  go_wp2_with fail
  rw [← HW.out]
  refine (l06Open_is _ _ n B A W HU.out HV.out su sv (by omega) (by omega)).mono ?_
  rintro e w1 ⟨⟨x, y, b, rfl, J1⟩, k1⟩
  have c0 := (k1.cell (p := ⟨w.heap.size + 1, 0, none⟩) (by show w.heap.size + 1 < _; omega)).trans m0
  have c1 := (k1.cell (p := ⟨w.heap.size + 1, 1, none⟩) (by show w.heap.size + 1 < _; omega)).trans m1
  have c2 := (k1.cell (p := ⟨w.heap.size + 1, 2, none⟩) (by show w.heap.size + 1 < _; omega)).trans m2
  have c3 := (k1.cell (p := ⟨w.heap.size + 1, 3, none⟩) (by show w.heap.size + 1 < _; omega)).trans m3
  have c4 := (k1.cell (p := ⟨w.heap.size + 1, 4, none⟩) (by show w.heap.size + 1 < _; omega)).trans m4
  have c5 := (k1.cell (p := ⟨w.heap.size + 1, 5, none⟩) (by show w.heap.size + 1 < _; omega)).trans m5
  have c6 := (k1.cell (p := ⟨w.heap.size + 1, 6, none⟩) (by show w.heap.size + 1 < _; omega)).trans m6
  have c7 := (k1.cell (p := ⟨w.heap.size + 1, 7, none⟩) (by show w.heap.size + 1 < _; omega)).trans m7
  have c8 := (k1.cell (p := ⟨w.heap.size + 1, 8, none⟩) (by show w.heap.size + 1 < _; omega)).trans m8
  have c9 := (k1.cell (p := ⟨w.heap.size + 1, 9, none⟩) (by show w.heap.size + 1 < _; omega)).trans m9
  clear m0 m1 m2 m3 m4 m5 m6 m7 m8 m9 o0 o1 o2
  have HB1 := Fk.hide (HBW.out.trans (k1.mono HBW.out.size))
  have HK1 := Fk.hide k1
  have HJ1 := Fk.hide J1
  clear k1 J1
  go_wp2_with fail
  refine (bookDo_any W.heap.size b x y _ ⟨B, A, n, []⟩ c w1 HJ1.out (HK1.out.size) HCC.out HPP.out ?_ ?_ (by simp) ⟨by show 0 ≤ n; omega, n2⟩).mono ?_
  · intro bb o ho
    cases bb
    · exact (fa o ho).1
    · exact (fb o ho).1
  · intro bb
    cases bb
    · show A.length ≤ 1000; omega
    · show B.length ≤ 1000; omega
  rintro e w2 ⟨rfl, ⟨x2, y2, z2, J2⟩, B2, F2⟩
  obtain ⟨d, hd⟩ : ∃ d, d = Dm.doo c ⟨B, A, n, []⟩ := ⟨_, rfl⟩
  rw [← hd] at J2 ⊢
  have HA : Hid (r = if d.1 = 0 then d else (d.1, Dm.zero)) := by show _ = _; rw [HR.out, hd]; rfl
  have HB2 := Fk.hide (HK1.out.trans B2)
  have HBB := Fk.hide (HB1.out.trans (B2.mono (by omega)))
  have HJ2 := Fk.hide J2
  clear hd J2 B2 F2 c0 c1 c2 c3 c4 c5 c6 c7 c8 c9 HJ1
  have hz2 : w.heap.size + 3 ≤ w2.heap.size := by rw [← hz]; exact HB2.out.size
  by_cases h0 : d.1 = 0
  · have h0' : (d.1 == 0) = true := by simpa using h0
    have hra : r = d := HA.out.trans (if_pos h0)
    subst hra
    obtain ⟨dc, db⟩ := r
    simp only at h0
    subst h0
    have i0 := HJ2.out.c0
    have i1 := HJ2.out.c1
    have i2 := HJ2.out.c2
    have i3 := HJ2.out.c3
    have HO := Fk.hide HJ2.out.two
    have HEV := Fk.hide HJ2.out.evs
    have hbz : Hid (W.heap.size ≤ b) := HJ2.out.hb
    have HNB : Hid (b ≠ w.heap.size + 1 + 1) := fun e => by have := hbz.out; omega
    obtain ⟨xa, xn, xc, rfl⟩ := HO.out.b.slice'
    obtain ⟨ya, yn, yc, rfl⟩ := HO.out.a.slice'
    obtain ⟨za, zn, zc, rfl⟩ := HEV.out.slice'
    have HC0 := Fk.hide i0
    have HC1 := Fk.hide i1
    have HC2 := Fk.hide i2
    have HC3 := Fk.hide i3
    have z0 := (HB2.out.cell (p := ⟨w.heap.size + 2, 0, none⟩) (by show w.heap.size + 2 < _; omega)).trans HZ0.out
    have z1 := (HB2.out.cell (p := ⟨w.heap.size + 2, 1, none⟩) (by show w.heap.size + 2 < _; omega)).trans HZ1.out
    have z2 := (HB2.out.cell (p := ⟨w.heap.size + 2, 2, none⟩) (by show w.heap.size + 2 < _; omega)).trans HZ2.out
    have z3 := (HB2.out.cell (p := ⟨w.heap.size + 2, 3, none⟩) (by show w.heap.size + 2 < _; omega)).trans HZ3.out
    have z4 := (HB2.out.cell (p := ⟨w.heap.size + 2, 4, none⟩) (by show w.heap.size + 2 < _; omega)).trans HZ4.out
    have zf : ∀ j, w2.frozen? ⟨w.heap.size + 2, j, none⟩ = false := fun j => (HB2.out.frozen (by show w.heap.size + 2 < _; omega)).trans (HZF.out j)
    go_wp2_with fail
    have hS0 : (fun w' => w'.cell? ⟨b, 0, none⟩ = some (.slice xa xn xc) ∧ w'.cell? ⟨b, 1, none⟩ = some (.slice ya yn yc) ∧ w'.cell? ⟨b, 2, none⟩ = some (.int .i64 db.n) ∧ w'.cell? ⟨b, 3, none⟩ = some (.slice za zn zc)) w2.drew := ⟨HC0.out, HC1.out, HC2.out, HC3.out⟩
    refine wp_region_held_drew (S := (fun w' => w'.cell? ⟨b, 0, none⟩ = some (.slice xa xn xc) ∧ w'.cell? ⟨b, 1, none⟩ = some (.slice ya yn yc) ∧ w'.cell? ⟨b, 2, none⟩ = some (.int .i64 db.n) ∧ w'.cell? ⟨b, 3, none⟩ = some (.slice za zn zc))) (by kernel_rfl) ?_ (fun hH => ?_)
    · (try dsimp only); exact hS0
    obtain ⟨X, hX⟩ : ∃ X, X = w2.drew := ⟨_, rfl⟩
    have bX : Below w2.heap.size w2 X := by rw [hX]; exact Below.drew (Below.refl _ _)
    rw [← hX] at hH ⊢
    clear hX hS0
    have y0 := (bX.cell (p := ⟨w.heap.size + 2, 0, none⟩) (by show w.heap.size + 2 < _; omega)).trans z0
    have y1 := (bX.cell (p := ⟨w.heap.size + 2, 1, none⟩) (by show w.heap.size + 2 < _; omega)).trans z1
    have y2 := (bX.cell (p := ⟨w.heap.size + 2, 2, none⟩) (by show w.heap.size + 2 < _; omega)).trans z2
    have y3 := (bX.cell (p := ⟨w.heap.size + 2, 3, none⟩) (by show w.heap.size + 2 < _; omega)).trans z3
    have y4 := (bX.cell (p := ⟨w.heap.size + 2, 4, none⟩) (by show w.heap.size + 2 < _; omega)).trans z4
    have yf : ∀ j, X.frozen? ⟨w.heap.size + 2, j, none⟩ = false := fun j => (bX.frozen (by show w.heap.size + 2 < _; omega)).trans (zf j)
    have d0 := (bX.cell (p := ⟨b, 0, none⟩) HJ2.out.kind.lt).trans HC0.out
    have d1 := (bX.cell (p := ⟨b, 1, none⟩) HJ2.out.kind.lt).trans HC1.out
    have d2 := (bX.cell (p := ⟨b, 2, none⟩) HJ2.out.kind.lt).trans HC2.out
    have d3 := (bX.cell (p := ⟨b, 3, none⟩) HJ2.out.kind.lt).trans HC3.out
    have HD0 := Fk.hide d0
    have HD1 := Fk.hide d1
    have HD2 := Fk.hide d2
    have HD3 := Fk.hide d3
    have HOX := Fk.hide (HO.out.below bX)
    have HEX := Fk.hide (HEV.out.below bX)
    have HBX := Fk.hide (HBB.out.trans (bX.mono HBB.out.size))
    clear i0 i1 i2 i3 z0 z1 z2 z3 z4 zf
    refine wpAnyH_take (i := 0) (oi := ?_) (v := ?_) ?_ (by kernel_rfl) (by kernel_rfl) (by kernel_rfl) ?_ ?_ (by assumption) ?_
    rotate_left
    rotate_left
    · (simp only [List.getElem?_toArray, List.getElem?_cons_succ, List.getElem?_cons_zero]; rfl)
    · exact fun _ _ _ h => h
    · refine Or.inl ⟨by rfl, ?_⟩; (intro w hSw; (try dsimp only at hSw); go_simp; first | done | with_reducible rfl)
    (try simp only [Act.put, List.setIfInBounds_toArray, List.set_cons_zero, List.set_cons_succ])
    refine wpAnyH_take (i := 1) (oi := ?_) (v := ?_) ?_ (by kernel_rfl) (by kernel_rfl) (by kernel_rfl) ?_ ?_ (by assumption) ?_
    rotate_left
    rotate_left
    · (simp only [List.getElem?_toArray, List.getElem?_cons_succ, List.getElem?_cons_zero]; rfl)
    · exact fun _ _ _ h => h
    · refine Or.inl ⟨by rfl, ?_⟩; (intro w hSw; (try dsimp only at hSw); go_simp; first | done | with_reducible rfl)
    (try simp only [Act.put, List.setIfInBounds_toArray, List.set_cons_zero, List.set_cons_succ])
    refine wpAnyH_take (i := 2) (oi := ?_) (v := ?_) ?_ (by kernel_rfl) (by kernel_rfl) (by kernel_rfl) ?_ ?_ (by assumption) ?_
    rotate_left
    rotate_left
    · (simp only [List.getElem?_toArray, List.getElem?_cons_succ, List.getElem?_cons_zero]; rfl)
    · exact fun _ _ _ h => h
    · refine Or.inl ⟨by rfl, ?_⟩; (intro w hSw; (try dsimp only at hSw); go_simp; first | done | with_reducible rfl)
    (try simp only [Act.put, List.setIfInBounds_toArray, List.set_cons_zero, List.set_cons_succ])
    refine wpAnyH_take (i := 3) (oi := ?_) (v := ?_) ?_ (by kernel_rfl) (by kernel_rfl) (by kernel_rfl) ?_ ?_ (by assumption) ?_
    rotate_left
    rotate_left
    · (simp only [List.getElem?_toArray, List.getElem?_cons_succ, List.getElem?_cons_zero]; rfl)
    · exact fun _ _ _ h => h
    · refine Or.inl ⟨by rfl, ?_⟩; (intro w hSw; (try dsimp only at hSw); go_simp; first | done | with_reducible rfl)
    (try simp only [Act.put, List.setIfInBounds_toArray, List.set_cons_zero, List.set_cons_succ])
    refine wpAnyH_take (i := 4) (oi := ?_) (v := ?_) ?_ (by kernel_rfl) (by kernel_rfl) (by kernel_rfl) ?_ ?_ (by assumption) ?_
    rotate_left
    rotate_left
    · (simp only [List.getElem?_toArray, List.getElem?_cons_succ, List.getElem?_cons_zero]; rfl)
    · exact fun _ _ _ h => h
    · refine Or.inl ⟨by rfl, ?_⟩; (intro w hSw; (try dsimp only at hSw); go_simp; first | done | with_reducible rfl)
    (try simp only [Act.put, List.setIfInBounds_toArray, List.set_cons_zero, List.set_cons_succ])
    refine wpAnyH_take (i := 5) (oi := ?_) (v := ?_) ?_ (by kernel_rfl) (by kernel_rfl) (by kernel_rfl) ?_ ?_ (by assumption) ?_
    rotate_left
    rotate_left
    · (simp only [List.getElem?_toArray, List.getElem?_cons_succ, List.getElem?_cons_zero]; rfl)
    · exact fun _ _ _ h => h
    · refine Or.inl ⟨by rfl, ?_⟩; (intro w hSw; (try dsimp only at hSw); go_simp; first | done | with_reducible rfl)
    (try simp only [Act.put, List.setIfInBounds_toArray, List.set_cons_zero, List.set_cons_succ])
    refine wpAnyH_take (i := 6) (oi := ?_) (v := ?_) ?_ (by kernel_rfl) (by kernel_rfl) (by kernel_rfl) ?_ ?_ (by assumption) ?_
    rotate_left
    rotate_left
    · (simp only [List.getElem?_toArray, List.getElem?_cons_succ, List.getElem?_cons_zero]; rfl)
    · exact fun _ _ _ h => h
    · refine Or.inl ⟨by rfl, ?_⟩; (intro w hSw; (try dsimp only at hSw); go_simp; first | done | with_reducible rfl)
    (try simp only [Act.put, List.setIfInBounds_toArray, List.set_cons_zero, List.set_cons_succ])
    refine wpAnyH_take (i := 7) (oi := ?_) (v := ?_) ?_ (by kernel_rfl) (by kernel_rfl) (by kernel_rfl) ?_ ?_ (by assumption) ?_
    rotate_left
    rotate_left
    · (simp only [List.getElem?_toArray, List.getElem?_cons_succ, List.getElem?_cons_zero]; rfl)
    · exact fun _ _ _ h => h
    · refine Or.inl ⟨by rfl, ?_⟩; (intro w hSw; (try dsimp only at hSw); go_simp; first | done | with_reducible rfl)
    (try simp only [Act.put, List.setIfInBounds_toArray, List.set_cons_zero, List.set_cons_succ])
    refine wpAnyH_take (i := 8) (oi := ?_) (v := ?_) ?_ (by kernel_rfl) (by kernel_rfl) (by kernel_rfl) ?_ ?_ (by assumption) ?_
    rotate_left
    rotate_left
    · (simp only [List.getElem?_toArray, List.getElem?_cons_succ, List.getElem?_cons_zero]; rfl)
    · exact fun _ _ _ h => h
    · refine Or.inl ⟨by rfl, ?_⟩; (intro w hSw; (try dsimp only at hSw); go_simp; first | done | with_reducible rfl)
    (try simp only [Act.put, List.setIfInBounds_toArray, List.set_cons_zero, List.set_cons_succ])
    refine wpAnyH_take (i := 9) (oi := ?_) (v := ?_) ?_ (by kernel_rfl) (by kernel_rfl) (by kernel_rfl) ?_ ?_ (by assumption) ?_
    rotate_left
    rotate_left
    · (simp only [List.getElem?_toArray, List.getElem?_cons_succ, List.getElem?_cons_zero]; rfl)
    · exact fun _ _ _ h => h
    · refine Or.inl ⟨by rfl, ?_⟩; (intro w hSw; (try dsimp only at hSw); go_simp; first | done | with_reducible rfl)
    (try simp only [Act.put, List.setIfInBounds_toArray, List.set_cons_zero, List.set_cons_succ])
    refine wpAnyH_take (i := 10) (oi := ?_) (v := ?_) ?_ (by kernel_rfl) (by kernel_rfl) (by kernel_rfl) ?_ ?_ (by assumption) ?_
    rotate_left
    rotate_left
    · (simp only [List.getElem?_toArray, List.getElem?_cons_succ, List.getElem?_cons_zero]; rfl)
    · exact fun _ _ _ h => h
    · refine Or.inl ⟨by rfl, ?_⟩; (intro w hSw; (try dsimp only at hSw); go_simp; first | done | with_reducible rfl)
    (try simp only [Act.put, List.setIfInBounds_toArray, List.set_cons_zero, List.set_cons_succ])
    refine wpAnyH_take (i := 11) (oi := ?_) (v := ?_) ?_ (by kernel_rfl) (by kernel_rfl) (by kernel_rfl) ?_ ?_ (by assumption) ?_
    rotate_left
    rotate_left
    · (simp only [List.getElem?_toArray, List.getElem?_cons_succ, List.getElem?_cons_zero]; rfl)
    · exact fun _ _ _ h => h
    · refine Or.inl ⟨by rfl, ?_⟩; (intro w hSw; (try dsimp only at hSw); go_simp; first | done | with_reducible rfl)
    (try simp only [Act.put, List.setIfInBounds_toArray, List.set_cons_zero, List.set_cons_succ])
    refine wpAnyH_take (i := 12) (oi := ?_) (v := ?_) ?_ (by kernel_rfl) (by kernel_rfl) (by kernel_rfl) ?_ ?_ (by assumption) ?_
    rotate_left
    rotate_left
    · (simp only [List.getElem?_toArray, List.getElem?_cons_succ, List.getElem?_cons_zero]; rfl)
    · exact fun _ _ _ h => h
    · refine Or.inl ⟨by rfl, ?_⟩; (intro w hSw; (try dsimp only at hSw); go_simp; first | done | with_reducible rfl)
    (try simp only [Act.put, List.setIfInBounds_toArray, List.set_cons_zero, List.set_cons_succ])
    refine wpAnyH_take (i := 13) (oi := ?_) (v := ?_) ?_ (by kernel_rfl) (by kernel_rfl) (by kernel_rfl) ?_ ?_ (by assumption) ?_
    rotate_left
    rotate_left
    · (simp only [List.getElem?_toArray, List.getElem?_cons_succ, List.getElem?_cons_zero]; rfl)
    · exact fun _ _ _ h => h
    · refine Or.inl ⟨by rfl, ?_⟩; (intro w hSw; (try dsimp only at hSw); go_simp; first | done | with_reducible rfl)
    (try simp only [Act.put, List.setIfInBounds_toArray, List.set_cons_zero, List.set_cons_succ])
    refine wpAnyH_take (i := 14) (oi := ?_) (v := ?_) ?_ (by kernel_rfl) (by kernel_rfl) (by kernel_rfl) ?_ ?_ (by assumption) ?_
    rotate_left
    rotate_left
    · (simp only [List.getElem?_toArray, List.getElem?_cons_succ, List.getElem?_cons_zero]; rfl)
    · exact fun _ _ _ h => h
    · refine Or.inl ⟨by rfl, ?_⟩; (intro w hSw; (try dsimp only at hSw); go_simp; first | done | with_reducible rfl)
    (try simp only [Act.put, List.setIfInBounds_toArray, List.set_cons_zero, List.set_cons_succ])
    refine wpAnyH_take (i := 15) (oi := ?_) (v := ?_) ?_ (by kernel_rfl) (by kernel_rfl) (by kernel_rfl) ?_ ?_ (by assumption) ?_
    rotate_left
    rotate_left
    · (simp only [List.getElem?_toArray, List.getElem?_cons_succ, List.getElem?_cons_zero]; rfl)
    · exact fun _ _ _ h => h
    · refine Or.inl ⟨by rfl, ?_⟩; (intro w hSw; (try dsimp only at hSw); go_simp; first | done | with_reducible rfl)
    (try simp only [Act.put, List.setIfInBounds_toArray, List.set_cons_zero, List.set_cons_succ])
    refine wpAnyH_take (i := 16) (oi := ?_) (v := ?_) ?_ (by kernel_rfl) (by kernel_rfl) (by kernel_rfl) ?_ ?_ (by assumption) ?_
    rotate_left
    rotate_left
    · (simp only [List.getElem?_toArray, List.getElem?_cons_succ, List.getElem?_cons_zero]; rfl)
    · exact fun _ _ _ h => h
    · refine Or.inl ⟨by rfl, ?_⟩; (intro w hSw; (try dsimp only at hSw); go_simp; first | done | with_reducible rfl)
    (try simp only [Act.put, List.setIfInBounds_toArray, List.set_cons_zero, List.set_cons_succ])
    refine wpAnyH_take (i := 17) (oi := ?_) (v := ?_) ?_ (by kernel_rfl) (by kernel_rfl) (by kernel_rfl) ?_ ?_ (by assumption) ?_
    rotate_left
    rotate_left
    · (simp only [List.getElem?_toArray, List.getElem?_cons_succ, List.getElem?_cons_zero]; rfl)
    · exact fun _ _ _ h => h
    · refine Or.inl ⟨by rfl, ?_⟩; (intro w hSw; (try dsimp only at hSw); go_simp; first | done | with_reducible rfl)
    (try simp only [Act.put, List.setIfInBounds_toArray, List.set_cons_zero, List.set_cons_succ])
    refine wpAnyH_ready (rs := [18]) (by kernel_rfl) (by simp) ?_
    refine AllReadyH.cons (o := ?_) ?_ (fun K hK => ?_) AllReadyH.nil
    rotate_left
    · (simp only [List.getElem?_toArray, List.getElem?_cons_succ, List.getElem?_cons_zero]; rfl)
    go_simp
    refine hK.out _ _ ?_ (fun hH2 => ?_)
    · exact ⟨Bw.past5 HNB.out HD0.out, Bw.past5 HNB.out HD1.out, Bw.past5 HNB.out HD2.out, Bw.past5 HNB.out HD3.out⟩
    clear hK K hH hH2
    (try simp only [Act.put, List.setIfInBounds_toArray, List.set_cons_zero, List.set_cons_succ])
    refine wpAnyH_done (by kernel_rfl) ?_ _
    have hb2 : w.heap.size + 1 + 1 < W.heap.size := by omega
    have HQ1 := Fk.hide ((((((HOX.out.b.setLow hb2 0 (.slice xa xn xc)).setLow hb2 1 (.slice ya yn yc)).setLow hb2 2 (.int .i64 db.n)).setLow hb2 3 (.slice za zn zc)).setLow hb2 4 (.int .i64 0)).mono (base' := w.heap.size) (by omega))
    have HQ2 := Fk.hide ((((((HOX.out.a.setLow hb2 0 (.slice xa xn xc)).setLow hb2 1 (.slice ya yn yc)).setLow hb2 2 (.int .i64 db.n)).setLow hb2 3 (.slice za zn zc)).setLow hb2 4 (.int .i64 0)).mono (base' := w.heap.size) (by omega))
    have HQ3 := Fk.hide ((((((HEX.out.setLow hb2 0 (.slice xa xn xc)).setLow hb2 1 (.slice ya yn yc)).setLow hb2 2 (.int .i64 db.n)).setLow hb2 3 (.slice za zn zc)).setLow hb2 4 (.int .i64 0)).mono (base' := w.heap.size) (by omega))
    have HQ4 : Hid (Below w.heap.size w (((((X.setCell ⟨w.heap.size + 1 + 1, 0, none⟩ (.slice xa xn xc)).setCell ⟨w.heap.size + 1 + 1, 1, none⟩ (.slice ya yn yc)).setCell ⟨w.heap.size + 1 + 1, 2, none⟩ (.int .i64 db.n)).setCell ⟨w.heap.size + 1 + 1, 3, none⟩ (.slice za zn zc)).setCell ⟨w.heap.size + 1 + 1, 4, none⟩ (.int .i64 0))) := by
      show Below _ _ _
      repeat (refine Below.setCell ?_ (by simp <;> omega) _)
      exact HBX.out
    go_wp2_with fail
    refine bodyPost_ret (v := .agg #[.slice xa xn xc, .slice ya yn yc, .int .i64 db.n, .slice za zn zc, .int .i64 0]) (by simp [results, Try.results43, go_sem, y0, y1, y2, y3, y4] <;> rfl) rfl ⟨⟨_, _, _, rfl, ⟨HQ1.out, HQ2.out, HO.out.ne⟩, HQ3.out⟩, HQ4.out⟩
  · have h0' : (d.1 == 0) = false := by simpa using h0
    have hra : r = (d.1, Dm.zero) := HA.out.trans (if_neg h0)
    subst hra
    have z0 := (HB2.out.cell (p := ⟨w.heap.size + 2, 0, none⟩) (by show w.heap.size + 2 < _; omega)).trans HZ0.out
    have z1 := (HB2.out.cell (p := ⟨w.heap.size + 2, 1, none⟩) (by show w.heap.size + 2 < _; omega)).trans HZ1.out
    have z2 := (HB2.out.cell (p := ⟨w.heap.size + 2, 2, none⟩) (by show w.heap.size + 2 < _; omega)).trans HZ2.out
    have z3 := (HB2.out.cell (p := ⟨w.heap.size + 2, 3, none⟩) (by show w.heap.size + 2 < _; omega)).trans HZ3.out
    have z4 := (HB2.out.cell (p := ⟨w.heap.size + 2, 4, none⟩) (by show w.heap.size + 2 < _; omega)).trans HZ4.out
    have zf : ∀ j, w2.frozen? ⟨w.heap.size + 2, j, none⟩ = false := fun j => (HB2.out.frozen (by show w.heap.size + 2 < _; omega)).trans (HZF.out j)
    go_wp2_with fail
    refine bodyPost_ret (v := .agg #[.slice none 0 0, .slice none 0 0, .int .i64 0, .slice none 0 0, .int .i64 d.1]) (by simp [results, Try.results43, go_sem, z0, z1, z2, z3, z4] <;> rfl) rfl ⟨⟨_, _, _, rfl, ⟨Rk.own_nil _ _ _, Rk.own_nil _ _ _, fun k hk => by cases hk⟩, Rk.own_nil _ _ _⟩, ?_⟩
    repeat (refine Below.setCell ?_ (by simp <;> omega) _)
    exact HBB.out
end Go.Proofs.Ytfagldipjpaceaa
