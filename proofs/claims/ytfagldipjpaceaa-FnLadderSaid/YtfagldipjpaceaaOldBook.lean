/- The specification's book at work: how it is opened, and its sides. -/
import Derived.Test.YtfagldipjpaceaaOldBothSpec
import Derived.Test.YtfagldipjpaceaaOldRightImpl
import Derived.Test.YtfagldipjpaceaaJoined4
namespace Go.Proofs.Ytfagldipjpaceaa
open Go.RowKit
set_option linter.unusedVariables false
set_option linter.unusedSimpArgs false

set_option maxRecDepth 100000 in
set_option maxHeartbeats 8000000 in
theorem l06Open_any (u v : Value) (n : Int) (B A : List Or.E) (w : World) (hu : Rk.View Or.S w u B) (hv : Rk.View Or.S w v A) (su : Rk.Shut u) (sv : Rk.Shut v) (l0 : B.length ≤ 1048576) (l1 : A.length ≤ 1048576) :
    Calls Try.prog 45 #[.agg #[u, v, .int .i64 n]] w fun e w' => (∃ x y b, e = .returned (.pointer (some ⟨b, 0, none⟩)) ∧ Ob.Two w' w.heap.size 40 x y B A ∧ w.heap.size ≤ b ∧ b < w'.heap.size ∧ w'.cell? ⟨b, 0, none⟩ = some x ∧ w'.cell? ⟨b, 1, none⟩ = some y ∧ w'.cell? ⟨b, 2, none⟩ = some (.int .i64 n) ∧ w'.cell? ⟨b, 3, none⟩ = some (.slice none 0 0)) ∧ Below w.heap.size w w' := by
  obtain ⟨i0, hi, hz0, hz1, hz2⟩ := info_parts infoOrdS
  obtain ⟨W, hW⟩ : ∃ W, W = w.alloc (.cells #[u, v, .int .i64 n] 25) := ⟨_, rfl⟩
  have b0 : Below w.heap.size w W := by rw [hW]; exact (Below.refl _ _).alloc (Nat.le_refl _) _
  have c0 : W.cell? ⟨w.heap.size, 0, none⟩ = some u := by rw [hW, Fk.cellTop _ _ _ _ _ rfl]; rfl
  have c1 : W.cell? ⟨w.heap.size, 1, none⟩ = some v := by rw [hW, Fk.cellTop _ _ _ _ _ rfl]; rfl
  have c2 : W.cell? ⟨w.heap.size, 2, none⟩ = some (.int .i64 n) := by rw [hW, Fk.cellTop _ _ _ _ _ rfl]; rfl
  have hz : w.heap.size < W.heap.size := by rw [hW]; simp
  have HU := Fk.hide hu
  have HV := Fk.hide hv
  obtain ⟨a0, cap0, rfl, _⟩ := hu
  obtain ⟨a1, cap1, rfl, _⟩ := hv
  have HW := Fk.hide hW
  clear hW
  have hb0 : Below w.heap.size w W.drew := b0.trans ((Below.drew (Below.refl W.heap.size W)).mono b0.size)
  have HX1 : Hid (Below w.heap.size w (W.drew.alloc (.cells #[] 40))) := hb0.alloc (by simp; omega) _
  have HX2 : Hid (Below w.heap.size w ((W.drew.alloc (.cells #[] 40)).alloc (.cells #[] 40))) := HX1.out.alloc (by simp; omega) _
  have hx1 : Hid (W.heap.size ≤ (W.drew.alloc (.cells #[] 40)).heap.size) := by show _ ≤ _; simp
  have hx2 : Hid (W.heap.size ≤ ((W.drew.alloc (.cells #[] 40)).alloc (.cells #[] 40)).heap.size) := by show _ ≤ _; simp; omega
  have h11 : Hid (Rk.Own Or.S (W.drew.alloc (.cells #[] 40)) W.heap.size 40 (.slice (some ⟨W.heap.size, 0, none⟩) 0 0) []) := Rk.own_empty W.drew 40 W.heap.size (by simp)
  have h21 : Hid (Rk.Own Or.S ((W.drew.alloc (.cells #[] 40)).alloc (.cells #[] 40)) W.heap.size 40 (.slice (some ⟨W.heap.size, 0, none⟩) 0 0) []) := h11.out.below ((Below.refl _ _).alloc (Nat.le_refl _) _)
  have h22 : Hid (Rk.Own Or.S ((W.drew.alloc (.cells #[] 40)).alloc (.cells #[] 40)) W.heap.size 40 (.slice (some ⟨W.heap.size + 1, 0, none⟩) 0 0) []) := by
    have := Rk.own_empty (S := Or.S) (W.drew.alloc (.cells #[] 40)) 40 W.heap.size (by simp)
    show Rk.Own _ _ _ _ _ _
    simpa using this
  have HD1 : Hid ((W.drew.alloc (.cells #[] 40)).cell? ⟨w.heap.size, 0, none⟩ = some (.slice a0 B.length cap0) ∧ (W.drew.alloc (.cells #[] 40)).cell? ⟨w.heap.size, 1, none⟩ = some (.slice a1 A.length cap1) ∧ (W.drew.alloc (.cells #[] 40)).cell? ⟨w.heap.size, 2, none⟩ = some (.int .i64 n)) := ⟨(Fk.cellOld _ _ _ _ (by simp; omega)).trans c0, (Fk.cellOld _ _ _ _ (by simp; omega)).trans c1, (Fk.cellOld _ _ _ _ (by simp; omega)).trans c2⟩
  have HD2 : Hid (((W.drew.alloc (.cells #[] 40)).alloc (.cells #[] 40)).cell? ⟨w.heap.size, 0, none⟩ = some (.slice a0 B.length cap0) ∧ ((W.drew.alloc (.cells #[] 40)).alloc (.cells #[] 40)).cell? ⟨w.heap.size, 1, none⟩ = some (.slice a1 A.length cap1) ∧ ((W.drew.alloc (.cells #[] 40)).alloc (.cells #[] 40)).cell? ⟨w.heap.size, 2, none⟩ = some (.int .i64 n)) := ⟨(Fk.cellOld _ _ _ _ (by simp; omega)).trans HD1.out.1, (Fk.cellOld _ _ _ _ (by simp; omega)).trans HD1.out.2.1, (Fk.cellOld _ _ _ _ (by simp; omega)).trans HD1.out.2.2⟩
  clear hb0
  go_enter Try.func45, Try.ntmps45
  go_wp2_with fail
  rw [← HW.out]
  go_region_held3 (fun w' => w'.cell? ⟨w.heap.size, 0, none⟩ = some (.slice a0 B.length cap0) ∧ w'.cell? ⟨w.heap.size, 1, none⟩ = some (.slice a1 A.length cap1) ∧ w'.cell? ⟨w.heap.size, 2, none⟩ = some (.int .i64 n))
    (first | go_keep | (go_split_ands; exact ⟨by assumption, by assumption, by assumption⟩))
    (first
      | (refine Rk.step_append_new _ (by rfl) (.tmp 7) (.tmp 9) 23 (by rfl) W.heap.size 40 i0 _ 8 64 rfl Try.underlying23 hi hz0 hz1 hz2 (by rfl) (by decide) w1.heap.size 0 0 (.slice a1 A.length cap1) [] A (by rfl) (by rfl) HEa.out (HV.out.below HBa.out) sv (by simp; omega) (by have := hs1.out; first | omega | (simp; omega)) ?_; intro u2 w2 o2 g2 ne2; rw [List.nil_append] at o2; obtain ⟨x2, m2, y2, rfl⟩ := o2.slice'; have HB2 : Hid (Below w.heap.size w w2) := HBa.out.grown g2 HBa.out.size (fun j hj => by have : j = w1.heap.size := (by simpa using hj.symm); have := hs1.out; omega); have HT : Hid (Ob.Two w2 W.heap.size 40 (.slice x1 m1 y1) (.slice x2 m2 y2) B A) := ⟨(HO1.out.below ((Below.refl _ _).alloc (Nat.le_refl _) _)).kept g2 (fun k hk e => by have := HO1.out.lt k hk; have : k = w1.heap.size := (by simpa using e); omega), o2, fun k hk hk' => by have h1 := HO1.out.lt k hk; have h2 := ne2 k hk'; simp at h2; omega⟩; have hs2 : Hid (W.heap.size ≤ w2.heap.size) := Nat.le_trans (by have := hs1.out; first | omega | (simp; omega)) g2.size; have f0 : w2.cell? ⟨w.heap.size, 0, none⟩ = some (.slice a0 B.length cap0) := g2.cell ((Fk.cellOld _ _ _ _ (by have := hs1.out; omega)).trans e0) (fun e => by have : w.heap.size = w1.heap.size := (by simpa using e); have := hs1.out; omega); have f1 : w2.cell? ⟨w.heap.size, 1, none⟩ = some (.slice a1 A.length cap1) := g2.cell ((Fk.cellOld _ _ _ _ (by have := hs1.out; omega)).trans e1) (fun e => by have : w.heap.size = w1.heap.size := (by simpa using e); have := hs1.out; omega); have f2 : w2.cell? ⟨w.heap.size, 2, none⟩ = some (.int .i64 n) := g2.cell ((Fk.cellOld _ _ _ _ (by have := hs1.out; omega)).trans e2) (fun e => by have : w.heap.size = w1.heap.size := (by simpa using e); have := hs1.out; omega); clear o2 g2 ne2)
      | (refine Rk.step_append_new _ (by rfl) (.tmp 7) (.tmp 9) 23 (by rfl) W.heap.size 40 i0 _ 8 64 rfl Try.underlying23 hi hz0 hz1 hz2 (by rfl) (by decide) (W.heap.size + 1) 0 0 (.slice a1 A.length cap1) [] A (by rfl) (by rfl) HEb.out (HV.out.below HB1.out) sv (by simp; omega) (by have := hs1.out; first | omega | (simp; omega)) ?_; intro u2 w2 o2 g2 ne2; rw [List.nil_append] at o2; obtain ⟨x2, m2, y2, rfl⟩ := o2.slice'; have HB2 : Hid (Below w.heap.size w w2) := HB1.out.grown g2 HB1.out.size (fun j hj => by have : j = (W.heap.size + 1) := (by simpa using hj.symm); have := hs1.out; omega); have HT : Hid (Ob.Two w2 W.heap.size 40 (.slice x1 m1 y1) (.slice x2 m2 y2) B A) := ⟨HO1.out.kept g2 (fun k hk e => by have h1 := HN1.out k hk; have : k = W.heap.size + 1 := (by simpa using e); simp at h1; omega), o2, fun k hk hk' => by have h0 := HO1.out.lt k hk; have h1 := HN1.out k hk; have h2 := ne2 k hk'; simp at h1; omega⟩; have hs2 : Hid (W.heap.size ≤ w2.heap.size) := Nat.le_trans (by have := hs1.out; first | omega | (simp; omega)) g2.size; have f0 : w2.cell? ⟨w.heap.size, 0, none⟩ = some (.slice a0 B.length cap0) := g2.cell (e0) (fun e => by have : w.heap.size = (W.heap.size + 1) := (by simpa using e); have := hs1.out; omega); have f1 : w2.cell? ⟨w.heap.size, 1, none⟩ = some (.slice a1 A.length cap1) := g2.cell (e1) (fun e => by have : w.heap.size = (W.heap.size + 1) := (by simpa using e); have := hs1.out; omega); have f2 : w2.cell? ⟨w.heap.size, 2, none⟩ = some (.int .i64 n) := g2.cell (e2) (fun e => by have : w.heap.size = (W.heap.size + 1) := (by simpa using e); have := hs1.out; omega); clear o2 g2 ne2)
      | (refine Rk.step_append_new _ (by rfl) (.tmp 7) (.tmp 9) 23 (by rfl) W.heap.size 40 i0 _ 8 64 rfl Try.underlying23 hi hz0 hz1 hz2 (by rfl) (by decide) W.heap.size 0 0 (.slice a1 A.length cap1) [] A (by rfl) (by rfl) HEc.out (HV.out.below HB1.out) sv (by simp; omega) (by have := hs1.out; first | omega | (simp; omega)) ?_; intro u2 w2 o2 g2 ne2; rw [List.nil_append] at o2; obtain ⟨x2, m2, y2, rfl⟩ := o2.slice'; have HB2 : Hid (Below w.heap.size w w2) := HB1.out.grown g2 HB1.out.size (fun j hj => by have : j = W.heap.size := (by simpa using hj.symm); have := hs1.out; omega); have HT : Hid (Ob.Two w2 W.heap.size 40 (.slice x1 m1 y1) (.slice x2 m2 y2) B A) := ⟨HO1.out.kept g2 (fun k hk e => by have h1 := HN1.out k hk; have : k = W.heap.size := (by simpa using e); simp at h1; omega), o2, fun k hk hk' => by have h0 := HO1.out.lt k hk; have h1 := HN1.out k hk; have h2 := ne2 k hk'; simp at h1; omega⟩; have hs2 : Hid (W.heap.size ≤ w2.heap.size) := Nat.le_trans (by have := hs1.out; first | omega | (simp; omega)) g2.size; have f0 : w2.cell? ⟨w.heap.size, 0, none⟩ = some (.slice a0 B.length cap0) := g2.cell (e0) (fun e => by have : w.heap.size = W.heap.size := (by simpa using e); have := hs1.out; omega); have f1 : w2.cell? ⟨w.heap.size, 1, none⟩ = some (.slice a1 A.length cap1) := g2.cell (e1) (fun e => by have : w.heap.size = W.heap.size := (by simpa using e); have := hs1.out; omega); have f2 : w2.cell? ⟨w.heap.size, 2, none⟩ = some (.int .i64 n) := g2.cell (e2) (fun e => by have : w.heap.size = W.heap.size := (by simpa using e); have := hs1.out; omega); clear o2 g2 ne2)
      | (refine Rk.step_append_new _ (by rfl) (.tmp 3) (.tmp 5) 23 (by rfl) W.heap.size 40 i0 _ 8 64 rfl Try.underlying23 hi hz0 hz1 hz2 (by rfl) (by decide) W.heap.size 0 0 (.slice a0 B.length cap0) [] B (by rfl) (by rfl) h21.out (HU.out.below HX2.out) su (by simp; omega) hx2.out ?_; intro u1 w1 o1 g1 ne1; rw [List.nil_append] at o1; obtain ⟨x1, m1, y1, rfl⟩ := o1.slice'; have HO1 := Fk.hide o1; have HN1 := Fk.hide ne1; have HB1 : Hid (Below w.heap.size w w1) := HX2.out.grown g1 HX2.out.size (fun j hj => by have : j = W.heap.size := (by simpa using hj.symm); omega); have hs1 : Hid (W.heap.size + 1 ≤ w1.heap.size) := Nat.le_trans (by simp <;> omega) g1.size; have e0 : w1.cell? ⟨w.heap.size, 0, none⟩ = some (.slice a0 B.length cap0) := g1.cell HD2.out.1 (fun e => by have : w.heap.size = W.heap.size := (by simpa using e); omega); have e1 : w1.cell? ⟨w.heap.size, 1, none⟩ = some (.slice a1 A.length cap1) := g1.cell HD2.out.2.1 (fun e => by have : w.heap.size = W.heap.size := (by simpa using e); omega); have e2 : w1.cell? ⟨w.heap.size, 2, none⟩ = some (.int .i64 n) := g1.cell HD2.out.2.2 (fun e => by have : w.heap.size = W.heap.size := (by simpa using e); omega); have HEb : Hid (Rk.Own Or.S w1 W.heap.size 40 (.slice (some ⟨W.heap.size + 1, 0, none⟩) 0 0) []) := h22.out.kept g1 (fun k hk e => by have h1 : k = W.heap.size + 1 := (by simpa [Value.ownBlock] using hk.symm); have : k = W.heap.size := (by simpa using e); omega); clear o1 g1 ne1)
      | (refine Rk.step_append_new _ (by rfl) (.tmp 3) (.tmp 5) 23 (by rfl) W.heap.size 40 i0 _ 8 64 rfl Try.underlying23 hi hz0 hz1 hz2 (by rfl) (by decide) (W.heap.size + 1) 0 0 (.slice a0 B.length cap0) [] B (by rfl) (by rfl) h22.out (HU.out.below HX2.out) su (by simp; omega) hx2.out ?_; intro u1 w1 o1 g1 ne1; rw [List.nil_append] at o1; obtain ⟨x1, m1, y1, rfl⟩ := o1.slice'; have HO1 := Fk.hide o1; have HN1 := Fk.hide ne1; have HB1 : Hid (Below w.heap.size w w1) := HX2.out.grown g1 HX2.out.size (fun j hj => by have : j = (W.heap.size + 1) := (by simpa using hj.symm); omega); have hs1 : Hid (W.heap.size + 1 ≤ w1.heap.size) := Nat.le_trans (by simp <;> omega) g1.size; have e0 : w1.cell? ⟨w.heap.size, 0, none⟩ = some (.slice a0 B.length cap0) := g1.cell HD2.out.1 (fun e => by have : w.heap.size = (W.heap.size + 1) := (by simpa using e); omega); have e1 : w1.cell? ⟨w.heap.size, 1, none⟩ = some (.slice a1 A.length cap1) := g1.cell HD2.out.2.1 (fun e => by have : w.heap.size = (W.heap.size + 1) := (by simpa using e); omega); have e2 : w1.cell? ⟨w.heap.size, 2, none⟩ = some (.int .i64 n) := g1.cell HD2.out.2.2 (fun e => by have : w.heap.size = (W.heap.size + 1) := (by simpa using e); omega); have HEc : Hid (Rk.Own Or.S w1 W.heap.size 40 (.slice (some ⟨W.heap.size, 0, none⟩) 0 0) []) := h21.out.kept g1 (fun k hk e => by have h1 : k = W.heap.size := (by simpa [Value.ownBlock] using hk.symm); have : k = W.heap.size + 1 := (by simpa using e); omega); clear o1 g1 ne1)
      | (refine Rk.step_append_new _ (by rfl) (.tmp 3) (.tmp 5) 23 (by rfl) W.heap.size 40 i0 _ 8 64 rfl Try.underlying23 hi hz0 hz1 hz2 (by rfl) (by decide) W.heap.size 0 0 (.slice a0 B.length cap0) [] B (by rfl) (by rfl) h11.out (HU.out.below HX1.out) su (by simp; omega) hx1.out ?_; intro u1 w1 o1 g1 ne1; rw [List.nil_append] at o1; obtain ⟨x1, m1, y1, rfl⟩ := o1.slice'; have HO1 := Fk.hide o1; have HN1 := Fk.hide ne1; have HB1 : Hid (Below w.heap.size w w1) := HX1.out.grown g1 HX1.out.size (fun j hj => by have : j = W.heap.size := (by simpa using hj.symm); omega); have hs1 : Hid (W.heap.size + 1 ≤ w1.heap.size) := Nat.le_trans (by simp <;> omega) g1.size; have e0 : w1.cell? ⟨w.heap.size, 0, none⟩ = some (.slice a0 B.length cap0) := g1.cell HD1.out.1 (fun e => by have : w.heap.size = W.heap.size := (by simpa using e); omega); have e1 : w1.cell? ⟨w.heap.size, 1, none⟩ = some (.slice a1 A.length cap1) := g1.cell HD1.out.2.1 (fun e => by have : w.heap.size = W.heap.size := (by simpa using e); omega); have e2 : w1.cell? ⟨w.heap.size, 2, none⟩ = some (.int .i64 n) := g1.cell HD1.out.2.2 (fun e => by have : w.heap.size = W.heap.size := (by simpa using e); omega); have HEa : Hid (Rk.Own Or.S (w1.alloc (.cells #[] 40)) W.heap.size 40 (.slice (some ⟨w1.heap.size, 0, none⟩) 0 0) []) := Rk.own_empty w1 40 W.heap.size (by have := hs1.out; omega); have HBa : Hid (Below w.heap.size w (w1.alloc (.cells #[] 40))) := HB1.out.alloc (by have := hs1.out; omega) _; clear o1 g1 ne1))
  all_goals
    have bZ : Below w2.heap.size w2 (w2.alloc (.cells #[.slice x1 m1 y1, .slice x2 m2 y2, .int .i64 n, .slice none 0 0] 102)) := (Below.refl _ _).alloc (Nat.le_refl _) _
    have HE : Hid (Ob.Two (w2.alloc (.cells #[.slice x1 m1 y1, .slice x2 m2 y2, .int .i64 n, .slice none 0 0] 102)) w.heap.size 40 (.slice x1 m1 y1) (.slice x2 m2 y2) B A) := ⟨(HT.out.b.below bZ).mono (by omega), (HT.out.a.below bZ).mono (by omega), HT.out.ne⟩
    have HF : Hid (Below w.heap.size w (w2.alloc (.cells #[.slice x1 m1 y1, .slice x2 m2 y2, .int .i64 n, .slice none 0 0] 102))) := HB2.out.trans (bZ.mono HB2.out.size)
    have HG : Hid (w.heap.size ≤ w2.heap.size) := HB2.out.size
    clear bZ
    go_wp2_with fail
    go_ret
    refine ⟨⟨_, _, w2.heap.size, rfl, HE.out, HG.out, by simp, ?_, ?_, ?_, ?_⟩, HF.out⟩
    all_goals (rw [Fk.cellTop _ _ _ _ _ rfl]; rfl)

set_option maxHeartbeats 400000 in
theorem side_yes (b : Nat) (x y : Value) (w : World) (c0 : w.cell? ⟨b, 0, none⟩ = some x) (c1 : w.cell? ⟨b, 1, none⟩ = some y) (hx : ∃ a n c, x = .slice a n c) (hy : ∃ a n c, y = .slice a n c) :
    Calls Try.prog 46 #[.pointer (some ⟨b, 0, none⟩), .bool true] w fun e w' => e = .returned x ∧ w' = w := by
  obtain ⟨_, _, _, rfl⟩ := hx
  obtain ⟨_, _, _, rfl⟩ := hy
  go_enter Try.func46, Try.ntmps46
  go_wp2_with fail
  go_ret
  exact ⟨rfl, rfl⟩
set_option maxHeartbeats 400000 in
theorem side_no (b : Nat) (x y : Value) (w : World) (c0 : w.cell? ⟨b, 0, none⟩ = some x) (c1 : w.cell? ⟨b, 1, none⟩ = some y) (hx : ∃ a n c, x = .slice a n c) (hy : ∃ a n c, y = .slice a n c) :
    Calls Try.prog 46 #[.pointer (some ⟨b, 0, none⟩), .bool false] w fun e w' => e = .returned y ∧ w' = w := by
  obtain ⟨_, _, _, rfl⟩ := hx
  obtain ⟨_, _, _, rfl⟩ := hy
  go_enter Try.func46, Try.ntmps46
  go_wp2_with fail
  go_ret
  exact ⟨rfl, rfl⟩
theorem side_any (b : Nat) (x y : Value) (buy : Bool) (w : World) (c0 : w.cell? ⟨b, 0, none⟩ = some x) (c1 : w.cell? ⟨b, 1, none⟩ = some y) (hx : ∃ a n c, x = .slice a n c) (hy : ∃ a n c, y = .slice a n c) :
    Calls Try.prog 46 #[.pointer (some ⟨b, 0, none⟩), .bool buy] w fun e w' => e = .returned (Ob.pick buy x y) ∧ w' = w := by
  cases buy
  · exact side_no b x y w c0 c1 hx hy
  · exact side_yes b x y w c0 c1 hx hy
end Go.Proofs.Ytfagldipjpaceaa
