/- The walk of the program's NewFind. -/
import Derived.Test.YtjagohadeegghaaNewWork
import Derived.Test.YtjagohadeegghaaNewFindSpec
import Derived.Test.YtjagohadeegghaaNewLadderSpec
namespace Go.Proofs.Ytjagohadeegghaa
open Go.RowKit
set_option linter.unusedVariables false
set_option linter.unusedSimpArgs false
namespace Wk
theorem fill_step (buy : Bool) (F : List Or.E) (o : Or.E) (g : Int → So.E) : fill buy (F ++ [o]) g = So.put (fill buy F g) (o, buy) := by rw [fill_append]; rfl
/-- what is not there stays -/
theorem fill_lacks (buy : Bool) : ∀ (F : List Or.E) (g : Int → So.E) (id : Int), (∀ o ∈ F, o.1 ≠ id) → fill buy F g id = g id
  | [], g, id, _ => rfl
  | o :: F, g, id, h => by
    have : fill buy (o :: F) g = fill buy F (So.put g (o, buy)) := rfl
    rw [this, fill_lacks buy F _ id (fun x hx => h x (List.mem_cons_of_mem _ hx))]
    have := h o List.mem_cons_self
    simp [So.put, Ne.symm this]
/-- the one that is there once is found -/
theorem fill_hit (buy : Bool) : ∀ (F : List Or.E) (g : Int → So.E) (o : Or.E), o ∈ F → (∀ x ∈ F, x.1 = o.1 → x = o) → (fill buy F g o.1).1 = o
  | x :: F, g, o, hm, hu => by
    have e : fill buy (x :: F) g = fill buy F (So.put g (x, buy)) := rfl
    rw [e]
    by_cases c : o ∈ F
    · exact fill_hit buy F _ o c (fun y hy => hu y (List.mem_cons_of_mem _ hy))
    · have hxo : x = o := by
        rcases List.mem_cons.1 hm with h | h
        · exact h.symm
        · exact absurd h c
      subst hxo
      rw [fill_lacks buy F _ x.1 (fun y hy e => c (by rw [← hu y (List.mem_cons_of_mem _ hy) e]; exact hy))]
      simp [So.put]
theorem ids_pos {L : List Or.E} (h : Ob.ids L = true) (a b : Nat) (hab : a < b) (hb : b < L.length) : (Ob.at' L a).1 ≠ (Ob.at' L b).1 := by
  have h1 := Ob.upTo_inv (Ob.upTo_inv h b hb) a hab
  intro e
  simp [e] at h1
theorem ids_inj {L : List Or.E} (h : Ob.ids L = true) {x y : Or.E} (hx : x ∈ L) (hy : y ∈ L) (e : x.1 = y.1) : x = y := by
  obtain ⟨i, hi, rfl⟩ := List.getElem_of_mem hx
  obtain ⟨j, hj, rfl⟩ := List.getElem_of_mem hy
  rw [← Rk.at_get (S := Or.S) L i hi, ← Rk.at_get (S := Or.S) L j hj] at e ⊢
  rcases Nat.lt_trichotomy i j with c | c | c
  · exact absurd e (ids_pos h i j c hj)
  · rw [c]
  · exact absurd e.symm (ids_pos h j i c hi)
theorem lacks_mem {L : List Or.E} {id : Int} (h : ∀ o ∈ L, o.1 ≠ id) : Ob.lacks L id L.length := fun j hj => h _ (Rk.at_mem (S := Or.S) L j hj)
/-- the map has what is looked for -/
theorem fill_seek {B A : List Or.E} (h : Ob.ids (B ++ A) = true) (id : Int) : (fill false A (fill true B (fun _ => So.z)) id).1 = Nb.seek B A id := by
  have hitOf : ∀ {L : List Or.E} {o : Or.E}, o ∈ L → (∀ a b, a < b → b < L.length → (Ob.at' L a).1 ≠ (Ob.at' L b).1) → ∃ k, Ob.hits L o.1 k ∧ Ob.at' L k = o := by
    intro L o ho hu
    obtain ⟨k, hk, e⟩ := List.getElem_of_mem ho
    have ek : Ob.at' L k = o := by simp only [Ob.at']; rw [Rk.at_get L k hk]; exact e
    exact ⟨k, ⟨hk, by rw [ek], fun j hj he => hu j k hj hk (by rw [he, ek])⟩, ek⟩
  have pB : ∀ a b, a < b → b < B.length → (Ob.at' B a).1 ≠ (Ob.at' B b).1 := fun a b hab hb => by
    have := ids_pos h a b hab (by simp; omega)
    rwa [Ob.at_left B A a (by omega), Ob.at_left B A b hb] at this
  have pA : ∀ a b, a < b → b < A.length → (Ob.at' A a).1 ≠ (Ob.at' A b).1 := fun a b hab hb => by
    have := ids_pos h (B.length + a) (B.length + b) (by omega) (by simp; omega)
    rwa [Ob.at_right B A a, Ob.at_right B A b] at this
  by_cases cA : ∃ o ∈ A, o.1 = id
  · obtain ⟨o, ho, rfl⟩ := cA
    rw [fill_hit false A _ o ho (fun x hx e => ids_inj h (List.mem_append.2 (.inr hx)) (List.mem_append.2 (.inr ho)) e)]
    by_cases cB : ∃ x ∈ B, x.1 = o.1
    · obtain ⟨x, hx, e⟩ := cB
      have exo : x = o := ids_inj h (List.mem_append.2 (.inl hx)) (List.mem_append.2 (.inr ho)) e
      obtain ⟨k, hk, ek⟩ := hitOf hx pB
      rw [e] at hk
      rw [Nb.seek_bid hk, ek, exo]
    · obtain ⟨k, hk, ek⟩ := hitOf ho pA
      rw [Nb.seek_ask (lacks_mem fun x hx e => cB ⟨x, hx, e⟩) hk, ek]
  · have hA : ∀ o ∈ A, o.1 ≠ id := fun o ho e => cA ⟨o, ho, e⟩
    rw [fill_lacks false A _ id hA]
    by_cases cB : ∃ x ∈ B, x.1 = id
    · obtain ⟨x, hx, rfl⟩ := cB
      rw [fill_hit true B _ x hx (fun y hy e => ids_inj h (List.mem_append.2 (.inl hy)) (List.mem_append.2 (.inl hx)) e)]
      obtain ⟨k, hk, ek⟩ := hitOf hx pB
      rw [Nb.seek_bid hk, ek]
    · have hB : ∀ o ∈ B, o.1 ≠ id := fun o ho e => cB ⟨o, ho, e⟩
      rw [fill_lacks true B _ id hB, Nb.seek_none (lacks_mem hB) (lacks_mem hA)]
      rfl
end Wk
theorem stander_field (s : So.E) (w : World) : (Instr.field 117 (.agg #[.int .i64 s.1.1, .int .i64 s.1.2.1, .int .i64 s.1.2.2.1, .int .i64 s.1.2.2.2.1, .bool s.1.2.2.2.2.1, .int .i64 s.1.2.2.2.2.2.1, .int .i64 s.1.2.2.2.2.2.2.1, .bool s.1.2.2.2.2.2.2.2, .bool s.2]) 0).run Try.prog w = .ok (.agg #[.int .i64 s.1.1, .int .i64 s.1.2.1, .int .i64 s.1.2.2.1, .int .i64 s.1.2.2.2.1, .bool s.1.2.2.2.2.1, .int .i64 s.1.2.2.2.2.2.1, .int .i64 s.1.2.2.2.2.2.2.1, .bool s.1.2.2.2.2.2.2.2]) w := by
  obtain ⟨⟨s0, s1, s2, s3, s4, s5, s6, s7⟩, s8⟩ := s
  kernel_rfl
theorem zeroStander (w : World) : (zeroValue 117).run Try.prog w = .ok (So.vl So.z) w := by kernel_rfl
set_option maxRecDepth 100000 in
set_option maxHeartbeats 8000000 in
theorem newFind_impl (u v : Value) (n : Int) (id : Int) (hid : (Lit.int .i64 id).wf = true) (B A : List Lv.E) (w : World) (hu : Lv.View w u B) (hv : Lv.View w v A) (l0 : B.length ≤ 1048576) (l1 : A.length ≤ 1048576) (m0 : (Nb.flat B).length ≤ 1048576) (m1 : (Nb.flat A).length ≤ 1048576) :
    Calls Try.prog 53 #[.agg #[u, v, .int .i64 n], .int .i64 id] w fun e w' => e = .returned (.agg #[.int .i64 (Nb.find B A n id).1, .int .i64 (Nb.find B A n id).2.1, .int .i64 (Nb.find B A n id).2.2.1, .int .i64 (Nb.find B A n id).2.2.2.1, .bool (Nb.find B A n id).2.2.2.2.1, .int .i64 (Nb.find B A n id).2.2.2.2.2.1, .int .i64 (Nb.find B A n id).2.2.2.2.2.2.1, .bool (Nb.find B A n id).2.2.2.2.2.2.2]) ∧ Below w.heap.size w w' := by
  obtain ⟨W, hW⟩ : ∃ W, W = (w.alloc (.cells #[u, v, .int .i64 n] 28)).alloc (.cells #[.int .i64 0, .int .i64 0, .int .i64 0, .int .i64 0, .bool false, .int .i64 0, .int .i64 0, .bool false] 55) := ⟨_, rfl⟩
  have b0 : Below w.heap.size w W := by rw [hW]; exact ((Below.refl _ _).alloc (Nat.le_refl _) _).alloc (by simp) _
  have c0 : W.cell? ⟨w.heap.size, 0, none⟩ = some u := by rw [hW, Fk.cellOld _ _ _ _ (by simp), Fk.cellTop _ _ _ _ _ rfl]; rfl
  have c1 : W.cell? ⟨w.heap.size, 1, none⟩ = some v := by rw [hW, Fk.cellOld _ _ _ _ (by simp), Fk.cellTop _ _ _ _ _ rfl]; rfl
  have c2 : W.cell? ⟨w.heap.size, 2, none⟩ = some (.int .i64 n) := by rw [hW, Fk.cellOld _ _ _ _ (by simp), Fk.cellTop _ _ _ _ _ rfl]; rfl
  have HZ0 : Hid (W.cell? ⟨w.heap.size + 1, 0, none⟩ = some (.int .i64 0)) := by show _ = _; rw [hW, Fk.cellTop _ _ _ _ _ (by simp)]; rfl
  have HZ1 : Hid (W.cell? ⟨w.heap.size + 1, 1, none⟩ = some (.int .i64 0)) := by show _ = _; rw [hW, Fk.cellTop _ _ _ _ _ (by simp)]; rfl
  have HZ2 : Hid (W.cell? ⟨w.heap.size + 1, 2, none⟩ = some (.int .i64 0)) := by show _ = _; rw [hW, Fk.cellTop _ _ _ _ _ (by simp)]; rfl
  have HZ3 : Hid (W.cell? ⟨w.heap.size + 1, 3, none⟩ = some (.int .i64 0)) := by show _ = _; rw [hW, Fk.cellTop _ _ _ _ _ (by simp)]; rfl
  have HZ4 : Hid (W.cell? ⟨w.heap.size + 1, 4, none⟩ = some (.bool false)) := by show _ = _; rw [hW, Fk.cellTop _ _ _ _ _ (by simp)]; rfl
  have HZ5 : Hid (W.cell? ⟨w.heap.size + 1, 5, none⟩ = some (.int .i64 0)) := by show _ = _; rw [hW, Fk.cellTop _ _ _ _ _ (by simp)]; rfl
  have HZ6 : Hid (W.cell? ⟨w.heap.size + 1, 6, none⟩ = some (.int .i64 0)) := by show _ = _; rw [hW, Fk.cellTop _ _ _ _ _ (by simp)]; rfl
  have HZ7 : Hid (W.cell? ⟨w.heap.size + 1, 7, none⟩ = some (.bool false)) := by show _ = _; rw [hW, Fk.cellTop _ _ _ _ _ (by simp)]; rfl
  have HZF : Hid (∀ j, W.frozen? ⟨w.heap.size + 1, j, none⟩ = false) := fun j => by rw [hW, Fk.frozTop _ _ _ _ _ (by simp)]
  have hz : W.heap.size = w.heap.size + 2 := by rw [hW]; simp
  have HU := Fk.hide hu
  have HV := Fk.hide hv
  obtain ⟨a0, cap0, rfl⟩ := hu.slice
  obtain ⟨a1, cap1, rfl⟩ := hv.slice
  have HW := Fk.hide hW
  clear hW hu hv
  obtain ⟨x, hx⟩ : ∃ x, x = Nb.find B A n id := ⟨_, rfl⟩
  rw [← hx]
  have HX := Fk.hide hx
  clear hx
  go_enter Try.func53, Try.ntmps53
  go_wp2_with fail
  rw [← HW.out]
  refine (newRight_impl _ _ _ B A _ (HU.out.below b0) (HV.out.below b0) l0 l1 m0 m1).mono ?_
  rintro e w1 ⟨rfl, k1⟩
  have B1 : Below w.heap.size w w1 := b0.trans (k1.mono b0.size)
  have bW1 : Below W.heap.size W w1 := k1
  have hz1 : w.heap.size + 2 ≤ w1.heap.size := by rw [← hz]; exact k1.size
  have d0 := (k1.cell (p := ⟨w.heap.size, 0, none⟩) (by show w.heap.size < _; omega)).trans c0
  have d1 := (k1.cell (p := ⟨w.heap.size, 1, none⟩) (by show w.heap.size < _; omega)).trans c1
  have d2 := (k1.cell (p := ⟨w.heap.size, 2, none⟩) (by show w.heap.size < _; omega)).trans c2
  obtain ⟨r, hr⟩ : ∃ r, r = Nb.right B A n := ⟨_, rfl⟩
  rw [← hr]
  have HR := Fk.hide hr
  clear k1 hr c0 c1 c2
  cases r with
  | false =>
    have hxz : x = Or.S.z := by rw [HX.out]; unfold Nb.find; rw [← HR.out]; rfl
    subst hxz
    have z0 := (bW1.cell (p := ⟨w.heap.size + 1, 0, none⟩) (by show w.heap.size + 1 < _; omega)).trans HZ0.out
    have z1 := (bW1.cell (p := ⟨w.heap.size + 1, 1, none⟩) (by show w.heap.size + 1 < _; omega)).trans HZ1.out
    have z2 := (bW1.cell (p := ⟨w.heap.size + 1, 2, none⟩) (by show w.heap.size + 1 < _; omega)).trans HZ2.out
    have z3 := (bW1.cell (p := ⟨w.heap.size + 1, 3, none⟩) (by show w.heap.size + 1 < _; omega)).trans HZ3.out
    have z4 := (bW1.cell (p := ⟨w.heap.size + 1, 4, none⟩) (by show w.heap.size + 1 < _; omega)).trans HZ4.out
    have z5 := (bW1.cell (p := ⟨w.heap.size + 1, 5, none⟩) (by show w.heap.size + 1 < _; omega)).trans HZ5.out
    have z6 := (bW1.cell (p := ⟨w.heap.size + 1, 6, none⟩) (by show w.heap.size + 1 < _; omega)).trans HZ6.out
    have z7 := (bW1.cell (p := ⟨w.heap.size + 1, 7, none⟩) (by show w.heap.size + 1 < _; omega)).trans HZ7.out
    have zf : ∀ j, w1.frozen? ⟨w.heap.size + 1, j, none⟩ = false := fun j => (bW1.frozen (by show w.heap.size + 1 < _; omega)).trans (HZF.out j)
    go_wp2_with fail
    refine bodyPost_ret (v := .agg #[.int .i64 0, .int .i64 0, .int .i64 0, .int .i64 0, .bool false, .int .i64 0, .int .i64 0, .bool false]) (by simp [results, Try.results53, go_sem, z0, z1, z2, z3, z4, z5, z6, z7] <;> rfl) rfl ⟨rfl, ?_⟩
    repeat (refine Below.setCell ?_ (by simp <;> omega) _)
    exact B1
  | true =>
  have hri := Nb.right_inv HR.out.symm
  have hbo := Nb.both_inv hri.2.2
  have hsm := Nb.right_small HR.out.symm
  have hids : Ob.ids (Nb.flat B ++ Nb.flat A) = true := by
    have := hri.2.2
    simp only [Ob.both, Bool.and_eq_true, decide_eq_true_eq] at this
    exact this.2.2.2.1
  have HXS : Hid (x = (Wk.fill false (Nb.flat A) (Wk.fill true (Nb.flat B) (fun _ => So.z)) id).1) := by show _ = _; rw [Wk.fill_seek hids, HX.out]; unfold Nb.find; rw [← HR.out]; rfl
  have HIN : Hid (∀ o ∈ Nb.flat B ++ Nb.flat A, 1 ≤ o.1 ∧ o.1 ≤ 1000000) := by
    have side : ∀ {buy : Bool} {L : List Or.E}, Ob.sideN n buy L = true → ∀ o ∈ L, 1 ≤ o.1 ∧ o.1 ≤ 1000000 := by
      intro buy L h o ho
      obtain ⟨i, hi, e⟩ := List.getElem_of_mem ho
      have h1 := Ob.upTo_inv h i hi
      simp only [Ob.stepN, Ob.okN, Bool.and_eq_true, decide_eq_true_eq, Ob.at'] at h1
      rw [Rk.at_get L i hi, e] at h1
      have h2 := hbo.1
      unfold Ob.frame at h2
      exact ⟨h1.1.1.1, by omega⟩
    intro o ho
    rcases List.mem_append.1 ho with ho | ho
    · exact side hbo.2.1 o ho
    · exact side hbo.2.2 o ho
  have cnt : ∀ {L : List Lv.E}, Nb.lvls L = true → L.length ≤ (Nb.flat L).length := by
    intro L h
    have h1 := Nb.rungs_levels h L.length (Nat.le_refl _)
    rw [List.take_length] at h1
    have h2 := congrArg List.length h1
    rw [List.length_map] at h2
    have h3 : ((Nb.flat L).foldl Ob.rstep []).length ≤ (Nb.flat L).length := by
      have := Ob.rungs_length (Nb.flat L) _ (Nat.le_refl _)
      unfold Ob.rungs at this
      rw [List.take_length] at this
      exact this
    omega
  have hb24 := cnt hri.1
  have ha24 := cnt hri.2.1
  clear hri hbo hids cnt
  go_wp2_with fail
  refine (newWorkOf_any _ _ _ B A _ (HU.out.below B1) (HV.out.below B1) (by omega) (by omega) hsm HIN.out).mono ?_
  rintro e w2 ⟨⟨P, M, nn, lev, rfl, hn⟩, k2⟩
  have B2 : Below w.heap.size w w2 := B1.trans (k2.mono B1.size)
  have bW2 : Below W.heap.size W w2 := bW1.trans (k2.mono bW1.size)
  have hz2 : w.heap.size + 2 ≤ w2.heap.size := Nat.le_trans hz1 k2.size
  have pm := hn.mp
  obtain ⟨gf, hgf⟩ : ∃ gf, gf = Wk.fill false (Nb.flat A) (Wk.fill true (Nb.flat B) (fun _ => So.z)) := ⟨_, rfl⟩
  have HH : Hid (So.Holds w2 Try.prog 2 M nn gf) := by rw [hgf]; exact hn.hold
  obtain ⟨s, hs⟩ : ∃ s, s = gf id := ⟨_, rfl⟩
  have HSS := Fk.hide hs
  obtain rfl : x = s.1 := by rw [hs, hgf]; exact HXS.out
  clear hgf hs HXS
  clear k2 hn d0 d1 d2
  have z0 := (bW2.cell (p := ⟨w.heap.size + 1, 0, none⟩) (by show w.heap.size + 1 < _; omega)).trans HZ0.out
  have z1 := (bW2.cell (p := ⟨w.heap.size + 1, 1, none⟩) (by show w.heap.size + 1 < _; omega)).trans HZ1.out
  have z2 := (bW2.cell (p := ⟨w.heap.size + 1, 2, none⟩) (by show w.heap.size + 1 < _; omega)).trans HZ2.out
  have z3 := (bW2.cell (p := ⟨w.heap.size + 1, 3, none⟩) (by show w.heap.size + 1 < _; omega)).trans HZ3.out
  have z4 := (bW2.cell (p := ⟨w.heap.size + 1, 4, none⟩) (by show w.heap.size + 1 < _; omega)).trans HZ4.out
  have z5 := (bW2.cell (p := ⟨w.heap.size + 1, 5, none⟩) (by show w.heap.size + 1 < _; omega)).trans HZ5.out
  have z6 := (bW2.cell (p := ⟨w.heap.size + 1, 6, none⟩) (by show w.heap.size + 1 < _; omega)).trans HZ6.out
  have z7 := (bW2.cell (p := ⟨w.heap.size + 1, 7, none⟩) (by show w.heap.size + 1 < _; omega)).trans HZ7.out
  have zf : ∀ j, w2.frozen? ⟨w.heap.size + 1, j, none⟩ = false := fun j => (bW2.frozen (by show w.heap.size + 1 < _; omega)).trans (HZF.out j)
  have hkey : keyOf Try.prog 2 (.int .i64 id) = some (So.kl id) := Maps.keyOf_int_mk Try.underlying2 hid
  have HKEY := Fk.hide hkey
  clear hkey
  have hfd := stander_field s w2
  go_wp2_with (at_lookup; refine So.wpList_look _ rfl _ _ 120 rfl 2 117 keyed64 Try.underlying120 (zeroStander _) M nn _ rfl HH.out id (.int .i64 id) rfl HKEY.out ?_; rw [← HSS.out]; unfold So.vl)
  refine bodyPost_ret (v := .agg #[.int .i64 s.1.1, .int .i64 s.1.2.1, .int .i64 s.1.2.2.1, .int .i64 s.1.2.2.2.1, .bool s.1.2.2.2.2.1, .int .i64 s.1.2.2.2.2.2.1, .int .i64 s.1.2.2.2.2.2.2.1, .bool s.1.2.2.2.2.2.2.2]) (by simp [results, Try.results53, go_sem, z0, z1, z2, z3, z4, z5, z6, z7] <;> rfl) rfl ⟨rfl, ?_⟩
  repeat (refine Below.setCell ?_ (by simp <;> omega) _)
  exact B2
end Go.Proofs.Ytjagohadeegghaa
