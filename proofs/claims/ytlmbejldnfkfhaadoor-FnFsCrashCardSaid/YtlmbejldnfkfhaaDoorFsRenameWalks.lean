/- The walk of the program's FsRename. -/
import Derived.Test.YtlmbejldnfkfhaaDoorFsRenameMethod
namespace Go.Proofs.YtlmbejldnfkfhaaDoor
open Go.RowKit Go.Maps
set_option linter.unusedVariables false

set_option maxHeartbeats 2000000 in
theorem fsRename_impl (v : Value) (L : List Fk.Fl) (name to : ByteArray) (a0 a1 a2 a3 a4 : Addr) (w : World) (hv : Fk.View w v L) (hL : Fk.Fits L) (hl : L.length ≤ maxLen) (hn : name.size ≤ maxLen) (ht : to.size ≤ maxLen) (hE : Is.Errs w a0 a1 a2 a3 a4) :
    Calls Tryd.prog 57 #[.agg #[v], .string name, .string to] w fun e w' => (∃ u R c, e = .returned (.agg #[u, .int .i64 c]) ∧ Fk.Own w' w.heap.size 48 u R ∧ Fk.Ans (Fk.opn L [name, to]) (Fk.resRename L name to) R c) ∧ Below w.heap.size w w' := by
  obtain ⟨W, hW⟩ : ∃ W, W = ((w.alloc (.cells #[v] 25)).alloc (.cells #[.slice none 0 0, .int .i64 0] 33)).alloc (.cells #[.string name, .string to] 9) := ⟨_, rfl⟩
  have b0 : Below w.heap.size w W := by
    rw [hW]
    repeat (first | exact Below.refl _ _ | refine Below.alloc ?_ (by simp <;> omega) _)
  have hsz : W.heap.size = w.heap.size + 3 := by rw [hW]; simp
  have q0 : W.cell? ⟨w.heap.size + 1, 0, none⟩ = some (.slice none 0 0) := by rw [hW, Fk.cellOld _ _ _ _ (by simp), Fk.cellTop _ _ _ _ _ (by simp)]; rfl
  have q1 : W.cell? ⟨w.heap.size + 1, 1, none⟩ = some (.int .i64 0) := by rw [hW, Fk.cellOld _ _ _ _ (by simp), Fk.cellTop _ _ _ _ _ (by simp)]; rfl
  have f0 : ∀ j, W.frozen? ⟨w.heap.size + 1, j, none⟩ = false := fun j => by rw [hW, Fk.frozOld _ _ _ _ (by simp), Fk.frozTop _ _ _ _ _ (by simp)]
  have qn : W.cell? ⟨w.heap.size + 2, 0, none⟩ = some (.string name) := by rw [hW, Fk.cellTop _ _ _ _ _ (by simp)]; rfl
  have qm : W.cell? ⟨w.heap.size + 2, 1, none⟩ = some (.string to) := by rw [hW, Fk.cellTop _ _ _ _ _ (by simp)]; rfl
  have hv' := hv.below b0
  have hE' := hE.below b0
  have HW := Fk.hide hW
  clear hW hv
  have hvW := hv'
  obtain ⟨a, cap, rfl, hs⟩ := hv'
  clear hs
  go_enter Tryd.func57, Tryd.ntmps57
  go_wp2_with fail
  rw [← HW.out]
  refine (open_any _ L [name, to] (w.heap.size + 2) a0 a1 a2 a3 a4 _ hvW hL hl (by simp) ?_ (by omega) ?_ hE').mono ?_
  · intro k
    match k with
    | 0 => exact hn
    | 1 => exact ht
    | k + 2 => exact Nat.zero_le _
  · intro k hk
    have e : k = 0 ∨ k = 1 := by simp at hk; omega
    rcases e with rfl | rfl
    · exact qn
    · exact qm
  rintro e w1 ⟨h1, b1⟩
  have B1 := Fk.hide (b0.trans (b1.mono b0.size))
  have p0 : w1.cell? ⟨w.heap.size + 1, 0, none⟩ = some (.slice none 0 0) := (b1.cell (by show w.heap.size + 1 < _; omega)).trans q0
  have p1 : w1.cell? ⟨w.heap.size + 1, 1, none⟩ = some (.int .i64 0) := (b1.cell (by show w.heap.size + 1 < _; omega)).trans q1
  have pf : ∀ j, w1.frozen? ⟨w.heap.size + 1, j, none⟩ = false := fun j => (b1.frozen (by show w.heap.size + 1 < _; omega)).trans (f0 j)
  have hsz1 : w.heap.size + 3 ≤ w1.heap.size := by have := b1.size; omega
  clear b1 q0 q1 f0 hvW qn qm hE'
  -- how it ends: an answer in the cell of the result
  have fin : ∀ (w5 : World) (u : Value) (R : List Fk.Fl) (c : Int), Below w.heap.size w w5 → Fk.Own w5 (w.heap.size + 2) 48 u R → Fk.Own ((w5.setCell ⟨w.heap.size + 1, 0, none⟩ u).setCell ⟨w.heap.size + 1, 1, none⟩ (.int .i64 c)) w.heap.size 48 u R ∧ Below w.heap.size w ((w5.setCell ⟨w.heap.size + 1, 0, none⟩ u).setCell ⟨w.heap.size + 1, 1, none⟩ (.int .i64 c)) :=
    fun w5 u R c hb ho => ⟨Fk.Own.mono (ownsRow_setCell_below (ownsRow_setCell_below ho (by show w.heap.size + 1 < _; omega) _) (by show w.heap.size + 1 < _; omega) _) (by omega), (hb.setCell (by simp) _).setCell (by simp) _⟩
  have FIN := Fk.hide fin
  clear fin
  rcases h1 with ⟨h, b, D, rfl, hown, hM, hb⟩ | ⟨h, rfl⟩
  · have HO := Fk.hide h
    have hR := Fk.opn_right L [name, to] h
    have h12 := (Fk.right_inv L hR).1
    have hfit := Fk.right_fit hR
    clear h
    go_wp2_with fail
    refine (rename_done b L.length D L name to a0 a1 a2 a3 a4 _ hown hM hR (by omega) hn ht (hE.below B1.out)).mono ?_
    rintro e w2 ⟨h2, g2⟩
    have b2 : Below w.heap.size w w2 := B1.out.grown g2 B1.out.size (fun k hk => by cases hk; omega)
    have hbne : w.heap.size + 1 ≠ b := by omega
    have s0 : w2.cell? ⟨w.heap.size + 1, 0, none⟩ = some (.slice none 0 0) := g2.cell p0 (by simp [hbne])
    have s1 : w2.cell? ⟨w.heap.size + 1, 1, none⟩ = some (.int .i64 0) := g2.cell p1 (by simp [hbne])
    have sf : ∀ j, w2.frozen? ⟨w.heap.size + 1, j, none⟩ = false := fun j => (World.frozen?_of_block (w := w1) (g2.block _ (by show w.heap.size + 1 < _; omega) (by simp [hbne]))).trans (pf j)
    have hs2 : w.heap.size + 3 ≤ w2.heap.size := by have := g2.size; omega
    clear g2 p0 p1 pf hown hM
    rcases h2 with ⟨n, hn1, hn5, hg, rfl⟩ | ⟨D', M, hg, rfl, m2, M2⟩
    · have HC := outcome_err n (some b) a0 a1 a2 a3 a4 w2 hn1 hn5 (hE.below b2)
      have HA : Hid (Fk.Ans (Fk.opn L [name, to]) (Fk.resRename L name to) [] (Is.cd n)) := .inr (.inr ⟨HO.out, .inl ⟨_, hg, rfl, rfl⟩⟩)
      obtain ⟨ev, hev⟩ : ∃ ev, ev = Is.er a0 a1 a2 a3 a4 n := ⟨_, rfl⟩
      obtain ⟨c, hc⟩ : ∃ c, c = Is.cd n := ⟨_, rfl⟩
      rw [← hev, ← hc] at HC
      rw [← hc] at HA
      rw [← hev]
      clear hg hev hc hn1 hn5
      go_wp2_with fail
      refine HC.mono ?_
      rintro e w3 ⟨rfl, b3⟩
      have t0 : w3.cell? ⟨w.heap.size + 1, 0, none⟩ = some (.slice none 0 0) := (b3.cell (by show w.heap.size + 1 < _; omega)).trans s0
      have t1 : w3.cell? ⟨w.heap.size + 1, 1, none⟩ = some (.int .i64 0) := (b3.cell (by show w.heap.size + 1 < _; omega)).trans s1
      have tf : ∀ j, w3.frozen? ⟨w.heap.size + 1, j, none⟩ = false := fun j => (b3.frozen (by show w.heap.size + 1 < _; omega)).trans (sf j)
      have E3 := Fk.hide (FIN.out w3 (.slice none 0 0) [] c (b2.trans (b3.mono b2.size)) (Fk.own_nil _ _ _))
      clear HC b3 s0 s1 sf
      go_wp2_with fail
      exact bodyPost_ret (v := .agg #[.slice none 0 0, .int .i64 c]) (by simp [results, Tryd.results57, go_sem, t0, t1] <;> rfl) rfl ⟨⟨_, _, _, rfl, E3.out.1, HA.out⟩, E3.out.2⟩
    · have hfitM := Fk.rename_fit hR hg HO.out
      have HA : Hid (∀ R, Fk.Rises R → (∀ f, f ∈ R ↔ f ∈ M) → Fk.Ans (Fk.opn L [name, to]) (Fk.resRename L name to) R 0) := fun R h1 h2 => .inr (.inr ⟨HO.out, .inr ⟨_, hg, rfl, h1, h2⟩⟩)
      have HC := outcome_ok b (L.length + 2) D' _ w2 m2 M2 hfitM.1 hfitM.2
      clear hg hfitM
      go_wp2_with fail
      refine HC.mono ?_
      rintro e w3 ⟨⟨u, R, rfl, ho, hr, hmm⟩, b3⟩
      obtain ⟨ua, uc, rfl⟩ := ho.slice
      have t0 : w3.cell? ⟨w.heap.size + 1, 0, none⟩ = some (.slice none 0 0) := (b3.cell (by show w.heap.size + 1 < _; omega)).trans s0
      have t1 : w3.cell? ⟨w.heap.size + 1, 1, none⟩ = some (.int .i64 0) := (b3.cell (by show w.heap.size + 1 < _; omega)).trans s1
      have tf : ∀ j, w3.frozen? ⟨w.heap.size + 1, j, none⟩ = false := fun j => (b3.frozen (by show w.heap.size + 1 < _; omega)).trans (sf j)
      have E3 := Fk.hide (FIN.out w3 _ R 0 (b2.trans (b3.mono b2.size)) (ho.mono (by omega)))
      have HAR := Fk.hide (HA.out R hr hmm)
      clear HC b3 s0 s1 sf ho hr hmm HA
      go_wp2_with fail
      exact bodyPost_ret (v := .agg #[.slice ua R.length uc, .int .i64 0]) (by simp [results, Tryd.results57, go_sem, t0, t1] <;> rfl) rfl ⟨⟨_, _, _, rfl, E3.out.1, HAR.out⟩, E3.out.2⟩
  · rcases Fk.opn_cases L [name, to] with h0 | h1 | h2
    · exact absurd h0 h
    · have HC := outcome_err 1 none a0 a1 a2 a3 a4 w1 (by decide) (by decide) (hE.below B1.out)
      have HA : Hid (Fk.Ans (Fk.opn L [name, to]) (Fk.resRename L name to) [] 2) := .inl ⟨h1, rfl, rfl⟩
      rw [h1]
      unfold Is.er Is.cd at HC
      unfold Is.er
      clear h h1
      go_wp2_with fail
      refine HC.mono ?_
      rintro e w3 ⟨rfl, b3⟩
      have t0 : w3.cell? ⟨w.heap.size + 1, 0, none⟩ = some (.slice none 0 0) := (b3.cell (by show w.heap.size + 1 < _; omega)).trans p0
      have t1 : w3.cell? ⟨w.heap.size + 1, 1, none⟩ = some (.int .i64 0) := (b3.cell (by show w.heap.size + 1 < _; omega)).trans p1
      have tf : ∀ j, w3.frozen? ⟨w.heap.size + 1, j, none⟩ = false := fun j => (b3.frozen (by show w.heap.size + 1 < _; omega)).trans (pf j)
      have E3 := Fk.hide (FIN.out w3 (.slice none 0 0) [] 2 (B1.out.trans (b3.mono B1.out.size)) (Fk.own_nil _ _ _))
      clear HC b3 p0 p1 pf
      go_wp2_with fail
      exact bodyPost_ret (v := .agg #[.slice none 0 0, .int .i64 2]) (by simp [results, Tryd.results57, go_sem, t0, t1] <;> rfl) rfl ⟨⟨_, _, _, rfl, E3.out.1, HA.out⟩, E3.out.2⟩
    · have HC := outcome_err 2 none a0 a1 a2 a3 a4 w1 (by decide) (by decide) (hE.below B1.out)
      have HA : Hid (Fk.Ans (Fk.opn L [name, to]) (Fk.resRename L name to) [] 1) := .inr (.inl ⟨h2, rfl, rfl⟩)
      rw [h2]
      unfold Is.er Is.cd at HC
      unfold Is.er
      clear h h2
      go_wp2_with fail
      refine HC.mono ?_
      rintro e w3 ⟨rfl, b3⟩
      have t0 : w3.cell? ⟨w.heap.size + 1, 0, none⟩ = some (.slice none 0 0) := (b3.cell (by show w.heap.size + 1 < _; omega)).trans p0
      have t1 : w3.cell? ⟨w.heap.size + 1, 1, none⟩ = some (.int .i64 0) := (b3.cell (by show w.heap.size + 1 < _; omega)).trans p1
      have tf : ∀ j, w3.frozen? ⟨w.heap.size + 1, j, none⟩ = false := fun j => (b3.frozen (by show w.heap.size + 1 < _; omega)).trans (pf j)
      have E3 := Fk.hide (FIN.out w3 (.slice none 0 0) [] 1 (B1.out.trans (b3.mono B1.out.size)) (Fk.own_nil _ _ _))
      clear HC b3 p0 p1 pf
      go_wp2_with fail
      exact bodyPost_ret (v := .agg #[.slice none 0 0, .int .i64 1]) (by simp [results, Tryd.results57, go_sem, t0, t1] <;> rfl) rfl ⟨⟨_, _, _, rfl, E3.out.1, HA.out⟩, E3.out.2⟩
end Go.Proofs.YtlmbejldnfkfhaaDoor
