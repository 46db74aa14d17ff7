/- The walks of FsRead, the program's and the specification's: both answer 'rdOf'. -/
import Derived.Test.YtmemlfpmmkdhmaaDoorFsBegin
import Derived.Test.YtmemlfpmmkdhmaaDoorCopyWalks
import Derived.Test.YtmemlfpmmkdhmaaDoorEqText
namespace Go.Proofs.YtmemlfpmmkdhmaaDoor
open Go.RowKit
set_option linter.unusedVariables false
/-- what is read of a name -/
def Fk.rdOf (L : List Fk.Fl) (name : ByteArray) : ByteArray × Int × Int :=
  if Fk.opn L [name] = 1 then (ByteArray.empty, 0, 2) else if Fk.opn L [name] = 2 then (ByteArray.empty, 0, 1) else
    match Fk.get L name with
    | some f => (f.2.1, 0, 0)
    | none => (ByteArray.empty, 0, 6)
theorem Fk.opn_le (L : List Fk.Fl) (T : List ByteArray) : Fk.opn L T = 0 ∨ Fk.opn L T = 1 ∨ Fk.opn L T = 2 := by
  unfold Fk.opn
  split
  · exact .inr (.inl rfl)
  · split
    · exact .inr (.inr rfl)
    · split
      · exact .inr (.inr rfl)
      · exact .inl rfl

set_option maxHeartbeats 2000000 in
theorem fsRead_spec (v : Value) (L : List Fk.Fl) (name : ByteArray) (w : World) (hv : Fk.View w v L) (hL : Fk.Fits L) (hl : L.length ≤ maxLen) (hn : name.size ≤ maxLen) :
    Calls Tryd.prog 5 #[.agg #[v], .string name] w fun e w' => e = .returned (textOut (Fk.rdOf L name)) ∧ Below w.heap.size w w' := by
  obtain ⟨W, hW⟩ : ∃ W, W = (w.alloc (.cells #[v] 31)).alloc (.cells #[.string { data := #[] }, .int .i64 0, .int .i64 0] 27) := ⟨_, rfl⟩
  have b0 : Below w.heap.size w W := by
    rw [hW]
    repeat (first | exact Below.refl _ _ | refine Below.alloc ?_ (by simp <;> omega) _)
  have hsz : W.heap.size = w.heap.size + 2 := by rw [hW]; simp
  have hcell : W.cell? ⟨w.heap.size, 0, none⟩ = some v := by rw [hW, Fk.cellOld _ _ _ _ (by simp), Fk.cellTop _ _ _ _ _ rfl]; rfl
  have q0 : W.cell? ⟨w.heap.size + 1, 0, none⟩ = some (.string { data := #[] }) := by rw [hW, Fk.cellTop _ _ _ _ _ (by simp)]; rfl
  have q1 : W.cell? ⟨w.heap.size + 1, 1, none⟩ = some (.int .i64 0) := by rw [hW, Fk.cellTop _ _ _ _ _ (by simp)]; rfl
  have q2 : W.cell? ⟨w.heap.size + 1, 2, none⟩ = some (.int .i64 0) := by rw [hW, Fk.cellTop _ _ _ _ _ (by simp)]; rfl
  have f0 : ∀ j, W.frozen? ⟨w.heap.size + 1, j, none⟩ = false := fun j => by rw [hW, Fk.frozTop _ _ _ _ _ (by simp)]
  have hv' := hv.below b0
  have HW := Fk.hide hW
  clear hW hv
  have hvW := hv'
  obtain ⟨a, cap, rfl, hs⟩ := hv'
  clear hs
  go_enter Tryd.func5, Tryd.ntmps5
  go_wp2_with fail
  rw [← HW.out]
  refine (l02Begin_any _ L name _ hvW hL hl hn).mono ?_
  rintro e w1 ⟨h1, b1⟩
  have B1 := Fk.hide (b0.trans (b1.mono b0.size))
  have hcell1 : w1.cell? ⟨w.heap.size, 0, none⟩ = some (.slice a L.length cap) := (b1.cell (by show w.heap.size < _; omega)).trans hcell
  have p0 : w1.cell? ⟨w.heap.size + 1, 0, none⟩ = some (.string { data := #[] }) := (b1.cell (by show w.heap.size + 1 < _; omega)).trans q0
  have p1 : w1.cell? ⟨w.heap.size + 1, 1, none⟩ = some (.int .i64 0) := (b1.cell (by show w.heap.size + 1 < _; omega)).trans q1
  have p2 : w1.cell? ⟨w.heap.size + 1, 2, none⟩ = some (.int .i64 0) := (b1.cell (by show w.heap.size + 1 < _; omega)).trans q2
  have pf : ∀ j, w1.frozen? ⟨w.heap.size + 1, j, none⟩ = false := fun j => (b1.frozen (by show w.heap.size + 1 < _; omega)).trans (f0 j)
  have hv1 := hvW.below b1
  clear b1 hcell q0 q1 q2 f0 hvW
  have HB3 : Hid (∀ x y z, Below w.heap.size w (((w1.setCell ⟨w.heap.size + 1, 0, none⟩ x).setCell ⟨w.heap.size + 1, 1, none⟩ y).setCell ⟨w.heap.size + 1, 2, none⟩ z)) := fun x y z => ((B1.out.setCell (by simp) _).setCell (by simp) _).setCell (by simp) _
  rcases h1 with ⟨h, rfl⟩ | ⟨h, rfl⟩ | ⟨h, hg, rfl⟩ | ⟨h, k, hk, hk1, hg, rfl⟩
  · have HR : Hid (Fk.rdOf L name = (ByteArray.empty, 0, 2)) := by show _ = _; simp [Fk.rdOf, h]
    clear h
    go_wp2_with fail
    refine bodyPost_ret (v := textOut (ByteArray.empty, 0, 2)) (by simp [results, Tryd.results5, go_sem, textOut, p0, p1, p2] <;> rfl) rfl ⟨by rw [HR.out], HB3.out _ _ _⟩
  · have HR : Hid (Fk.rdOf L name = (ByteArray.empty, 0, 1)) := by show _ = _; simp [Fk.rdOf, h]
    clear h
    go_wp2_with fail
    refine bodyPost_ret (v := textOut (ByteArray.empty, 0, 1)) (by simp [results, Tryd.results5, go_sem, textOut, p0, p1, p2] <;> rfl) rfl ⟨by rw [HR.out], HB3.out _ _ _⟩
  · have HR : Hid (Fk.rdOf L name = (ByteArray.empty, 0, 6)) := by show _ = _; simp [Fk.rdOf, h, hg]
    clear h hg
    go_wp2_with fail
    refine bodyPost_ret (v := textOut (ByteArray.empty, 0, 6)) (by simp [results, Tryd.results5, go_sem, textOut, p0, p1, p2] <;> rfl) rfl ⟨by rw [HR.out], HB3.out _ _ _⟩
  · have HR : Hid (Fk.rdOf L name = (Fk.dt L k, 0, 0)) := by show _ = _; simp [Fk.rdOf, h, hg]
    clear h hg
    obtain ⟨a', cap', ev, hs1⟩ := hv1
    simp only [Value.slice.injEq] at ev
    obtain ⟨rfl, _, rfl⟩ := ev
    obtain ⟨b, o, rfl, hb1, hs2⟩ := hs1 (by omega)
    have r1 := hs2.c1 k hk
    clear hs1
    go_wp2_with fail
    refine bodyPost_ret (v := textOut (Fk.dt L k, 0, 0)) (by simp [results, Tryd.results5, go_sem, textOut, p0, p1, p2] <;> rfl) rfl ⟨by rw [HR.out], HB3.out _ _ _⟩

set_option maxHeartbeats 2000000 in
theorem fsRead_impl (v : Value) (L : List Fk.Fl) (name : ByteArray) (a0 a1 a2 a3 a4 : Addr) (w : World) (hv : Fk.View w v L) (hL : Fk.Fits L) (hl : L.length ≤ maxLen) (hn : name.size ≤ maxLen) (hE : Is.Errs w a0 a1 a2 a3 a4) :
    Calls Tryd.prog 7 #[.agg #[v], .string name] w fun e w' => e = .returned (textOut (Fk.rdOf L name)) ∧ Below w.heap.size w w' := by
  obtain ⟨W, hW⟩ : ∃ W, W = ((w.alloc (.cells #[v] 31)).alloc (.cells #[.string { data := #[] }, .int .i64 0, .int .i64 0] 27)).alloc (.cells #[.string name] 9) := ⟨_, rfl⟩
  have b0 : Below w.heap.size w W := by
    rw [hW]
    repeat (first | exact Below.refl _ _ | refine Below.alloc ?_ (by simp <;> omega) _)
  have hsz : W.heap.size = w.heap.size + 3 := by rw [hW]; simp
  have q0 : W.cell? ⟨w.heap.size + 1, 0, none⟩ = some (.string { data := #[] }) := by rw [hW, Fk.cellOld _ _ _ _ (by simp), Fk.cellTop _ _ _ _ _ (by simp)]; rfl
  have q1 : W.cell? ⟨w.heap.size + 1, 1, none⟩ = some (.int .i64 0) := by rw [hW, Fk.cellOld _ _ _ _ (by simp), Fk.cellTop _ _ _ _ _ (by simp)]; rfl
  have q2 : W.cell? ⟨w.heap.size + 1, 2, none⟩ = some (.int .i64 0) := by rw [hW, Fk.cellOld _ _ _ _ (by simp), Fk.cellTop _ _ _ _ _ (by simp)]; rfl
  have f0 : ∀ j, W.frozen? ⟨w.heap.size + 1, j, none⟩ = false := fun j => by rw [hW, Fk.frozOld _ _ _ _ (by simp), Fk.frozTop _ _ _ _ _ (by simp)]
  have qn : W.cell? ⟨w.heap.size + 2, 0, none⟩ = some (.string name) := by rw [hW, Fk.cellTop _ _ _ _ _ (by simp)]; rfl
  have hv' := hv.below b0
  have hE' := hE.below b0
  have HW := Fk.hide hW
  clear hW hv hE
  have hvW := hv'
  obtain ⟨a, cap, rfl, hs⟩ := hv'
  clear hs
  go_enter Tryd.func7, Tryd.ntmps7
  go_wp2_with fail
  rw [← HW.out]
  refine (open_any _ L [name] (w.heap.size + 2) a0 a1 a2 a3 a4 _ hvW hL hl (by simp) ?_ (by omega) ?_ hE').mono ?_
  · intro k
    match k with
    | 0 => exact hn
    | k + 1 => exact Nat.zero_le _
  · intro k hk
    have e : k = 0 := by simpa using hk
    subst e
    exact qn
  rintro e w1 ⟨h1, b1⟩
  have B1 := Fk.hide (b0.trans (b1.mono b0.size))
  have p0 : w1.cell? ⟨w.heap.size + 1, 0, none⟩ = some (.string { data := #[] }) := (b1.cell (by show w.heap.size + 1 < _; omega)).trans q0
  have p1 : w1.cell? ⟨w.heap.size + 1, 1, none⟩ = some (.int .i64 0) := (b1.cell (by show w.heap.size + 1 < _; omega)).trans q1
  have p2 : w1.cell? ⟨w.heap.size + 1, 2, none⟩ = some (.int .i64 0) := (b1.cell (by show w.heap.size + 1 < _; omega)).trans q2
  have pf : ∀ j, w1.frozen? ⟨w.heap.size + 1, j, none⟩ = false := fun j => (b1.frozen (by show w.heap.size + 1 < _; omega)).trans (f0 j)
  have E1 := Fk.hide (hE'.below b1)
  have hsz1 : w.heap.size + 3 ≤ w1.heap.size := by have := b1.size; omega
  clear b1 q0 q1 q2 f0 hvW qn hE'
  rcases h1 with ⟨h, b, D, rfl, hown, hM, hb⟩ | ⟨h, rfl⟩
  · have HO := Fk.hide h
    have HM := Fk.hide hM
    clear h hM
    go_wp2_with fail
    refine (find_any b L.length D L name a0 a1 a2 a3 a4 _ hown HM.out hn E1.out).mono ?_
    rintro e w2 ⟨h2, b2⟩
    have B2 := Fk.hide (B1.out.trans (b2.mono B1.out.size))
    have E2 := Fk.hide (E1.out.below b2)
    have s0 : w2.cell? ⟨w.heap.size + 1, 0, none⟩ = some (.string { data := #[] }) := (b2.cell (by show w.heap.size + 1 < _; omega)).trans p0
    have s1 : w2.cell? ⟨w.heap.size + 1, 1, none⟩ = some (.int .i64 0) := (b2.cell (by show w.heap.size + 1 < _; omega)).trans p1
    have s2 : w2.cell? ⟨w.heap.size + 1, 2, none⟩ = some (.int .i64 0) := (b2.cell (by show w.heap.size + 1 < _; omega)).trans p2
    have sf : ∀ j, w2.frozen? ⟨w.heap.size + 1, j, none⟩ = false := fun j => (b2.frozen (by show w.heap.size + 1 < _; omega)).trans (pf j)
    have hsz2 : w.heap.size + 3 ≤ w2.heap.size := by have := b2.size; omega
    clear b2 p0 p1 p2 pf hown E1
    rcases h2 with ⟨f, hg, rfl⟩ | ⟨hg, rfl⟩
    · have HR : Hid (Fk.rdOf L name = (f.2.1, 0, 0)) := by show _ = _; simp [Fk.rdOf, HO.out, hg]
      have hf : f.2.1.size ≤ 3000 := by
        have h1 := (Fk.get_some hg).1
        obtain ⟨j, hj, e⟩ := List.getElem_of_mem h1
        have h2 := (Fk.right_inv L (Fk.opn_right L [name] HO.out)).2 j hj
        simp only [Fk.step, Bool.and_eq_true] at h2
        have h3 := (Fk.fok_inv h2.1).2.1
        simpa [Fk.dt, List.getD, List.getElem?_eq_getElem hj, e] using h3
      clear hg
      obtain ⟨fa, fb, fc⟩ := f
      obtain ⟨W3, hW3⟩ : ∃ W3, W3 = w2.alloc (.cells #[.string fa, .string fb, .int .i64 fc] 40) := ⟨_, rfl⟩
      have b3 : Below w2.heap.size w2 W3 := by rw [hW3]; exact (Below.refl _ _).alloc (Nat.le_refl _) _
      have HW3 := Fk.hide hW3
      have E3 := Fk.hide (E2.out.below b3)
      have B3 := Fk.hide (B2.out.trans (b3.mono B2.out.size))
      have u0 : W3.cell? ⟨w.heap.size + 1, 0, none⟩ = some (.string { data := #[] }) := (b3.cell (by show w.heap.size + 1 < _; omega)).trans s0
      have u1 : W3.cell? ⟨w.heap.size + 1, 1, none⟩ = some (.int .i64 0) := (b3.cell (by show w.heap.size + 1 < _; omega)).trans s1
      have u2 : W3.cell? ⟨w.heap.size + 1, 2, none⟩ = some (.int .i64 0) := (b3.cell (by show w.heap.size + 1 < _; omega)).trans s2
      have uf : ∀ j, W3.frozen? ⟨w.heap.size + 1, j, none⟩ = false := fun j => (b3.frozen (by show w.heap.size + 1 < _; omega)).trans (sf j)
      have hsz3 : w.heap.size + 3 ≤ W3.heap.size := by have := b3.size; omega
      clear hW3 b3 E2
      go_wp2_with fail
      rw [← HW3.out]
      clear s0 s1 s2 sf
      refine (copyText_any _ _ (by omega)).mono ?_
      rintro e w4 ⟨rfl, b4⟩
      have E4 := Fk.hide (E3.out.below b4)
      have B4 := Fk.hide (B3.out.trans (b4.mono B3.out.size))
      have x0 : w4.cell? ⟨w.heap.size + 1, 0, none⟩ = some (.string { data := #[] }) := (b4.cell (by show w.heap.size + 1 < _; omega)).trans u0
      have x1 : w4.cell? ⟨w.heap.size + 1, 1, none⟩ = some (.int .i64 0) := (b4.cell (by show w.heap.size + 1 < _; omega)).trans u1
      have x2 : w4.cell? ⟨w.heap.size + 1, 2, none⟩ = some (.int .i64 0) := (b4.cell (by show w.heap.size + 1 < _; omega)).trans u2
      have xf : ∀ j, w4.frozen? ⟨w.heap.size + 1, j, none⟩ = false := fun j => (b4.frozen (by show w.heap.size + 1 < _; omega)).trans (uf j)
      clear b4 u0 u1 u2 uf E3
      have HC := Is.code_any 0 a0 a1 a2 a3 a4 w4 E4.out
      unfold Is.er Is.cd at HC
      go_wp2_with fail
      refine HC.mono ?_
      rintro e w5 ⟨rfl, rfl⟩
      have HB3 : Hid (∀ x y z, Below w.heap.size w (((w5.setCell ⟨w.heap.size + 1, 0, none⟩ x).setCell ⟨w.heap.size + 1, 1, none⟩ y).setCell ⟨w.heap.size + 1, 2, none⟩ z)) := fun x y z => ((B4.out.setCell (by simp) _).setCell (by simp) _).setCell (by simp) _
      clear HC
      go_wp2_with fail
      refine bodyPost_ret (v := textOut (fb, 0, 0)) (by simp [results, Tryd.results7, go_sem, textOut, x0, x1, x2] <;> rfl) rfl ⟨by rw [HR.out], HB3.out _ _ _⟩
    · have HR : Hid (Fk.rdOf L name = (ByteArray.empty, 0, 6)) := by show _ = _; simp [Fk.rdOf, HO.out, hg]
      clear hg
      obtain ⟨W3, hW3⟩ : ∃ W3, W3 = w2.alloc (.cells #[.string ByteArray.empty, .string ByteArray.empty, .int .i64 0] 40) := ⟨_, rfl⟩
      have b3 : Below w2.heap.size w2 W3 := by rw [hW3]; exact (Below.refl _ _).alloc (Nat.le_refl _) _
      unfold Is.er
      have HW3 := Fk.hide hW3
      have E3 := Fk.hide (E2.out.below b3)
      have B3 := Fk.hide (B2.out.trans (b3.mono B2.out.size))
      have u0 : W3.cell? ⟨w.heap.size + 1, 0, none⟩ = some (.string { data := #[] }) := (b3.cell (by show w.heap.size + 1 < _; omega)).trans s0
      have u1 : W3.cell? ⟨w.heap.size + 1, 1, none⟩ = some (.int .i64 0) := (b3.cell (by show w.heap.size + 1 < _; omega)).trans s1
      have u2 : W3.cell? ⟨w.heap.size + 1, 2, none⟩ = some (.int .i64 0) := (b3.cell (by show w.heap.size + 1 < _; omega)).trans s2
      have uf : ∀ j, W3.frozen? ⟨w.heap.size + 1, j, none⟩ = false := fun j => (b3.frozen (by show w.heap.size + 1 < _; omega)).trans (sf j)
      have hsz3 : w.heap.size + 3 ≤ W3.heap.size := by have := b3.size; omega
      clear hW3 b3 E2
      go_wp2_with fail
      rw [← HW3.out]
      clear s0 s1 s2 sf
      refine (copyText_any _ _ (by decide)).mono ?_
      rintro e w4 ⟨rfl, b4⟩
      have E4 := Fk.hide (E3.out.below b4)
      have B4 := Fk.hide (B3.out.trans (b4.mono B3.out.size))
      have x0 : w4.cell? ⟨w.heap.size + 1, 0, none⟩ = some (.string { data := #[] }) := (b4.cell (by show w.heap.size + 1 < _; omega)).trans u0
      have x1 : w4.cell? ⟨w.heap.size + 1, 1, none⟩ = some (.int .i64 0) := (b4.cell (by show w.heap.size + 1 < _; omega)).trans u1
      have x2 : w4.cell? ⟨w.heap.size + 1, 2, none⟩ = some (.int .i64 0) := (b4.cell (by show w.heap.size + 1 < _; omega)).trans u2
      have xf : ∀ j, w4.frozen? ⟨w.heap.size + 1, j, none⟩ = false := fun j => (b4.frozen (by show w.heap.size + 1 < _; omega)).trans (uf j)
      clear b4 u0 u1 u2 uf E3
      have HC := Is.code_any 3 a0 a1 a2 a3 a4 w4 E4.out
      unfold Is.er Is.cd at HC
      go_wp2_with fail
      refine HC.mono ?_
      rintro e w5 ⟨rfl, rfl⟩
      have HB3 : Hid (∀ x y z, Below w.heap.size w (((w5.setCell ⟨w.heap.size + 1, 0, none⟩ x).setCell ⟨w.heap.size + 1, 1, none⟩ y).setCell ⟨w.heap.size + 1, 2, none⟩ z)) := fun x y z => ((B4.out.setCell (by simp) _).setCell (by simp) _).setCell (by simp) _
      clear HC
      go_wp2_with fail
      refine bodyPost_ret (v := textOut (ByteArray.empty, 0, 6)) (by simp [results, Tryd.results7, go_sem, textOut, x0, x1, x2] <;> rfl) rfl ⟨by rw [HR.out], HB3.out _ _ _⟩
  · rcases Fk.opn_le L [name] with h0 | h1 | h2
    · exact absurd h0 h
    · have HR : Hid (Fk.rdOf L name = (ByteArray.empty, 0, 2)) := by show _ = _; simp [Fk.rdOf, h1]
      have HC := Is.code_any 1 a0 a1 a2 a3 a4 w1 E1.out
      rw [h1]
      unfold Is.er Is.cd at HC
      unfold Is.er
      clear h h1
      go_wp2_with fail
      refine HC.mono ?_
      rintro e w5 ⟨rfl, rfl⟩
      have HB3 : Hid (∀ x y z, Below w.heap.size w (((w5.setCell ⟨w.heap.size + 1, 0, none⟩ x).setCell ⟨w.heap.size + 1, 1, none⟩ y).setCell ⟨w.heap.size + 1, 2, none⟩ z)) := fun x y z => ((B1.out.setCell (by simp) _).setCell (by simp) _).setCell (by simp) _
      clear HC
      go_wp2_with fail
      refine bodyPost_ret (v := textOut (ByteArray.empty, 0, 2)) (by simp [results, Tryd.results7, go_sem, textOut, p0, p1, p2] <;> rfl) rfl ⟨by rw [HR.out], HB3.out _ _ _⟩
    · have HR : Hid (Fk.rdOf L name = (ByteArray.empty, 0, 1)) := by show _ = _; simp [Fk.rdOf, h2]
      have HC := Is.code_any 2 a0 a1 a2 a3 a4 w1 E1.out
      rw [h2]
      unfold Is.er Is.cd at HC
      unfold Is.er
      clear h h2
      go_wp2_with fail
      refine HC.mono ?_
      rintro e w5 ⟨rfl, rfl⟩
      have HB3 : Hid (∀ x y z, Below w.heap.size w (((w5.setCell ⟨w.heap.size + 1, 0, none⟩ x).setCell ⟨w.heap.size + 1, 1, none⟩ y).setCell ⟨w.heap.size + 1, 2, none⟩ z)) := fun x y z => ((B1.out.setCell (by simp) _).setCell (by simp) _).setCell (by simp) _
      clear HC
      go_wp2_with fail
      refine bodyPost_ret (v := textOut (ByteArray.empty, 0, 1)) (by simp [results, Tryd.results7, go_sem, textOut, p0, p1, p2] <;> rfl) rfl ⟨by rw [HR.out], HB3.out _ _ _⟩
end Go.Proofs.YtmemlfpmmkdhmaaDoor
