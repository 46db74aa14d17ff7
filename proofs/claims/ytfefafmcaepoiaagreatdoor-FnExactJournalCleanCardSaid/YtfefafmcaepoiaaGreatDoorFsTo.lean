/- The walks of the law's own copies: a list of the law's files becomes a new list of the program's files. -/
import Derived.Test.YtfefafmcaepoiaaGreatDoorProg
import Derived.Test.YtfefafmcaepoiaaGreatDoorFsKit
import Derived.WalkKit
import Derived.WalkSpells
import Derived.WalkLawsBesides
namespace Go.Proofs.YtfefafmcaepoiaaGreatDoor
open Go.RowKit
set_option linter.unusedVariables false

theorem infoFile : (Tryz.prog.info? 73).map (fun i => (i.zero, i.size, i.bytes)) = some (some (.agg #[.string ByteArray.empty, .string ByteArray.empty, .int .i64 0]), 3, 40) := by kernel_rfl

set_option maxHeartbeats 1000000 in
theorem toFile_any (a b : ByteArray) (s : Int) (w : World) :
    Calls Tryz.prog 47 #[.agg #[.string a, .string b, .int .i64 s]] w fun e w' =>
      e = .returned (.agg #[.string a, .string b, .int .i64 s]) ∧ Below w.heap.size w w' := by
  go_enter Tryz.func47, Tryz.ntmps47
  go_wp2
  refine bodyPost_ret (v := .agg #[.string a, .string b, .int .i64 s]) (by simp [results, Tryz.results47, go_sem] <;> rfl) rfl ⟨rfl, ?_⟩
  repeat (first | exact Below.refl _ _ | refine Below.setCell ?_ (by simp <;> omega) _ | refine Below.alloc ?_ (by simp <;> omega) _)

set_option maxHeartbeats 1000000 in
theorem toFileS_any (v : Value) (L : List Fk.Fl) (w : World) (hv : Fk.View w v L) (hl : L.length ≤ 1048576) :
    Calls Tryz.prog 23 #[v] w fun e w' =>
      (∃ u, e = .returned u ∧ Fk.Own w' w.heap.size 73 u L) ∧ Below w.heap.size w w' := by
  obtain ⟨a, cap, rfl, hs⟩ := hv
  obtain ⟨i0, hi, hz0, hz1, hz2⟩ := info_parts infoFile
  go_enter Tryz.func23, Tryz.ntmps23
  go_wp2_with (at_make; refine wpList_make_full _ rfl _ _ 26 rfl w.heap.size 73 i0 _ 3 Tryz.underlying26 hi hz0 hz1 _ _ _ _ L.length rfl rfl rfl rfl (by rw [hz2]; omega) (by unfold maxLen; omega) (Nat.le_refl _) ?_; intro w1 hown hgrow)
  have hown1 : Fk.Own w1 w.heap.size 73 (.slice (some ⟨w.heap.size, 0, none⟩) L.length L.length) (Fk.fill L 0) := by
    unfold Fk.Own
    rw [Fk.fill_none, ← Fk.flat_made, List.length_replicate]
    exact hown
  have bel0 : Below w.heap.size w w1 := (Below.refl _ _).grown hgrow (Nat.le_refl _) (fun j hj => by cases hj)
  clear hown hgrow
  go_wp2_with fail
  go_loopw [4] (fun i wr => ∃ k : Nat, k ≤ L.length ∧ i = .int .i64 k ∧ Hid (Fk.Own wr w.heap.size 73 (.slice (some ⟨w.heap.size, 0, none⟩) L.length L.length) (Fk.fill L k)) ∧ Below w.heap.size w wr) (fun i _ => L.length - (intOf i).toNat)
  case atStart => exact ⟨0, Nat.zero_le _, rfl, hown1, bel0⟩
  case round =>
    obtain ⟨k, hk, rfl, HO, bel⟩ := hrel
    clear hown1 bel0
    by_cases hlt : k < L.length
    · obtain ⟨b, o, rfl, hb, hs1⟩ := hs (by omega)
      have hs' := hs1.below hb bel
      have q0 := hs'.c0 k hlt
      have q1 := hs'.c1 k hlt
      have q2 := hs'.c2 k hlt
      clear hs'
      go_wp2_with fail
      refine (toFile_any _ _ _ _).mono ?_
      rintro e w2 ⟨rfl, bel1⟩
      have HO2 : Hid (Fk.Own w2 w.heap.size 73 (.slice (some ⟨w.heap.size, 0, none⟩) L.length L.length) (Fk.fill L k)) := HO.out.below bel1
      have bel2 : Below w.heap.size w w2 := bel.trans (bel1.mono bel.size)
      obtain ⟨⟨p0, p1, p2⟩, p3, p4, p5⟩ := HO2.out.at (k := k) (by rw [Fk.fill_length L k hk]; exact hlt)
      clear bel1 q0 q1 q2
      go_wp2_with fail
      go_roundw
      case rel =>
        refine ⟨k + 1, by omega, by go_num, ?_, ?_⟩
        · have := HO2.out
          rw [← Fk.fill_length L k hk] at this
          have := Fk.own_set this (k := k) (by rw [Fk.fill_length L k hk]; exact hlt) (Fk.nm L k, Fk.dt L k, Fk.sy L k)
          rw [Fk.fill_step L k hlt, Fk.fill_length L k hk] at this
          exact this
        · exact ((bel2.setCell (Nat.le_refl _) _).setCell (Nat.le_refl _) _).setCell (Nat.le_refl _) _
      case measure => simp [intOf]; omega
    · have e : k = L.length := by omega
      subst e
      go_wp2_with fail
      go_ret
      refine ⟨⟨_, rfl, ?_⟩, bel⟩
      have := HO.out
      rw [Fk.fill_all] at this
      exact this

set_option maxHeartbeats 1000000 in
theorem toFs_any (v : Value) (L : List Fk.Fl) (w : World) (hv : Fk.View w v L) (hl : L.length ≤ 1048576) :
    Calls Tryz.prog 7 #[.agg #[v]] w fun e w' =>
      (∃ u, e = .returned (.agg #[u]) ∧ Fk.Own w' w.heap.size 73 u L) ∧ Below w.heap.size w w' := by
  obtain ⟨W, hW⟩ : ∃ W, W = ((w.alloc (.cells #[v] 24)).alloc (.cells #[.slice none 0 0] 28)).alloc (.cells #[.slice none 0 0] 28) := ⟨_, rfl⟩
  have b0 : Below w.heap.size w W := by
    subst hW
    repeat (first | exact Below.refl _ _ | refine Below.alloc ?_ (by simp <;> omega) _)
  have hv' := hv.below b0
  have hsz : W.heap.size = w.heap.size + 3 := by subst hW; simp
  have e1 : W.cell? ⟨w.heap.size + 1, 0, none⟩ = some (.slice none 0 0) := by subst hW; rw [Fk.cellOld _ _ _ _ (by simp), Fk.cellTop _ _ _ _ _ (by simp)]; rfl
  have e2 : W.cell? ⟨w.heap.size + 2, 0, none⟩ = some (.slice none 0 0) := by subst hW; rw [Fk.cellTop _ _ _ _ _ (by simp)]; rfl
  have f1 : W.frozen? ⟨w.heap.size + 1, 0, none⟩ = false := by subst hW; rw [Fk.frozOld _ _ _ _ (by simp), Fk.frozTop _ _ _ _ _ (by simp)]
  have f2 : W.frozen? ⟨w.heap.size + 2, 0, none⟩ = false := by subst hW; rw [Fk.frozTop _ _ _ _ _ (by simp)]
  obtain ⟨a, cap, rfl, _⟩ := hv
  have HW : Hid (W = ((w.alloc (.cells #[.slice a L.length cap] 24)).alloc (.cells #[.slice none 0 0] 28)).alloc (.cells #[.slice none 0 0] 28)) := hW
  clear hW
  go_enter Tryz.func7, Tryz.ntmps7
  go_wp2_with fail
  rw [← HW.out]
  refine (toFileS_any _ _ _ hv' hl).mono ?_
  rintro e w1 ⟨⟨u, rfl, hown⟩, bel1⟩
  have HE : Hid (Below w.heap.size w w1) := b0.trans (bel1.mono b0.size)
  have g1 : w1.cell? ⟨w.heap.size + 1, 0, none⟩ = some (.slice none 0 0) := (bel1.cell (by show w.heap.size + 1 < _; omega)).trans e1
  have g2 : w1.cell? ⟨w.heap.size + 2, 0, none⟩ = some (.slice none 0 0) := (bel1.cell (by show w.heap.size + 2 < _; omega)).trans e2
  have k1 : w1.frozen? ⟨w.heap.size + 1, 0, none⟩ = false := (bel1.frozen (by show w.heap.size + 1 < _; omega)).trans f1
  have k2 : w1.frozen? ⟨w.heap.size + 2, 0, none⟩ = false := (bel1.frozen (by show w.heap.size + 2 < _; omega)).trans f2
  have HO : Hid (Fk.Own w1 W.heap.size 73 u L) := hown
  obtain ⟨a', n', cap', rfl⟩ : ∃ a' n' cap', u = .slice a' n' cap' := by
    rcases hown.form with ⟨h, _⟩ | ⟨g, c, h, _⟩
    · exact ⟨_, _, _, h⟩
    · exact ⟨_, _, _, h⟩
  clear hown bel1 e1 e2 f1 f2
  go_wp2_with fail
  refine bodyPost_ret (v := .agg #[.slice a' n' cap']) (by simp [results, Tryz.results7, go_sem, g1] <;> rfl) rfl ⟨⟨_, rfl, ?_⟩, ?_⟩
  · refine Fk.Own.mono ?_ b0.size
    exact ownsRow_setCell_below (ownsRow_setCell_below HO.out (by show w.heap.size + 2 < _; omega) _) (by show w.heap.size + 1 < _; omega) _
  · exact (HE.out.setCell (by show w.heap.size ≤ w.heap.size + 2; omega) _).setCell (by show w.heap.size ≤ w.heap.size + 1; omega) _
end Go.Proofs.YtfefafmcaepoiaaGreatDoor
