/- The walks of FsRead, the program's and the specification's: both answer 'rdOf'. The journal's bytes as the specification reads them. -/
import Derived.Test.YtfefafmcaepoiaaGreatDoorFsBegin
import Derived.Test.YtfefafmcaepoiaaGreatDoorCopyWalks
import Derived.Test.YtfefafmcaepoiaaGreatDoorEqText
import Derived.Test.YtfefafmcaepoiaaGreatDoorJoined6
namespace Go.Proofs.YtfefafmcaepoiaaGreatDoor
open Go.RowKit
set_option linter.unusedVariables false
/-- what is read of a name -/
def Fk.rdOf (L : List Fk.Fl) (name : ByteArray) : ByteArray × Int × Int :=
  if Fk.opn L [name] = 1 then (ByteArray.empty, 0, 2) else if Fk.opn L [name] = 2 then (ByteArray.empty, 0, 1) else
    match Fk.get L name with
    | some f => (f.2.1, 0, 0)
    | none => (ByteArray.empty, 0, 6)
theorem Fk.opn_le (L : List Fk.Fl) (T : List ByteArray) : Fk.opn L T = 0 ∨ Fk.opn L T = 1 ∨ Fk.opn L T = 2 := by
  unfold Fk.opn
  split
  · exact .inr (.inl rfl)
  · split
    · exact .inr (.inr rfl)
    · split
      · exact .inr (.inr rfl)
      · exact .inl rfl

set_option maxHeartbeats 2000000 in
theorem fsRead_spec (v : Value) (L : List Fk.Fl) (name : ByteArray) (w : World) (hv : Fk.View w v L) (hL : Fk.Fits L) (hl : L.length ≤ maxLen) (hn : name.size ≤ maxLen) :
    Calls Tryz.prog 35 #[.agg #[v], .string name] w fun e w' => e = .returned (textOut (Fk.rdOf L name)) ∧ Below w.heap.size w w' := by
  obtain ⟨W, hW⟩ : ∃ W, W = (w.alloc (.cells #[v] 28)).alloc (.cells #[.string { data := #[] }, .int .i64 0, .int .i64 0] 64) := ⟨_, rfl⟩
  have b0 : Below w.heap.size w W := by
    rw [hW]
    repeat (first | exact Below.refl _ _ | refine Below.alloc ?_ (by simp <;> omega) _)
  have hsz : W.heap.size = w.heap.size + 2 := by rw [hW]; simp
  have hcell : W.cell? ⟨w.heap.size, 0, none⟩ = some v := by rw [hW, Fk.cellOld _ _ _ _ (by simp), Fk.cellTop _ _ _ _ _ rfl]; rfl
  have q0 : W.cell? ⟨w.heap.size + 1, 0, none⟩ = some (.string { data := #[] }) := by rw [hW, Fk.cellTop _ _ _ _ _ (by simp)]; rfl
  have q1 : W.cell? ⟨w.heap.size + 1, 1, none⟩ = some (.int .i64 0) := by rw [hW, Fk.cellTop _ _ _ _ _ (by simp)]; rfl
  have q2 : W.cell? ⟨w.heap.size + 1, 2, none⟩ = some (.int .i64 0) := by rw [hW, Fk.cellTop _ _ _ _ _ (by simp)]; rfl
  have f0 : ∀ j, W.frozen? ⟨w.heap.size + 1, j, none⟩ = false := fun j => by rw [hW, Fk.frozTop _ _ _ _ _ (by simp)]
  have hv' := hv.below b0
  have HW := Fk.hide hW
  clear hW hv
  have hvW := hv'
  obtain ⟨a, cap, rfl, hs⟩ := hv'
  clear hs
  go_enter Tryz.func35, Tryz.ntmps35
  go_wp2_with fail
  rw [← HW.out]
  refine (l02Begin_any _ L name _ hvW hL hl hn).mono ?_
  rintro e w1 ⟨h1, b1⟩
  have B1 := Fk.hide (b0.trans (b1.mono b0.size))
  have hcell1 : w1.cell? ⟨w.heap.size, 0, none⟩ = some (.slice a L.length cap) := (b1.cell (by show w.heap.size < _; omega)).trans hcell
  have p0 : w1.cell? ⟨w.heap.size + 1, 0, none⟩ = some (.string { data := #[] }) := (b1.cell (by show w.heap.size + 1 < _; omega)).trans q0
  have p1 : w1.cell? ⟨w.heap.size + 1, 1, none⟩ = some (.int .i64 0) := (b1.cell (by show w.heap.size + 1 < _; omega)).trans q1
  have p2 : w1.cell? ⟨w.heap.size + 1, 2, none⟩ = some (.int .i64 0) := (b1.cell (by show w.heap.size + 1 < _; omega)).trans q2
  have pf : ∀ j, w1.frozen? ⟨w.heap.size + 1, j, none⟩ = false := fun j => (b1.frozen (by show w.heap.size + 1 < _; omega)).trans (f0 j)
  have hv1 := hvW.below b1
  clear b1 hcell q0 q1 q2 f0 hvW
  have HB3 : Hid (∀ x y z, Below w.heap.size w (((w1.setCell ⟨w.heap.size + 1, 0, none⟩ x).setCell ⟨w.heap.size + 1, 1, none⟩ y).setCell ⟨w.heap.size + 1, 2, none⟩ z)) := fun x y z => ((B1.out.setCell (by simp) _).setCell (by simp) _).setCell (by simp) _
  rcases h1 with ⟨h, rfl⟩ | ⟨h, rfl⟩ | ⟨h, hg, rfl⟩ | ⟨h, k, hk, hk1, hg, rfl⟩
  · have HR : Hid (Fk.rdOf L name = (ByteArray.empty, 0, 2)) := by show _ = _; simp [Fk.rdOf, h]
    clear h
    go_wp2_with fail
    refine bodyPost_ret (v := textOut (ByteArray.empty, 0, 2)) (by simp [results, Tryz.results35, go_sem, textOut, p0, p1, p2] <;> rfl) rfl ⟨by rw [HR.out], HB3.out _ _ _⟩
  · have HR : Hid (Fk.rdOf L name = (ByteArray.empty, 0, 1)) := by show _ = _; simp [Fk.rdOf, h]
    clear h
    go_wp2_with fail
    refine bodyPost_ret (v := textOut (ByteArray.empty, 0, 1)) (by simp [results, Tryz.results35, go_sem, textOut, p0, p1, p2] <;> rfl) rfl ⟨by rw [HR.out], HB3.out _ _ _⟩
  · have HR : Hid (Fk.rdOf L name = (ByteArray.empty, 0, 6)) := by show _ = _; simp [Fk.rdOf, h, hg]
    clear h hg
    go_wp2_with fail
    refine bodyPost_ret (v := textOut (ByteArray.empty, 0, 6)) (by simp [results, Tryz.results35, go_sem, textOut, p0, p1, p2] <;> rfl) rfl ⟨by rw [HR.out], HB3.out _ _ _⟩
  · have HR : Hid (Fk.rdOf L name = (Fk.dt L k, 0, 0)) := by show _ = _; simp [Fk.rdOf, h, hg]
    clear h hg
    obtain ⟨a', cap', ev, hs1⟩ := hv1
    simp only [Value.slice.injEq] at ev
    obtain ⟨rfl, _, rfl⟩ := ev
    obtain ⟨b, o, rfl, hb1, hs2⟩ := hs1 (by omega)
    have r1 := hs2.c1 k hk
    clear hs1
    go_wp2_with fail
    refine bodyPost_ret (v := textOut (Fk.dt L k, 0, 0)) (by simp [results, Tryz.results35, go_sem, textOut, p0, p1, p2] <;> rfl) rfl ⟨by rw [HR.out], HB3.out _ _ _⟩

end Go.Proofs.YtfefafmcaepoiaaGreatDoor

namespace Go.Proofs.YtfefafmcaepoiaaGreatDoor
set_option linter.unusedSimpArgs false
open Go.RowKit

theorem Jn.rdOf_text {L : List Fk.Fl} (h : Fk.right L = true) : (Fk.rdOf L Jn.name).1 = Jn.dat L := by
  unfold Fk.rdOf Jn.dat
  rw [Jn.opn_name, Jn.opn_yes h]
  cases Fk.get L Jn.name <;> simp

theorem Jn.field_text (t : ByteArray) (q c : Int) (W : World) : (Instr.field 64 (.agg #[.string t, .int .i64 q, .int .i64 c]) 0).run Tryz.prog W = .ok (.string t) W := by kernel_rfl
end Go.Proofs.YtfefafmcaepoiaaGreatDoor
