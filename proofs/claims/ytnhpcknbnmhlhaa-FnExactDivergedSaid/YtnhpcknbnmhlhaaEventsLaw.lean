/- The walks of the law's own functions on lists of Event: sizes, copies, comparisons. -/
import Derived.Test.YtnhpcknbnmhlhaaProg
import Derived.Test.YtnhpcknbnmhlhaaEventsKit
import Derived.WalkKit
import Derived.WalkSpells
import Derived.WalkLawsBesides
import Derived.BigRegion
import Derived.Deep.RegionWith
namespace Go.Proofs.Ytnhpcknbnmhlhaa
open Go.RowKit
set_option linter.unusedVariables false
set_option linter.unusedSimpArgs false
theorem infoEvent : (Try.prog.info? 58).map (fun i => (i.zero, i.size, i.bytes)) = some (some (.agg #[.int .i64 0, .int .i64 0, .int .i64 0, .int .i64 0, .int .i64 0]), 5, 40) := by kernel_rfl

set_option maxHeartbeats 400000 in
theorem szEventS_any (v : Value) (L : List Vt.E) (left : Int) (w : World) (hv : Rk.View Vt.S w v L) (hl : L.length ≤ maxLen) (h0 : 0 ≤ left) (h1 : left ≤ 1048576) :
    Calls Try.prog 10 #[v, .int .i64 left] w fun e w' =>
      (∃ r, e = .returned (.int .i64 r) ∧ (r = -1 ∨ (0 ≤ r ∧ r = left - L.length))) ∧ Below w.heap.size w w' := by
  unfold maxLen at hl
  obtain ⟨a, cap, rfl, hs⟩ := hv
  by_cases c1 : left < L.length
  · go_enter Try.func10, Try.ntmps10
    go_wp2
    go_ret
    exact ⟨⟨_, rfl, .inl rfl⟩, Below.refl _ _⟩
  go_enter Try.func10, Try.ntmps10
  go_wp2
  go_ret
  exact ⟨⟨_, rfl, .inr ⟨by omega, rfl⟩⟩, Below.refl _ _⟩

set_option maxHeartbeats 1000000 in
theorem toEvent_any (x0 : Int) (x1 : Int) (x2 : Int) (x3 : Int) (x4 : Int) (w : World) :
    Calls Try.prog 23 #[.agg #[.int .i64 (x0), .int .i64 (x1), .int .i64 (x2), .int .i64 (x3), .int .i64 (x4)]] w fun e w' => e = .returned (.agg #[.int .i64 (x0), .int .i64 (x1), .int .i64 (x2), .int .i64 (x3), .int .i64 (x4)]) ∧ Below w.heap.size w w' := by
  go_enter Try.func23, Try.ntmps23
  go_wp2
  refine bodyPost_ret (v := .agg #[.int .i64 (x0), .int .i64 (x1), .int .i64 (x2), .int .i64 (x3), .int .i64 (x4)]) (by simp [results, Try.results23, go_sem] <;> rfl) rfl ⟨rfl, ?_⟩
  repeat (first | exact Below.refl _ _ | refine Below.setCell ?_ (by simp <;> omega) _ | refine Below.alloc ?_ (by simp <;> omega) _)

set_option maxHeartbeats 1000000 in
theorem toEventS_any (v : Value) (L : List Vt.E) (w : World) (hv : Rk.View Vt.S w v L) (hl : L.length ≤ 1048576) :
    Calls Try.prog 12 #[v] w fun e w' =>
      (∃ u, e = .returned u ∧ Rk.Own Vt.S w' w.heap.size 58 u L) ∧ Below w.heap.size w w' := by
  obtain ⟨a, cap, rfl, hs⟩ := hv
  obtain ⟨i0, hi, hz0, hz1, hz2⟩ := info_parts infoEvent
  go_enter Try.func12, Try.ntmps12
  go_wp2_with (at_make; refine wpList_make_full _ rfl _ _ 46 rfl w.heap.size 58 i0 _ 5 Try.underlying46 hi hz0 hz1 _ _ _ _ L.length rfl rfl rfl rfl (by rw [hz2]; omega) (by unfold maxLen; omega) (Nat.le_refl _) ?_; intro w1 hown hgrow)
  have hown1 : Rk.Own Vt.S w1 w.heap.size 58 (.slice (some ⟨w.heap.size, 0, none⟩) L.length L.length) (Rk.fill Vt.S L 0) := by
    unfold Rk.Own
    rw [Rk.fill_none, ← Rk.flat_made (S := Vt.S) L.length #[.int .i64 0, .int .i64 0, .int .i64 0, .int .i64 0, .int .i64 0] rfl, List.length_replicate]
    exact hown
  have bel0 : Below w.heap.size w w1 := (Below.refl _ _).grown hgrow (Nat.le_refl _) (fun j hj => by cases hj)
  clear hown hgrow
  go_wp2_with fail
  go_loopw [4] (fun i wr => ∃ k : Nat, k ≤ L.length ∧ i = .int .i64 k ∧ Hid (Rk.Own Vt.S wr w.heap.size 58 (.slice (some ⟨w.heap.size, 0, none⟩) L.length L.length) (Rk.fill Vt.S L k)) ∧ Below w.heap.size w wr) (fun i _ => L.length - (intOf i).toNat)
  case atStart => exact ⟨0, Nat.zero_le _, rfl, hown1, bel0⟩
  case round =>
    obtain ⟨k, hk, rfl, HO, bel⟩ := hrel
    clear hown1 bel0
    by_cases hlt : k < L.length
    · obtain ⟨b, o, rfl, hb, hs1⟩ := hs (by omega)
      have hs' := hs1.below hb bel
      have q0 := Vt.c0 hs' hlt
      have q1 := Vt.c1 hs' hlt
      have q2 := Vt.c2 hs' hlt
      have q3 := Vt.c3 hs' hlt
      have q4 := Vt.c4 hs' hlt
      clear hs'
      go_wp2_with fail
      refine (toEvent_any _ _ _ _ _ _).mono ?_
      rintro e w2 ⟨rfl, bel1⟩
      have HO2 : Hid (Rk.Own Vt.S w2 w.heap.size 58 (.slice (some ⟨w.heap.size, 0, none⟩) L.length L.length) (Rk.fill Vt.S L k)) := HO.out.below bel1
      have bel2 : Below w.heap.size w w2 := bel.trans (bel1.mono bel.size)
      have HF : Hid (k < (Rk.fill Vt.S L k).length) := by show _ < _; rw [Rk.fill_length L k hk]; exact hlt
      obtain ⟨zz, hzz⟩ : ∃ zz, zz = Rk.at_ Vt.S (Rk.fill Vt.S L k) k := ⟨_, rfl⟩
      have p0 := Vt.o0 HO2.out HF.out
      rw [← hzz] at p0
      have g0 := HO2.out.frozen (k * 5)
      have p1 := Vt.o1 HO2.out HF.out
      rw [← hzz] at p1
      have g1 := HO2.out.frozen (k * 5 + 1)
      have p2 := Vt.o2 HO2.out HF.out
      rw [← hzz] at p2
      have g2 := HO2.out.frozen (k * 5 + 2)
      have p3 := Vt.o3 HO2.out HF.out
      rw [← hzz] at p3
      have g3 := HO2.out.frozen (k * 5 + 3)
      have p4 := Vt.o4 HO2.out HF.out
      rw [← hzz] at p4
      have g4 := HO2.out.frozen (k * 5 + 4)
      clear bel1 hzz q0 q1 q2 q3 q4
      go_wp2_with fail
      go_roundw
      case rel =>
        refine ⟨k + 1, by omega, by go_num, ?_, ?_⟩
        · have := Vt.own_set HO2.out HF.out (Rk.at_ Vt.S L k)
          rw [Rk.fill_step L k hlt] at this
          exact this
        · exact (((((bel2.setCell (Nat.le_refl _) _).setCell (Nat.le_refl _) _).setCell (Nat.le_refl _) _).setCell (Nat.le_refl _) _).setCell (Nat.le_refl _) _)
      case measure => simp [intOf]; omega
    · have e : k = L.length := by omega
      subst e
      go_wp2_with fail
      go_ret
      refine ⟨⟨_, rfl, ?_⟩, bel⟩
      have := HO.out
      rw [Rk.fill_all] at this
      exact this

set_option maxHeartbeats 1000000 in
theorem eqEvent_same (x0 : Int) (x1 : Int) (x2 : Int) (x3 : Int) (x4 : Int) (w : World) :
    Calls Try.prog 25 #[.agg #[.int .i64 (x0), .int .i64 (x1), .int .i64 (x2), .int .i64 (x3), .int .i64 (x4)], .agg #[.int .i64 (x0), .int .i64 (x1), .int .i64 (x2), .int .i64 (x3), .int .i64 (x4)]] w fun e w' => e = .returned (.bool true) ∧ Below w.heap.size w w' := by
  go_enter Try.func25, Try.ntmps25
  go_wp2
  go_ret
  refine ⟨rfl, ?_⟩
  repeat (first | exact Below.refl _ _ | refine Below.alloc ?_ (by simp <;> omega) _)

set_option maxHeartbeats 1000000 in
theorem eqEventS_same (v1 v2 : Value) (L : List Vt.E) (w : World) (h1 : Rk.View Vt.S w v1 L) (h2 : Rk.View Vt.S w v2 L) (hl : L.length ≤ 1048576) :
    Calls Try.prog 14 #[v1, v2] w fun e w' => e = .returned (.bool true) ∧ Below w.heap.size w w' := by
  obtain ⟨a, cap, rfl, hs⟩ := h1
  obtain ⟨a2, cap2, rfl, hs2⟩ := h2
  go_enter Try.func14, Try.ntmps14
  go_wp2_with fail
  go_loopw [5] (fun i wr => ∃ k : Nat, k ≤ L.length ∧ i = .int .i64 k ∧ Below w.heap.size w wr) (fun i _ => L.length - (intOf i).toNat)
  case atStart => exact ⟨0, Nat.zero_le _, rfl, Below.refl _ _⟩
  case round =>
    obtain ⟨k, hk, rfl, bel⟩ := hrel
    by_cases hlt : k < L.length
    · obtain ⟨b, o, rfl, hb, hs1⟩ := hs (by omega)
      obtain ⟨b2, o2, rfl, hb2, hs3⟩ := hs2 (by omega)
      have hs' := hs1.below hb bel
      have q0 := Vt.c0 hs' hlt
      have q1 := Vt.c1 hs' hlt
      have q2 := Vt.c2 hs' hlt
      have q3 := Vt.c3 hs' hlt
      have q4 := Vt.c4 hs' hlt
      have hs'' := hs3.below hb2 bel
      have r0 := Vt.c0 hs'' hlt
      have r1 := Vt.c1 hs'' hlt
      have r2 := Vt.c2 hs'' hlt
      have r3 := Vt.c3 hs'' hlt
      have r4 := Vt.c4 hs'' hlt
      clear hs' hs'' hs hs2
      go_wp2_with fail
      go_region_with (first | (go_at_call 25; refine (eqEvent_same _ _ _ _ _ _).mono ?_; rintro e w2 ⟨rfl, bel1⟩))
      all_goals
        have bel2 : Below w.heap.size w w2 := bel.trans ((Below.trans (Below.drew (Below.refl _ wr)) bel1).mono bel.size)
        clear bel1 q0 q1 q2 q3 q4 r0 r1 r2 r3 r4
        go_wp2_with fail
        go_roundw
        case rel => exact ⟨k + 1, by omega, by go_num, bel2⟩
        case measure => simp [intOf]; omega
    · have e : k = L.length := by omega
      subst e
      go_wp2_with fail
      go_ret
      exact ⟨rfl, bel⟩
end Go.Proofs.Ytnhpcknbnmhlhaa
