/- The walks of the law's own functions on lists of Field: sizes, copies, comparisons. -/
import Derived.Test.YtkkmjffepdejnaaProg
import Derived.Test.YtkkmjffepdejnaaFieldKit
import Derived.WalkKit
import Derived.WalkSpells
import Derived.WalkLawsBesides
import Derived.BigRegion
import Derived.Deep.RegionWith
namespace Go.Proofs.Ytkkmjffepdejnaa
open Go.RowKit
set_option linter.unusedVariables false
set_option linter.unusedSimpArgs false
theorem infoField : (Try.prog.info? 76).map (fun i => (i.zero, i.size, i.bytes)) = some (some (.agg #[.int .i64 0, .string ByteArray.empty]), 2, 24) := by kernel_rfl
/-- how many bytes the first ones have -/
def Fd.tot (L : List Fd.E) : Nat → Nat
  | 0 => 0
  | k + 1 => Fd.tot L k + (((Rk.at_ Fd.S L k).2).size)

set_option maxHeartbeats 400000 in
theorem szField_any (x0 : Int) (x1 : ByteArray) (left : Int) (w : World) (s1 : x1.size ≤ maxLen) (h0 : 0 ≤ left) (h1 : left ≤ 1048576) :
    Calls Try.prog 72 #[.agg #[.int .i64 (x0), .string (x1)], .int .i64 left] w fun e w' =>
      (∃ r, e = .returned (.int .i64 r) ∧ (r = -1 ∨ (0 ≤ r ∧ r = left - (x1.size : Nat)))) ∧ Below w.heap.size w w' := by
  unfold maxLen at s1
  by_cases c0 : left < x1.size
  · go_enter Try.func72, Try.ntmps72
    go_wp2
    go_ret
    refine ⟨⟨_, rfl, .inl rfl⟩, ?_⟩
    exact (Below.refl _ _).alloc (Nat.le_refl _) _
  · go_enter Try.func72, Try.ntmps72
    go_wp2
    go_ret
    refine ⟨⟨_, rfl, .inr ⟨?_, ?_⟩⟩, ?_⟩
    · omega
    · omega
    · exact (Below.refl _ _).alloc (Nat.le_refl _) _

set_option maxHeartbeats 1000000 in
theorem szFieldS_any (v : Value) (L : List Fd.E) (left : Int) (w : World) (hv : Rk.View Fd.S w v L) (hL : ∀ f ∈ L, Fd.Fit f) (hl : L.length ≤ maxLen) (h0 : 0 ≤ left) (h1 : left ≤ 1048576) :
    Calls Try.prog 42 #[v, .int .i64 left] w fun e w' =>
      (∃ r, e = .returned (.int .i64 r) ∧ (r = -1 ∨ (0 ≤ r ∧ r = left - L.length - Fd.tot L L.length))) ∧ Below w.heap.size w w' := by
  unfold maxLen at hl
  obtain ⟨a, cap, rfl, hs⟩ := hv
  by_cases c1 : left < L.length
  · go_enter Try.func42, Try.ntmps42
    go_wp2
    go_ret
    exact ⟨⟨_, rfl, .inl rfl⟩, Below.refl _ _⟩
  go_enter Try.func42, Try.ntmps42
  go_wp2
  go_loopw [1, 5] (fun l i wr => ∃ (k : Nat) (x : Int), k ≤ L.length ∧ l = .int .i64 x ∧ i = .int .i64 k ∧ 0 ≤ x ∧ x ≤ 1048576 ∧ Hid (x = left - L.length - Fd.tot L k) ∧ Below w.heap.size w wr) (fun _ i _ => L.length - (intOf i).toNat)
  case atStart => exact ⟨0, _, Nat.zero_le _, rfl, rfl, by omega, by omega, by show _ = _; simp [Fd.tot], Below.refl _ _⟩
  case round =>
    obtain ⟨k, x, hk, rfl, rfl, hx0, hx1, HY, bel⟩ := hrel
    by_cases hlt : k < L.length
    · obtain ⟨b, o, rfl, hb, hs1⟩ := hs (by omega)
      have hs' := hs1.below hb bel
      have q0 := Fd.c0 hs' hlt
      have q1 := Fd.c1 hs' hlt
      have hfit := Fd.fit_at hL k
      go_wp2_with fail
      refine (szField_any _ _ _ _ hfit.2 hx0 hx1).mono ?_
      rintro e w1 ⟨⟨r, rfl, hr⟩, bel1⟩
      have bel2 : Below w.heap.size w w1 := bel.trans (bel1.mono bel.size)
      clear q0 q1 hs' bel1
      rcases hr with rfl | ⟨hr0, hr⟩
      · go_wp2
        go_ret
        exact ⟨⟨_, rfl, .inl rfl⟩, bel2⟩
      · have hr1 : r ≤ 1048576 := by omega
        have HR : Hid (r = left - L.length - Fd.tot L (k + 1)) := by
          show r = _
          have := HY.out
          simp only [Fd.tot]
          omega
        clear hr
        go_wp2_with fail
        go_roundw
        case rel => exact ⟨k + 1, r, by omega, rfl, by go_num, hr0, hr1, HR, bel2⟩
        case measure => simp [intOf]; omega
    · have e : k = L.length := by omega
      subst e
      go_wp2_with fail
      go_ret
      exact ⟨⟨_, rfl, .inr ⟨hx0, HY.out⟩⟩, bel⟩

set_option maxHeartbeats 1000000 in
theorem toField_any (x0 : Int) (x1 : ByteArray) (w : World) :
    Calls Try.prog 75 #[.agg #[.int .i64 (x0), .string (x1)]] w fun e w' => e = .returned (.agg #[.int .i64 (x0), .string (x1)]) ∧ Below w.heap.size w w' := by
  go_enter Try.func75, Try.ntmps75
  go_wp2
  refine bodyPost_ret (v := .agg #[.int .i64 (x0), .string (x1)]) (by simp [results, Try.results75, go_sem] <;> rfl) rfl ⟨rfl, ?_⟩
  repeat (first | exact Below.refl _ _ | refine Below.setCell ?_ (by simp <;> omega) _ | refine Below.alloc ?_ (by simp <;> omega) _)

set_option maxHeartbeats 1000000 in
theorem toFieldS_any (v : Value) (L : List Fd.E) (w : World) (hv : Rk.View Fd.S w v L) (hl : L.length ≤ 1048576) :
    Calls Try.prog 45 #[v] w fun e w' =>
      (∃ u, e = .returned u ∧ Rk.Own Fd.S w' w.heap.size 76 u L) ∧ Below w.heap.size w w' := by
  obtain ⟨a, cap, rfl, hs⟩ := hv
  obtain ⟨i0, hi, hz0, hz1, hz2⟩ := info_parts infoField
  go_enter Try.func45, Try.ntmps45
  go_wp2_with (at_make; refine wpList_make_full _ rfl _ _ 43 rfl w.heap.size 76 i0 _ 2 Try.underlying43 hi hz0 hz1 _ _ _ _ L.length rfl rfl rfl rfl (by rw [hz2]; omega) (by unfold maxLen; omega) (Nat.le_refl _) ?_; intro w1 hown hgrow)
  have hown1 : Rk.Own Fd.S w1 w.heap.size 76 (.slice (some ⟨w.heap.size, 0, none⟩) L.length L.length) (Rk.fill Fd.S L 0) := by
    unfold Rk.Own
    rw [Rk.fill_none, ← Rk.flat_made (S := Fd.S) L.length #[.int .i64 0, .string ByteArray.empty] rfl, List.length_replicate]
    exact hown
  have bel0 : Below w.heap.size w w1 := (Below.refl _ _).grown hgrow (Nat.le_refl _) (fun j hj => by cases hj)
  clear hown hgrow
  go_wp2_with fail
  go_loopw [4] (fun i wr => ∃ k : Nat, k ≤ L.length ∧ i = .int .i64 k ∧ Hid (Rk.Own Fd.S wr w.heap.size 76 (.slice (some ⟨w.heap.size, 0, none⟩) L.length L.length) (Rk.fill Fd.S L k)) ∧ Below w.heap.size w wr) (fun i _ => L.length - (intOf i).toNat)
  case atStart => exact ⟨0, Nat.zero_le _, rfl, hown1, bel0⟩
  case round =>
    obtain ⟨k, hk, rfl, HO, bel⟩ := hrel
    clear hown1 bel0
    by_cases hlt : k < L.length
    · obtain ⟨b, o, rfl, hb, hs1⟩ := hs (by omega)
      have hs' := hs1.below hb bel
      have q0 := Fd.c0 hs' hlt
      have q1 := Fd.c1 hs' hlt
      clear hs'
      go_wp2_with fail
      refine (toField_any _ _ _).mono ?_
      rintro e w2 ⟨rfl, bel1⟩
      have HO2 : Hid (Rk.Own Fd.S w2 w.heap.size 76 (.slice (some ⟨w.heap.size, 0, none⟩) L.length L.length) (Rk.fill Fd.S L k)) := HO.out.below bel1
      have bel2 : Below w.heap.size w w2 := bel.trans (bel1.mono bel.size)
      have HF : Hid (k < (Rk.fill Fd.S L k).length) := by show _ < _; rw [Rk.fill_length L k hk]; exact hlt
      obtain ⟨zz, hzz⟩ : ∃ zz, zz = Rk.at_ Fd.S (Rk.fill Fd.S L k) k := ⟨_, rfl⟩
      have p0 := Fd.o0 HO2.out HF.out
      rw [← hzz] at p0
      have g0 := HO2.out.frozen (k * 2)
      have p1 := Fd.o1 HO2.out HF.out
      rw [← hzz] at p1
      have g1 := HO2.out.frozen (k * 2 + 1)
      clear bel1 hzz q0 q1
      go_wp2_with fail
      go_roundw
      case rel =>
        refine ⟨k + 1, by omega, by go_num, ?_, ?_⟩
        · have := Fd.own_set HO2.out HF.out (Rk.at_ Fd.S L k)
          rw [Rk.fill_step L k hlt] at this
          exact this
        · exact ((bel2.setCell (Nat.le_refl _) _).setCell (Nat.le_refl _) _)
      case measure => simp [intOf]; omega
    · have e : k = L.length := by omega
      subst e
      go_wp2_with fail
      go_ret
      refine ⟨⟨_, rfl, ?_⟩, bel⟩
      have := HO.out
      rw [Rk.fill_all] at this
      exact this

set_option maxHeartbeats 1000000 in
theorem eqField_same (x0 : Int) (x1 : ByteArray) (w : World) :
    Calls Try.prog 78 #[.agg #[.int .i64 (x0), .string (x1)], .agg #[.int .i64 (x0), .string (x1)]] w fun e w' => e = .returned (.bool true) ∧ Below w.heap.size w w' := by
  go_enter Try.func78, Try.ntmps78
  go_wp2
  go_ret
  refine ⟨rfl, ?_⟩
  repeat (first | exact Below.refl _ _ | refine Below.alloc ?_ (by simp <;> omega) _)

set_option maxHeartbeats 1000000 in
theorem eqFieldS_same (v1 v2 : Value) (L : List Fd.E) (w : World) (h1 : Rk.View Fd.S w v1 L) (h2 : Rk.View Fd.S w v2 L) (hl : L.length ≤ 1048576) :
    Calls Try.prog 50 #[v1, v2] w fun e w' => e = .returned (.bool true) ∧ Below w.heap.size w w' := by
  obtain ⟨a, cap, rfl, hs⟩ := h1
  obtain ⟨a2, cap2, rfl, hs2⟩ := h2
  go_enter Try.func50, Try.ntmps50
  go_wp2_with fail
  go_loopw [5] (fun i wr => ∃ k : Nat, k ≤ L.length ∧ i = .int .i64 k ∧ Below w.heap.size w wr) (fun i _ => L.length - (intOf i).toNat)
  case atStart => exact ⟨0, Nat.zero_le _, rfl, Below.refl _ _⟩
  case round =>
    obtain ⟨k, hk, rfl, bel⟩ := hrel
    by_cases hlt : k < L.length
    · obtain ⟨b, o, rfl, hb, hs1⟩ := hs (by omega)
      obtain ⟨b2, o2, rfl, hb2, hs3⟩ := hs2 (by omega)
      have hs' := hs1.below hb bel
      have q0 := Fd.c0 hs' hlt
      have q1 := Fd.c1 hs' hlt
      have hs'' := hs3.below hb2 bel
      have r0 := Fd.c0 hs'' hlt
      have r1 := Fd.c1 hs'' hlt
      clear hs' hs'' hs hs2
      go_wp2_with fail
      go_region_with (first | (go_at_call 78; refine (eqField_same _ _ _).mono ?_; rintro e w2 ⟨rfl, bel1⟩))
      all_goals
        have bel2 : Below w.heap.size w w2 := bel.trans ((Below.trans (Below.drew (Below.refl _ wr)) bel1).mono bel.size)
        clear bel1 q0 q1 r0 r1
        go_wp2_with fail
        go_roundw
        case rel => exact ⟨k + 1, by omega, by go_num, bel2⟩
        case measure => simp [intOf]; omega
    · have e : k = L.length := by omega
      subst e
      go_wp2_with fail
      go_ret
      exact ⟨rfl, bel⟩
end Go.Proofs.Ytkkmjffepdejnaa
