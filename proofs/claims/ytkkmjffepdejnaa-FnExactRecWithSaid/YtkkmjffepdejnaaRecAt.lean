/- The walk of the specification's search for a field. -/
import Derived.Test.YtkkmjffepdejnaaRecRightSpec
namespace Go.Proofs.Ytkkmjffepdejnaa
open Go.RowKit
set_option linter.unusedVariables false
set_option linter.unusedSimpArgs false

set_option maxHeartbeats 2000000 in
theorem l03At_any (K id : Int) (v : Value) (L : List Fd.E) (w : World) (hv : Rk.View Fd.S w v L) (hl : L.length ≤ 1048576) :
    Calls Try.prog 52 #[.agg #[.int .i64 K, v], .int .i64 id] w fun e w' => e = .returned (.int .i64 (Rc.place L id)) ∧ Below w.heap.size w w' := by
  obtain ⟨W, hW⟩ : ∃ W, W = w.alloc (.cells #[.int .i64 K, v] 45) := ⟨_, rfl⟩
  have b0 : Below w.heap.size w W := by rw [hW]; exact (Below.refl _ _).alloc (Nat.le_refl _) _
  have hv' := hv.below b0
  have hcell : W.cell? ⟨w.heap.size, 1, none⟩ = some v := by rw [hW, Fk.cellTop _ _ _ _ _ rfl]; rfl
  have hsz : W.heap.size = w.heap.size + 1 := by rw [hW]; simp
  have HW := Fk.hide hW
  clear hW hv
  obtain ⟨a, cap, rfl, hs⟩ := hv'
  go_enter Try.func52, Try.ntmps52
  go_wp2_with fail
  rw [← HW.out]
  go_loopw [5] (fun i wr => ∃ k : Nat, k ≤ L.length ∧ i = .int .i64 k ∧ Hid (∀ j, j < k → Rc.idAt L j ≠ id) ∧ Below W.heap.size W wr) (fun i _ => L.length - (intOf i).toNat)
  case atStart => exact ⟨0, Nat.zero_le _, rfl, (fun j hj => absurd hj (by omega)), Below.refl _ _⟩
  case round =>
    obtain ⟨k, hk, rfl, HK, bel⟩ := hrel
    have hc1 : wr.cell? ⟨w.heap.size, 1, none⟩ = some (.slice a L.length cap) := (bel.cell (by show w.heap.size < _; omega)).trans hcell
    by_cases hlt : k < L.length
    · obtain ⟨b, o, rfl, hb, hs1⟩ := hs (by omega)
      have q0 : wr.cell? ⟨b, o + k * 2, none⟩ = some (.int .i64 (Rc.idAt L k)) := Fd.c0 (hs1.below hb bel) hlt
      obtain ⟨i, hi⟩ : ∃ i, i = Rc.idAt L k := ⟨_, rfl⟩
      have HI := Fk.hide hi
      rw [← hi] at q0
      clear hi
      by_cases he : i = id
      · have HP : Hid ((Rc.place L id) = k) := by
          show _ = _
          unfold Rc.place; rw [Rc.pos_hit hlt (HI.out.symm.trans he) HK.out, if_pos hlt]
        subst he
        go_wp2_with fail
        go_ret
        exact ⟨by rw [HP.out]; rfl, b0.trans (bel.mono b0.size)⟩
      · go_wp2_with fail
        go_roundw
        case rel =>
          refine ⟨k + 1, by omega, by go_num, (fun j hj => ?_), bel⟩
          by_cases e : j = k
          · rw [e, ← HI.out]; exact he
          · exact HK.out j (by omega)
        case measure => simp [intOf]; omega
    · have e : k = L.length := by omega
      have HP : Hid ((Rc.place L id) = -1) := by
        show _ = _
        unfold Rc.place; rw [Rc.pos_miss (by rw [← e]; exact HK.out), if_neg (Nat.lt_irrefl _)]
      subst e
      go_wp2_with fail
      go_ret
      exact ⟨by rw [HP.out]; rfl, b0.trans (bel.mono b0.size)⟩

end Go.Proofs.Ytkkmjffepdejnaa
