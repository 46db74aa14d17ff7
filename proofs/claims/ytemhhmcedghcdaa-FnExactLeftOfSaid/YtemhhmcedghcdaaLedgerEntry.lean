/- The walks of the entry of an id, and of what is left of it, on both sides. -/
import Derived.Test.YtemhhmcedghcdaaProg
import Derived.Test.YtemhhmcedghcdaaLedgerMath
import Derived.Test.YtemhhmcedghcdaaLedgerRightSpec
import Derived.Test.YtemhhmcedghcdaaLedgerRightImpl
import Derived.WalkKit
import Derived.WalkSpells
import Derived.WalkLawsBesides
import Derived.BigRegion
import Derived.BigQuiet
import Derived.Deep.RegionWith
import Derived.Lib.QuietBelow
namespace Go.Proofs.Ytemhhmcedghcdaa
open Go.RowKit
set_option linter.unusedVariables false
set_option linter.unusedSimpArgs false

set_option maxRecDepth 100000 in
set_option maxHeartbeats 4000000 in
theorem entryOf_impl (v : Value) (id : Int) (L : List En.E) (w : World) (hv : Rk.View En.S w v L) (hl : L.length ≤ 1048576) :
    Calls Try.prog 26 #[v, .int .i64 id] w fun e w' => e = .returned (.agg #[.int .i64 (Lg.entry L id).1, .int .i64 (Lg.entry L id).2.1, .bool (Lg.entry L id).2.2.1, .int .i64 (Lg.entry L id).2.2.2.1, .int .i64 (Lg.entry L id).2.2.2.2.1, .int .i64 (Lg.entry L id).2.2.2.2.2.1, .int .i64 (Lg.entry L id).2.2.2.2.2.2]) ∧ Below w.heap.size w w' := by
  obtain ⟨W, hW⟩ : ∃ W, W = w.alloc (.cells #[.int .i64 0, .int .i64 0, .bool false, .int .i64 0, .int .i64 0, .int .i64 0, .int .i64 0] 47) := ⟨_, rfl⟩
  have b0 : Below w.heap.size w W := by rw [hW]; exact (Below.refl _ _).alloc (Nat.le_refl _) _
  have hz : W.heap.size = w.heap.size + 1 := by rw [hW]; simp
  have HZ0 : Hid (W.cell? ⟨w.heap.size, 0, none⟩ = some (.int .i64 0)) := by show _ = _; rw [hW, Fk.cellTop _ _ _ _ _ (by simp)]; rfl
  have HZ1 : Hid (W.cell? ⟨w.heap.size, 1, none⟩ = some (.int .i64 0)) := by show _ = _; rw [hW, Fk.cellTop _ _ _ _ _ (by simp)]; rfl
  have HZ2 : Hid (W.cell? ⟨w.heap.size, 2, none⟩ = some (.bool false)) := by show _ = _; rw [hW, Fk.cellTop _ _ _ _ _ (by simp)]; rfl
  have HZ3 : Hid (W.cell? ⟨w.heap.size, 3, none⟩ = some (.int .i64 0)) := by show _ = _; rw [hW, Fk.cellTop _ _ _ _ _ (by simp)]; rfl
  have HZ4 : Hid (W.cell? ⟨w.heap.size, 4, none⟩ = some (.int .i64 0)) := by show _ = _; rw [hW, Fk.cellTop _ _ _ _ _ (by simp)]; rfl
  have HZ5 : Hid (W.cell? ⟨w.heap.size, 5, none⟩ = some (.int .i64 0)) := by show _ = _; rw [hW, Fk.cellTop _ _ _ _ _ (by simp)]; rfl
  have HZ6 : Hid (W.cell? ⟨w.heap.size, 6, none⟩ = some (.int .i64 0)) := by show _ = _; rw [hW, Fk.cellTop _ _ _ _ _ (by simp)]; rfl
  have HZF : Hid (∀ j, W.frozen? ⟨w.heap.size, j, none⟩ = false) := fun j => by rw [hW, Fk.frozTop _ _ _ _ _ (by simp)]
  have HV := Fk.hide hv
  obtain ⟨a, cap, rfl, hs⟩ := hv
  have HW := Fk.hide hW
  clear hW
  obtain ⟨x, hx⟩ : ∃ x, x = Lg.entry L id := ⟨_, rfl⟩
  rw [← hx]
  have HX := Fk.hide hx
  clear hx
  go_enter Try.func26, Try.ntmps26
  go_wp2_with fail
  rw [← HW.out]
  refine (ledgerRight_impl _ L _ (HV.out.below b0) hl).mono ?_
  rintro e w1 ⟨rfl, k1⟩
  have B1 : Below w.heap.size w w1 := b0.trans (k1.mono b0.size)
  have bW1 : Below W.heap.size W w1 := k1
  have hz1 : w.heap.size + 1 ≤ w1.heap.size := by rw [← hz]; exact k1.size
  clear k1
  obtain ⟨r, hr⟩ : ∃ r, r = Lg.right L := ⟨_, rfl⟩
  rw [← hr]
  have HR := Fk.hide hr
  clear hr
  cases r with
  | false =>
    have hxz : x = En.S.z := by rw [HX.out]; exact Lg.entry_ill HR.out.symm
    subst hxz
    have z0 := (bW1.cell (p := ⟨w.heap.size, 0, none⟩) (by show w.heap.size < _; omega)).trans HZ0.out
    have z1 := (bW1.cell (p := ⟨w.heap.size, 1, none⟩) (by show w.heap.size < _; omega)).trans HZ1.out
    have z2 := (bW1.cell (p := ⟨w.heap.size, 2, none⟩) (by show w.heap.size < _; omega)).trans HZ2.out
    have z3 := (bW1.cell (p := ⟨w.heap.size, 3, none⟩) (by show w.heap.size < _; omega)).trans HZ3.out
    have z4 := (bW1.cell (p := ⟨w.heap.size, 4, none⟩) (by show w.heap.size < _; omega)).trans HZ4.out
    have z5 := (bW1.cell (p := ⟨w.heap.size, 5, none⟩) (by show w.heap.size < _; omega)).trans HZ5.out
    have z6 := (bW1.cell (p := ⟨w.heap.size, 6, none⟩) (by show w.heap.size < _; omega)).trans HZ6.out
    have zf : ∀ j, w1.frozen? ⟨w.heap.size, j, none⟩ = false := fun j => (bW1.frozen (by show w.heap.size < _; omega)).trans (HZF.out j)
    go_wp2_with fail
    refine bodyPost_ret (v := .agg #[.int .i64 0, .int .i64 0, .bool false, .int .i64 0, .int .i64 0, .int .i64 0, .int .i64 0]) (by simp [results, Try.results26, go_sem, z0, z1, z2, z3, z4, z5, z6] <;> rfl) rfl ⟨rfl, ?_⟩
    repeat (refine Below.setCell ?_ (by simp <;> omega) _)
    exact B1
  | true =>
    have HB1 := Fk.hide B1
    have HBW1 := Fk.hide bW1
    clear B1 bW1
    go_wp2_with fail
    go_loopw [13] (fun i wr => ∃ k : Nat, k ≤ L.length ∧ i = .int .i64 k ∧ Hid (∀ j, j < k → (Lg.at' L j).1 ≠ id) ∧ Below w1.heap.size w1 wr) (fun i _ => L.length - (intOf i).toNat)
    case atStart => exact ⟨0, Nat.zero_le _, rfl, fun j hj => absurd hj (by omega), Below.refl _ _⟩
    case round =>
      obtain ⟨k, hk, rfl, HK, bel⟩ := hrel
      have B3 : Below w.heap.size w wr := HB1.out.trans (bel.mono HB1.out.size)
      have bW3 : Below W.heap.size W wr := HBW1.out.trans (bel.mono HBW1.out.size)
      have hz3 : w.heap.size + 1 ≤ wr.heap.size := Nat.le_trans hz1 bel.size
      by_cases hlt : k < L.length
      · obtain ⟨b, o, rfl, hb, hs1⟩ := hs (by omega)
        have hs' := hs1.below hb B3
        have q0 := En.c0 hs' hlt
        have q1 := En.c1 hs' hlt
        have q2 := En.c2 hs' hlt
        have q3 := En.c3 hs' hlt
        have q4 := En.c4 hs' hlt
        have q5 := En.c5 hs' hlt
        have q6 := En.c6 hs' hlt
        obtain ⟨f, hf⟩ : ∃ f, f = Rk.at_ En.S L k := ⟨_, rfl⟩
        have HF := Fk.hide hf
        rw [← hf] at q0 q1 q2 q3 q4 q5 q6
        clear hf hs'
        by_cases hid : f.1 = id
        · have hxq : x = f := by rw [HX.out, HF.out]; exact Lg.entry_hit HR.out.symm hlt (by unfold Lg.at'; rw [← HF.out]; exact hid) HK.out
          have HQ := Fk.hide hxq
          have HI := Fk.hide hid
          clear hxq
          have bX3 : Below W.heap.size W (wr.alloc (.cells #[.int .i64 id, .int .i64 f.2.1, .bool f.2.2.1, .int .i64 f.2.2.2.1, .int .i64 f.2.2.2.2.1, .int .i64 f.2.2.2.2.2.1, .int .i64 f.2.2.2.2.2.2] 47)) := bW3.alloc (by omega) _
          have BX3 : Below w.heap.size w (wr.alloc (.cells #[.int .i64 id, .int .i64 f.2.1, .bool f.2.2.1, .int .i64 f.2.2.2.1, .int .i64 f.2.2.2.2.1, .int .i64 f.2.2.2.2.2.1, .int .i64 f.2.2.2.2.2.2] 47)) := B3.alloc (by omega) _
          have z0 := (bX3.cell (p := ⟨w.heap.size, 0, none⟩) (by show w.heap.size < _; omega)).trans HZ0.out
          have z1 := (bX3.cell (p := ⟨w.heap.size, 1, none⟩) (by show w.heap.size < _; omega)).trans HZ1.out
          have z2 := (bX3.cell (p := ⟨w.heap.size, 2, none⟩) (by show w.heap.size < _; omega)).trans HZ2.out
          have z3 := (bX3.cell (p := ⟨w.heap.size, 3, none⟩) (by show w.heap.size < _; omega)).trans HZ3.out
          have z4 := (bX3.cell (p := ⟨w.heap.size, 4, none⟩) (by show w.heap.size < _; omega)).trans HZ4.out
          have z5 := (bX3.cell (p := ⟨w.heap.size, 5, none⟩) (by show w.heap.size < _; omega)).trans HZ5.out
          have z6 := (bX3.cell (p := ⟨w.heap.size, 6, none⟩) (by show w.heap.size < _; omega)).trans HZ6.out
          have zf : ∀ j, (wr.alloc (.cells #[.int .i64 id, .int .i64 f.2.1, .bool f.2.2.1, .int .i64 f.2.2.2.1, .int .i64 f.2.2.2.2.1, .int .i64 f.2.2.2.2.2.1, .int .i64 f.2.2.2.2.2.2] 47)).frozen? ⟨w.heap.size, j, none⟩ = false := fun j => (bX3.frozen (by show w.heap.size < _; omega)).trans (HZF.out j)
          clear bX3
          go_wp2_with fail
          rw [HQ.out]
          refine bodyPost_ret (v := .agg #[.int .i64 id, .int .i64 f.2.1, .bool f.2.2.1, .int .i64 f.2.2.2.1, .int .i64 f.2.2.2.2.1, .int .i64 f.2.2.2.2.2.1, .int .i64 f.2.2.2.2.2.2]) (by simp [results, Try.results26, go_sem, z0, z1, z2, z3, z4, z5, z6] <;> rfl) rfl ⟨by rw [← HI.out], ?_⟩
          repeat (refine Below.setCell ?_ (by simp <;> omega) _)
          exact BX3
        · have HB3 : Hid (Below w1.heap.size w1 (wr.alloc (.cells #[.int .i64 f.1, .int .i64 f.2.1, .bool f.2.2.1, .int .i64 f.2.2.2.1, .int .i64 f.2.2.2.2.1, .int .i64 f.2.2.2.2.2.1, .int .i64 f.2.2.2.2.2.2] 47))) := bel.alloc bel.size _
          clear B3 bW3 bel
          go_wp2_with fail
          go_roundw
          case rel =>
            refine ⟨k + 1, by omega, by go_num, (fun j hj => ?_), HB3.out⟩
            by_cases e : j = k
            · rw [e]; intro h; exact hid (by rw [HF.out]; exact h)
            · exact HK.out j (by omega)
          case measure => simp [intOf]; omega
      · have e : k = L.length := by omega
        have hxz : x = En.S.z := by rw [HX.out]; exact Lg.entry_miss (fun j hj => HK.out j (by omega))
        subst hxz
        have z0 := (bW3.cell (p := ⟨w.heap.size, 0, none⟩) (by show w.heap.size < _; omega)).trans HZ0.out
        have z1 := (bW3.cell (p := ⟨w.heap.size, 1, none⟩) (by show w.heap.size < _; omega)).trans HZ1.out
        have z2 := (bW3.cell (p := ⟨w.heap.size, 2, none⟩) (by show w.heap.size < _; omega)).trans HZ2.out
        have z3 := (bW3.cell (p := ⟨w.heap.size, 3, none⟩) (by show w.heap.size < _; omega)).trans HZ3.out
        have z4 := (bW3.cell (p := ⟨w.heap.size, 4, none⟩) (by show w.heap.size < _; omega)).trans HZ4.out
        have z5 := (bW3.cell (p := ⟨w.heap.size, 5, none⟩) (by show w.heap.size < _; omega)).trans HZ5.out
        have z6 := (bW3.cell (p := ⟨w.heap.size, 6, none⟩) (by show w.heap.size < _; omega)).trans HZ6.out
        have zf : ∀ j, wr.frozen? ⟨w.heap.size, j, none⟩ = false := fun j => (bW3.frozen (by show w.heap.size < _; omega)).trans (HZF.out j)
        go_wp2_with fail
        refine bodyPost_ret (v := .agg #[.int .i64 0, .int .i64 0, .bool false, .int .i64 0, .int .i64 0, .int .i64 0, .int .i64 0]) (by simp [results, Try.results26, go_sem, z0, z1, z2, z3, z4, z5, z6] <;> rfl) rfl ⟨rfl, ?_⟩
        repeat (refine Below.setCell ?_ (by simp <;> omega) _)
        exact B3

/-- the first place of an id, or -1 -/
def Lg.place (L : List En.E) (id : Int) : Int := if Lg.pos L id < L.length then (Lg.pos L id : Int) else -1
theorem Lg.place_hit {L : List En.E} {id : Int} {k : Nat} (hk : k < L.length) (h : (Lg.at' L k).1 = id) (hb : ∀ j, j < k → (Lg.at' L j).1 ≠ id) : Lg.place L id = k := by
  unfold Lg.place
  rw [Lg.pos_hit hk h hb, if_pos hk]
theorem Lg.place_miss {L : List En.E} {id : Int} (hb : ∀ j, j < L.length → (Lg.at' L j).1 ≠ id) : Lg.place L id = -1 := by
  unfold Lg.place
  rw [Lg.pos_miss hb, if_neg (Nat.lt_irrefl _)]
theorem Lg.place_cases (L : List En.E) (id : Int) : (Lg.place L id = -1 ∧ ∀ j, j < L.length → (Lg.at' L j).1 ≠ id) ∨ ∃ k, k < L.length ∧ Lg.place L id = k ∧ (Lg.at' L k).1 = id ∧ ∀ j, j < k → (Lg.at' L j).1 ≠ id := by
  by_cases h : ∃ k, k < L.length ∧ (Lg.at' L k).1 = id
  · have hp : Lg.pos L id < L.length := by
      obtain ⟨k, hk, he⟩ := h
      unfold Lg.pos
      rw [List.findIdx_lt_length]
      refine ⟨L[k], List.getElem_mem hk, ?_⟩
      unfold Lg.at' at he
      rw [Rk.at_get L k hk] at he
      simp [he]
    have h1 : (Lg.at' L (Lg.pos L id)).1 = id := by
      have := List.findIdx_getElem (p := fun f : En.E => decide (f.1 = id)) (w := hp)
      unfold Lg.at'
      rw [Rk.at_get L _ hp]
      exact of_decide_eq_true this
    have h2 : ∀ j, j < Lg.pos L id → (Lg.at' L j).1 ≠ id := fun j hj => by
      have := List.not_of_lt_findIdx (p := fun f : En.E => decide (f.1 = id)) hj
      unfold Lg.at'
      rw [Rk.at_get L j (by omega)]
      simpa using this
    exact .inr ⟨_, hp, Lg.place_hit hp h1 h2, h1, h2⟩
  · have hb : ∀ j, j < L.length → (Lg.at' L j).1 ≠ id := fun j hj he => h ⟨j, hj, he⟩
    exact .inl ⟨Lg.place_miss hb, hb⟩

set_option maxHeartbeats 1000000 in
theorem l11At_any (v : Value) (id : Int) (L : List En.E) (w : World) (hv : Rk.View En.S w v L) (hl : L.length ≤ 1048576) :
    Calls Try.prog 52 #[v, .int .i64 id] w fun e w' => e = .returned (.int .i64 (Lg.place L id)) ∧ Below w.heap.size w w' := by
  obtain ⟨a, cap, rfl, hs⟩ := hv
  obtain ⟨x, hx⟩ : ∃ x, x = Lg.place L id := ⟨_, rfl⟩
  rw [← hx]
  have HX := Fk.hide hx
  clear hx
  go_enter Try.func52, Try.ntmps52
  go_wp2_with fail
  go_loopw [5] (fun i wr => ∃ k : Nat, k ≤ L.length ∧ i = .int .i64 k ∧ Hid (∀ j, j < k → (Lg.at' L j).1 ≠ id) ∧ Below w.heap.size w wr) (fun i _ => L.length - (intOf i).toNat)
  case atStart => exact ⟨0, Nat.zero_le _, rfl, fun j hj => absurd hj (by omega), Below.refl _ _⟩
  case round =>
    obtain ⟨k, hk, rfl, HK, bel⟩ := hrel
    by_cases hlt : k < L.length
    · obtain ⟨b, o, rfl, hb, hs1⟩ := hs (by omega)
      have hs' := hs1.below hb bel
      have q0 := En.c0 hs' hlt
      obtain ⟨f, hf⟩ : ∃ f, f = (Rk.at_ En.S L k).1 := ⟨_, rfl⟩
      have HF := Fk.hide hf
      rw [← hf] at q0
      clear hf hs'
      by_cases hid : f = id
      · have HQ : Hid (x = (k : Int)) := by show _ = _; rw [HX.out]; exact Lg.place_hit hlt (by rw [← hid, HF.out]) HK.out
        go_wp2_with fail
        go_ret
        exact ⟨by rw [HQ.out]; rfl, bel⟩
      · have HN : Hid ((Lg.at' L k).1 ≠ id) := fun h => hid (by rw [HF.out]; exact h)
        go_wp2_with fail
        go_roundw
        case rel =>
          refine ⟨k + 1, by omega, by go_num, (fun j hj => ?_), bel⟩
          by_cases e : j = k
          · rw [e]; exact HN.out
          · exact HK.out j (by omega)
        case measure => simp [intOf]; omega
    · have e : k = L.length := by omega
      have HQ : Hid (x = -1) := by show _ = _; rw [HX.out]; exact Lg.place_miss (fun j hj => HK.out j (by omega))
      go_wp2_with fail
      go_ret
      exact ⟨by rw [HQ.out]; rfl, bel⟩

set_option maxRecDepth 100000 in
set_option maxHeartbeats 4000000 in
theorem entryOf_spec (v : Value) (id : Int) (L : List En.E) (w : World) (hv : Rk.View En.S w v L) (hl : L.length ≤ 1048576) :
    Calls Try.prog 25 #[v, .int .i64 id] w fun e w' => e = .returned (.agg #[.int .i64 (Lg.entry L id).1, .int .i64 (Lg.entry L id).2.1, .bool (Lg.entry L id).2.2.1, .int .i64 (Lg.entry L id).2.2.2.1, .int .i64 (Lg.entry L id).2.2.2.2.1, .int .i64 (Lg.entry L id).2.2.2.2.2.1, .int .i64 (Lg.entry L id).2.2.2.2.2.2]) ∧ Below w.heap.size w w' := by
  obtain ⟨W, hW⟩ : ∃ W, W = w.alloc (.cells #[.int .i64 0, .int .i64 0, .bool false, .int .i64 0, .int .i64 0, .int .i64 0, .int .i64 0] 47) := ⟨_, rfl⟩
  have b0 : Below w.heap.size w W := by rw [hW]; exact (Below.refl _ _).alloc (Nat.le_refl _) _
  have hz : W.heap.size = w.heap.size + 1 := by rw [hW]; simp
  have HZ0 : Hid (W.cell? ⟨w.heap.size, 0, none⟩ = some (.int .i64 0)) := by show _ = _; rw [hW, Fk.cellTop _ _ _ _ _ (by simp)]; rfl
  have HZ1 : Hid (W.cell? ⟨w.heap.size, 1, none⟩ = some (.int .i64 0)) := by show _ = _; rw [hW, Fk.cellTop _ _ _ _ _ (by simp)]; rfl
  have HZ2 : Hid (W.cell? ⟨w.heap.size, 2, none⟩ = some (.bool false)) := by show _ = _; rw [hW, Fk.cellTop _ _ _ _ _ (by simp)]; rfl
  have HZ3 : Hid (W.cell? ⟨w.heap.size, 3, none⟩ = some (.int .i64 0)) := by show _ = _; rw [hW, Fk.cellTop _ _ _ _ _ (by simp)]; rfl
  have HZ4 : Hid (W.cell? ⟨w.heap.size, 4, none⟩ = some (.int .i64 0)) := by show _ = _; rw [hW, Fk.cellTop _ _ _ _ _ (by simp)]; rfl
  have HZ5 : Hid (W.cell? ⟨w.heap.size, 5, none⟩ = some (.int .i64 0)) := by show _ = _; rw [hW, Fk.cellTop _ _ _ _ _ (by simp)]; rfl
  have HZ6 : Hid (W.cell? ⟨w.heap.size, 6, none⟩ = some (.int .i64 0)) := by show _ = _; rw [hW, Fk.cellTop _ _ _ _ _ (by simp)]; rfl
  have HZF : Hid (∀ j, W.frozen? ⟨w.heap.size, j, none⟩ = false) := fun j => by rw [hW, Fk.frozTop _ _ _ _ _ (by simp)]
  have HV := Fk.hide hv
  obtain ⟨a, cap, rfl, hs⟩ := hv
  have HW := Fk.hide hW
  clear hW
  obtain ⟨x, hx⟩ : ∃ x, x = Lg.entry L id := ⟨_, rfl⟩
  rw [← hx]
  have HX := Fk.hide hx
  clear hx
  go_enter Try.func25, Try.ntmps25
  go_wp2_with fail
  rw [← HW.out]
  refine (l11At_any _ id L _ (HV.out.below b0) hl).mono ?_
  rintro e w1 ⟨rfl, k1⟩
  have B1 : Below w.heap.size w w1 := b0.trans (k1.mono b0.size)
  have bW1 : Below W.heap.size W w1 := k1
  have hz1 : w.heap.size + 1 ≤ w1.heap.size := by rw [← hz]; exact k1.size
  clear k1
  obtain ⟨pl, hpl⟩ : ∃ pl, pl = Lg.place L id := ⟨_, rfl⟩
  have hcs := Lg.place_cases L id
  rw [← hpl] at hcs
  rw [← hpl]
  clear hpl
  by_cases hc : (400 : Int) < (L.length : Int)
  · have hxz : x = En.S.z := by rw [HX.out]; exact Lg.entry_ill (Lg.right_long (by omega))
    subst hxz
    clear hcs
    have z0 := (bW1.cell (p := ⟨w.heap.size, 0, none⟩) (by show w.heap.size < _; omega)).trans HZ0.out
    have z1 := (bW1.cell (p := ⟨w.heap.size, 1, none⟩) (by show w.heap.size < _; omega)).trans HZ1.out
    have z2 := (bW1.cell (p := ⟨w.heap.size, 2, none⟩) (by show w.heap.size < _; omega)).trans HZ2.out
    have z3 := (bW1.cell (p := ⟨w.heap.size, 3, none⟩) (by show w.heap.size < _; omega)).trans HZ3.out
    have z4 := (bW1.cell (p := ⟨w.heap.size, 4, none⟩) (by show w.heap.size < _; omega)).trans HZ4.out
    have z5 := (bW1.cell (p := ⟨w.heap.size, 5, none⟩) (by show w.heap.size < _; omega)).trans HZ5.out
    have z6 := (bW1.cell (p := ⟨w.heap.size, 6, none⟩) (by show w.heap.size < _; omega)).trans HZ6.out
    have zf : ∀ j, w1.frozen? ⟨w.heap.size, j, none⟩ = false := fun j => (bW1.frozen (by show w.heap.size < _; omega)).trans (HZF.out j)
    go_wp2_with fail
    refine bodyPost_ret (v := .agg #[.int .i64 0, .int .i64 0, .bool false, .int .i64 0, .int .i64 0, .int .i64 0, .int .i64 0]) (by simp [results, Try.results25, go_sem, z0, z1, z2, z3, z4, z5, z6] <;> rfl) rfl ⟨rfl, ?_⟩
    repeat (refine Below.setCell ?_ (by simp <;> omega) _)
    exact B1
  rcases hcs with ⟨rfl, hno⟩ | ⟨k, hk, rfl, hat, hbf⟩
  · have hxz : x = En.S.z := by rw [HX.out]; exact Lg.entry_miss hno
    subst hxz
    clear hno
    have z0 := (bW1.cell (p := ⟨w.heap.size, 0, none⟩) (by show w.heap.size < _; omega)).trans HZ0.out
    have z1 := (bW1.cell (p := ⟨w.heap.size, 1, none⟩) (by show w.heap.size < _; omega)).trans HZ1.out
    have z2 := (bW1.cell (p := ⟨w.heap.size, 2, none⟩) (by show w.heap.size < _; omega)).trans HZ2.out
    have z3 := (bW1.cell (p := ⟨w.heap.size, 3, none⟩) (by show w.heap.size < _; omega)).trans HZ3.out
    have z4 := (bW1.cell (p := ⟨w.heap.size, 4, none⟩) (by show w.heap.size < _; omega)).trans HZ4.out
    have z5 := (bW1.cell (p := ⟨w.heap.size, 5, none⟩) (by show w.heap.size < _; omega)).trans HZ5.out
    have z6 := (bW1.cell (p := ⟨w.heap.size, 6, none⟩) (by show w.heap.size < _; omega)).trans HZ6.out
    have zf : ∀ j, w1.frozen? ⟨w.heap.size, j, none⟩ = false := fun j => (bW1.frozen (by show w.heap.size < _; omega)).trans (HZF.out j)
    go_wp2_with fail
    refine bodyPost_ret (v := .agg #[.int .i64 0, .int .i64 0, .bool false, .int .i64 0, .int .i64 0, .int .i64 0, .int .i64 0]) (by simp [results, Try.results25, go_sem, z0, z1, z2, z3, z4, z5, z6] <;> rfl) rfl ⟨rfl, ?_⟩
    repeat (refine Below.setCell ?_ (by simp <;> omega) _)
    exact B1
  have HA := Fk.hide hat
  have HBF := Fk.hide hbf
  clear hat hbf
  go_wp2_with fail
  refine (ledgerRight_spec _ L _ (HV.out.below B1) hl).mono ?_
  rintro e w3 ⟨rfl, k3⟩
  have B3 : Below w.heap.size w w3 := B1.trans (k3.mono B1.size)
  have bW3 : Below W.heap.size W w3 := bW1.trans (k3.mono bW1.size)
  have hz3 : w.heap.size + 1 ≤ w3.heap.size := Nat.le_trans hz1 k3.size
  clear k3 B1 bW1
  obtain ⟨r, hr⟩ : ∃ r, r = Lg.right L := ⟨_, rfl⟩
  rw [← hr]
  have HR := Fk.hide hr
  clear hr
  cases r with
  | false =>
    have hxz : x = En.S.z := by rw [HX.out]; exact Lg.entry_ill HR.out.symm
    subst hxz
    have z0 := (bW3.cell (p := ⟨w.heap.size, 0, none⟩) (by show w.heap.size < _; omega)).trans HZ0.out
    have z1 := (bW3.cell (p := ⟨w.heap.size, 1, none⟩) (by show w.heap.size < _; omega)).trans HZ1.out
    have z2 := (bW3.cell (p := ⟨w.heap.size, 2, none⟩) (by show w.heap.size < _; omega)).trans HZ2.out
    have z3 := (bW3.cell (p := ⟨w.heap.size, 3, none⟩) (by show w.heap.size < _; omega)).trans HZ3.out
    have z4 := (bW3.cell (p := ⟨w.heap.size, 4, none⟩) (by show w.heap.size < _; omega)).trans HZ4.out
    have z5 := (bW3.cell (p := ⟨w.heap.size, 5, none⟩) (by show w.heap.size < _; omega)).trans HZ5.out
    have z6 := (bW3.cell (p := ⟨w.heap.size, 6, none⟩) (by show w.heap.size < _; omega)).trans HZ6.out
    have zf : ∀ j, w3.frozen? ⟨w.heap.size, j, none⟩ = false := fun j => (bW3.frozen (by show w.heap.size < _; omega)).trans (HZF.out j)
    go_wp2_with fail
    refine bodyPost_ret (v := .agg #[.int .i64 0, .int .i64 0, .bool false, .int .i64 0, .int .i64 0, .int .i64 0, .int .i64 0]) (by simp [results, Try.results25, go_sem, z0, z1, z2, z3, z4, z5, z6] <;> rfl) rfl ⟨rfl, ?_⟩
    repeat (refine Below.setCell ?_ (by simp <;> omega) _)
    exact B3
  | true =>
    obtain ⟨b, o, rfl, hb, hs1⟩ := hs (by omega)
    have hs' := hs1.below hb B3
    have q0 := En.c0 hs' hk
    have q1 := En.c1 hs' hk
    have q2 := En.c2 hs' hk
    have q3 := En.c3 hs' hk
    have q4 := En.c4 hs' hk
    have q5 := En.c5 hs' hk
    have q6 := En.c6 hs' hk
    have hxq : x = Rk.at_ En.S L k := by rw [HX.out]; exact Lg.entry_hit HR.out.symm hk HA.out HBF.out
    rw [← hxq] at q0 q1 q2 q3 q4 q5 q6
    clear hs' hxq
    have z0 := (bW3.cell (p := ⟨w.heap.size, 0, none⟩) (by show w.heap.size < _; omega)).trans HZ0.out
    have z1 := (bW3.cell (p := ⟨w.heap.size, 1, none⟩) (by show w.heap.size < _; omega)).trans HZ1.out
    have z2 := (bW3.cell (p := ⟨w.heap.size, 2, none⟩) (by show w.heap.size < _; omega)).trans HZ2.out
    have z3 := (bW3.cell (p := ⟨w.heap.size, 3, none⟩) (by show w.heap.size < _; omega)).trans HZ3.out
    have z4 := (bW3.cell (p := ⟨w.heap.size, 4, none⟩) (by show w.heap.size < _; omega)).trans HZ4.out
    have z5 := (bW3.cell (p := ⟨w.heap.size, 5, none⟩) (by show w.heap.size < _; omega)).trans HZ5.out
    have z6 := (bW3.cell (p := ⟨w.heap.size, 6, none⟩) (by show w.heap.size < _; omega)).trans HZ6.out
    have zf : ∀ j, w3.frozen? ⟨w.heap.size, j, none⟩ = false := fun j => (bW3.frozen (by show w.heap.size < _; omega)).trans (HZF.out j)
    go_wp2_with fail
    refine bodyPost_ret (v := .agg #[.int .i64 x.1, .int .i64 x.2.1, .bool x.2.2.1, .int .i64 x.2.2.2.1, .int .i64 x.2.2.2.2.1, .int .i64 x.2.2.2.2.2.1, .int .i64 x.2.2.2.2.2.2]) (by simp [results, Try.results25, go_sem, z0, z1, z2, z3, z4, z5, z6] <;> rfl) rfl ⟨rfl, ?_⟩
    repeat (refine Below.setCell ?_ (by simp <;> omega) _)
    exact B3

set_option maxHeartbeats 1000000 in
theorem leftOf_impl (v : Value) (id : Int) (L : List En.E) (w : World) (hv : Rk.View En.S w v L) (hl : L.length ≤ 1048576) :
    Calls Try.prog 29 #[v, .int .i64 id] w fun e w' => e = .returned (.int .i64 (Lg.left L id)) ∧ Below w.heap.size w w' := by
  have hf := Lg.entry_fit (L := L) id
  have HC := Fk.hide (entryOf_impl v id L w hv hl)
  have HL : Hid (Lg.left L id = (Lg.entry L id).2.2.2.1 - (Lg.entry L id).2.2.2.2.1 - (Lg.entry L id).2.2.2.2.2.1) := rfl
  obtain ⟨l, hl'⟩ : ∃ l, l = Lg.left L id := ⟨_, rfl⟩
  rw [← hl'] at HL
  rw [← hl']
  obtain ⟨x, hx⟩ : ∃ x, x = Lg.entry L id := ⟨_, rfl⟩
  rw [← hx] at hf HC HL
  clear hx hl'
  obtain ⟨x0, x1, x2, x3, x4, x5, x6⟩ := x
  obtain ⟨⟨h1, h2⟩, ⟨h3, h4⟩, h5, h6⟩ := hf
  obtain ⟨a, cap, rfl, hs⟩ := hv
  simp only at h1 h2 h3 h4 h5 h6
  go_enter Try.func29, Try.ntmps29
  go_wp2_with fail
  refine HC.out.mono ?_
  rintro e w1 ⟨rfl, k1⟩
  have HB := Fk.hide (k1.alloc k1.size (.cells #[.int .i64 x0, .int .i64 x1, .bool x2, .int .i64 x3, .int .i64 x4, .int .i64 x5, .int .i64 x6] 47))
  clear k1
  go_wp2_with fail
  go_ret
  exact ⟨by rw [HL.out]; rfl, HB.out⟩

set_option maxHeartbeats 1000000 in
theorem leftOf_spec (v : Value) (id : Int) (L : List En.E) (w : World) (hv : Rk.View En.S w v L) (hl : L.length ≤ 1048576) :
    Calls Try.prog 28 #[v, .int .i64 id] w fun e w' => e = .returned (.int .i64 (Lg.left L id)) ∧ Below w.heap.size w w' := by
  have hf := Lg.entry_fit (L := L) id
  have HC := Fk.hide (entryOf_spec v id L w hv hl)
  have HL : Hid (Lg.left L id = (Lg.entry L id).2.2.2.1 - (Lg.entry L id).2.2.2.2.1 - (Lg.entry L id).2.2.2.2.2.1) := rfl
  obtain ⟨l, hl'⟩ : ∃ l, l = Lg.left L id := ⟨_, rfl⟩
  rw [← hl'] at HL
  rw [← hl']
  obtain ⟨x, hx⟩ : ∃ x, x = Lg.entry L id := ⟨_, rfl⟩
  rw [← hx] at hf HC HL
  clear hx hl'
  obtain ⟨x0, x1, x2, x3, x4, x5, x6⟩ := x
  obtain ⟨⟨h1, h2⟩, ⟨h3, h4⟩, h5, h6⟩ := hf
  obtain ⟨a, cap, rfl, hs⟩ := hv
  simp only at h1 h2 h3 h4 h5 h6
  go_enter Try.func28, Try.ntmps28
  go_wp2_with fail
  refine HC.out.mono ?_
  rintro e w1 ⟨rfl, k1⟩
  have HB := Fk.hide (k1.alloc k1.size (.cells #[.int .i64 x0, .int .i64 x1, .bool x2, .int .i64 x3, .int .i64 x4, .int .i64 x5, .int .i64 x6] 47))
  clear k1
  go_wp2_with fail
  go_ret
  exact ⟨by rw [HL.out]; rfl, HB.out⟩
end Go.Proofs.Ytemhhmcedghcdaa
