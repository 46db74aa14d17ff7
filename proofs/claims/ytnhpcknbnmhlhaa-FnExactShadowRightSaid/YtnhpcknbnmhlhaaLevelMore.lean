/- Lists of levels that are made one level at a time. No function of the program here. -/
import Derived.Test.YtnhpcknbnmhlhaaLevelKit
namespace Go.Proofs.Ytnhpcknbnmhlhaa
open Go.RowKit
set_option linter.unusedVariables false
set_option linter.unusedSimpArgs false
namespace Lv
/-- the first levels are made -/
structure Part (w : World) (base : Nat) (eh eo : TypeId) (v : Value) (L : List E) (Hs : List H) (k : Nat) : Prop where
  len : Hs.length = L.length
  row : Rk.Own S w base eh v Hs
  price : ∀ i, i < k → (Rk.at_ S Hs i).1 = (at' L i).1
  each : ∀ i, i < k → Rk.Own Or.S w (base + 1) eo (sl (Rk.at_ S Hs i)) (at' L i).2
  ne : ∀ i j, i < k → j < k → i ≠ j → ∀ b, (sl (Rk.at_ S Hs i)).ownBlock = some b → (sl (Rk.at_ S Hs j)).ownBlock ≠ some b
theorem Part.below {w w' : World} {base : Nat} {eh eo : TypeId} {v : Value} {L : List E} {Hs : List H} {k : Nat} (h : Part w base eh eo v L Hs k) (hB : Below w.heap.size w w') : Part w' base eh eo v L Hs k :=
  ⟨h.len, h.row.below hB, h.price, fun i hi => (h.each i hi).below hB, h.ne⟩
theorem Part.step {w w2 : World} {base n cap : Nat} {eh eo : TypeId} {L : List E} {Hs : List H} {k : Nat} (h : Part w base eh eo (.slice (some ⟨base, 0, none⟩) n cap) L Hs k) (hk : k < L.length) (hB : Below w.heap.size w w2) (hb : base < w.heap.size) (f : H) (hf : f.1 = (at' L k).1) (ho : Rk.Own Or.S w2 w.heap.size eo (sl f) (at' L k).2) :
    Part ((w2.setCell ⟨base, k * 2, none⟩ (.int .i64 f.1)).setCell ⟨base, k * 2 + 1, none⟩ (sl f)) base eh eo (.slice (some ⟨base, 0, none⟩) n cap) L (Hs.set k f) (k + 1) := by
  have h2 := h.below hB
  have hk' : k < Hs.length := by rw [h.len]; exact hk
  have set : ∀ {u : Value} {M : List Or.E}, Rk.Own Or.S w2 (base + 1) eo u M → Rk.Own Or.S ((w2.setCell ⟨base, k * 2, none⟩ (.int .i64 f.1)).setCell ⟨base, k * 2 + 1, none⟩ (sl f)) (base + 1) eo u M := fun h => ownsRow_setCell_below (ownsRow_setCell_below h (by show base < _; omega) _) (by show base < _; omega) _
  refine ⟨by rw [List.length_set]; exact h.len, own_set h2.row hk' f, fun i hi => ?_, fun i hi => ?_, fun i j hi hj hne b hb1 hb2 => ?_⟩
  · by_cases e : i = k
    · subst e; rw [Rk.at_set _ _ hk']; exact hf
    · rw [Rk.at_set_ne _ _ _ (Ne.symm e)]; exact h.price i (by omega)
  · by_cases e : i = k
    · subst e; rw [Rk.at_set _ _ hk']; exact set (ho.mono (by omega))
    · rw [Rk.at_set_ne _ _ _ (Ne.symm e)]; exact set (h2.each i (by omega))
  · by_cases e : i = k
    · subst e
      rw [Rk.at_set _ _ hk'] at hb1
      rw [Rk.at_set_ne _ _ _ hne] at hb2
      have h1 := ho.lt b hb1
      have h3 := (h.each j (by omega)).lt b hb2
      omega
    · rw [Rk.at_set_ne _ _ _ (Ne.symm e)] at hb1
      by_cases e2 : j = k
      · subst e2
        rw [Rk.at_set _ _ hk'] at hb2
        have h1 := ho.lt b hb2
        have h3 := (h.each i (by omega)).lt b hb1
        omega
      · rw [Rk.at_set_ne _ _ _ (Ne.symm e2)] at hb2
        exact h.ne i j (by omega) (by omega) hne b hb1 hb2
theorem Part.all {w : World} {base n cap : Nat} {eh eo : TypeId} {L : List E} {Hs : List H} (h : Part w base eh eo (.slice (some ⟨base, 0, none⟩) n cap) L Hs L.length) : Own w base eh eo (.slice (some ⟨base, 0, none⟩) n cap) L Hs :=
  ⟨h.len, h.row, h.price, fun i hi => (h.each i hi).mono (by omega), fun i hi k hk e => by have := (h.each i hi).lt k hk; simp [Value.ownBlock] at e; omega, h.ne⟩
theorem Own.setBelow {w : World} {base : Nat} {eh eo : TypeId} {v : Value} {L : List E} {Hs : List H} (h : Own w base eh eo v L Hs) {b : Nat} (hb : b < base) (i : Nat) (x : Value) : Own (w.setCell ⟨b, i, none⟩ x) base eh eo v L Hs :=
  ⟨h.len, ownsRow_setCell_below h.row (by show b < _; exact hb) _, h.price, fun i hi => ownsRow_setCell_below (h.each i hi) (by show b < _; exact hb) _, h.off, h.ne⟩
/-- all of it lies in rows below a number -/
structure Under (top : Nat) (v : Value) (L : List E) (Hs : List H) : Prop where
  row : ∀ k, v.ownBlock = some k → k < top
  each : ∀ i, i < L.length → ∀ k, (sl (Rk.at_ S Hs i)).ownBlock = some k → k < top
theorem Own.under {w : World} {base : Nat} {eh eo : TypeId} {v : Value} {L : List E} {Hs : List H} (h : Own w base eh eo v L Hs) : Under w.heap.size v L Hs :=
  ⟨fun k hk => (h.row.lt k hk).2, fun i hi k hk => ((h.each i hi).lt k hk).2⟩
theorem Under.mono {top top' : Nat} {v : Value} {L : List E} {Hs : List H} (h : Under top v L Hs) (ht : top ≤ top') : Under top' v L Hs :=
  ⟨fun k hk => Nat.lt_of_lt_of_le (h.row k hk) ht, fun i hi k hk => Nat.lt_of_lt_of_le (h.each i hi k hk) ht⟩
theorem Own.slice {w : World} {base : Nat} {eh eo : TypeId} {v : Value} {L : List E} {Hs : List H} (h : Own w base eh eo v L Hs) : ∃ a cap, v = .slice a L.length cap := h.view.slice
/-- what lies outside stays -/
theorem Own.only {lo hi base : Nat} {w w' : World} {eh eo : TypeId} {v : Value} {L : List E} {Hs : List H} (h : Own w base eh eo v L Hs) (ho : Only lo hi w w') (hb : hi ≤ base) : Own w' base eh eo v L Hs :=
  ⟨h.len, ho.keeps h.row (fun k hk => .inr (Nat.le_trans hb (h.row.lt k hk).1)), h.price, fun i hi => ho.keeps (h.each i hi) (fun k hk => .inr (Nat.le_trans hb ((h.each i hi).lt k hk).1)), h.off, h.ne⟩
end Lv
end Go.Proofs.Ytnhpcknbnmhlhaa
