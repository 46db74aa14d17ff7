/- Lists of levels that are written over, one level at a time. No function of the program here. -/
import Derived.Test.YtnhpcknbnmhlhaaLevelMore
import Derived.Test.YtnhpcknbnmhlhaaNewMath
namespace Go.Proofs.Ytnhpcknbnmhlhaa
open Go.RowKit
set_option linter.unusedVariables false
set_option linter.unusedSimpArgs false
namespace Lv
theorem grown_set (w : World) (p : Addr) (u : Value) : w.grownBy (w.setCell p u) (some p.block) :=
  ⟨rfl, rfl, rfl, by simp [World.setCell], fun k hk hne => Below.heap_setCell _ _ _ _ (fun e => hne (by rw [e]))⟩
/-- the first levels are written over; each level's orders lie where they lay -/
structure Mk (w : World) (base : Nat) (eh eo : TypeId) (v : Value) (L : List E) (Hs Hs' : List H) (j : Nat) : Prop where
  len : Hs'.length = L.length
  row : Rk.Own S w base eh v Hs'
  same : ∀ i, i < L.length → sl (Rk.at_ S Hs' i) = sl (Rk.at_ S Hs i)
  each : ∀ i, j ≤ i → i < L.length → Rk.Own Or.S w base eo (sl (Rk.at_ S Hs i)) (at' L i).2
  off : ∀ i, i < L.length → ∀ k, (sl (Rk.at_ S Hs i)).ownBlock = some k → v.ownBlock ≠ some k
  ne : ∀ i j, i < L.length → j < L.length → i ≠ j → ∀ k, (sl (Rk.at_ S Hs i)).ownBlock = some k → (sl (Rk.at_ S Hs j)).ownBlock ≠ some k
theorem Own.marks {w : World} {base : Nat} {eh eo : TypeId} {v : Value} {L : List E} {Hs : List H} (h : Own w base eh eo v L Hs) : Mk w base eh eo v L Hs Hs 0 :=
  ⟨h.len, h.row, fun _ _ => rfl, fun i _ hi => h.each i hi, h.off, h.ne⟩
theorem Mk.price {w : World} {base g n cap : Nat} {eh eo : TypeId} {L : List E} {Hs Hs' : List H} {j : Nat} (h : Mk w base eh eo (.slice (some ⟨g, 0, none⟩) n cap) L Hs Hs' j) (hj : j < L.length) (m : Int) :
    Mk (w.setCell ⟨g, j * 2, none⟩ (.int .i64 m)) base eh eo (.slice (some ⟨g, 0, none⟩) n cap) L Hs (Hs'.set j (m, (Rk.at_ S Hs' j).2)) j := by
  have hj' : j < Hs'.length := by rw [h.len]; exact hj
  refine ⟨by rw [List.length_set]; exact h.len, h.row.put hj' 0 (by decide) _ _ rfl, fun i hi => ?_, fun i h1 h2 => (h.each i h1 h2).kept (grown_set _ _ _) (fun k hk e => h.off i h2 k hk (by simpa [Value.ownBlock] using e.symm)), h.off, h.ne⟩
  by_cases e : i = j
  · subst e; rw [Rk.at_set _ _ hj', ← h.same i hi]; rfl
  · rw [Rk.at_set_ne _ _ _ (Ne.symm e)]; exact h.same i hi
theorem Mk.next {w w' : World} {base : Nat} {eh eo : TypeId} {v : Value} {L : List E} {Hs Hs' : List H} {j : Nat} (h : Mk w base eh eo v L Hs Hs' j) (hj : j < L.length) (hg : w.grownBy w' (sl (Rk.at_ S Hs j)).ownBlock) : Mk w' base eh eo v L Hs Hs' (j + 1) :=
  ⟨h.len, h.row.kept hg (fun k hk e => h.off j hj k e.symm hk), h.same, fun i h1 h2 => (h.each i (by omega) h2).kept hg (fun k hk e => h.ne i j h2 hj (by omega) k hk e.symm), h.off, h.ne⟩
theorem Only.keepsRow {lo hi base size n : Nat} {w w' : World} {e : TypeId} {v : Value} {xs : List Value} (h : Only lo hi w w') (ho : w.ownsRow base e size v n xs) (hv : ∀ k, v.ownBlock = some k → k < lo ∨ hi ≤ k) : w'.ownsRow base e size v n xs := by
  obtain ⟨hl, hn | ⟨g, cap, cur, hv', hbb, hg, r⟩⟩ := ho
  · exact ⟨hl, .inl hn⟩
  · refine ⟨hl, .inr ⟨g, cap, cur, hv', hbb, ?_, r⟩⟩
    rw [h.block g (Array.getElem?_eq_some_iff.1 hg).1 (hv g (by rw [hv']; rfl))]
    exact hg
theorem Only.wide {lo hi lo' hi' : Nat} {w w' : World} (h : Only lo hi w w') (h1 : lo' ≤ lo) (h2 : hi ≤ hi') : Only lo' hi' w w' :=
  ⟨h.os, h.tape, h.output, h.size, fun k hk ho => h.block k hk (by omega)⟩
end Lv
end Go.Proofs.Ytnhpcknbnmhlhaa
