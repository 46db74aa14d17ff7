/- The walk of the program's queue.add at int64. -/
import Derived.Test.YtjagohadeegghaaNumHeld
import Derived.Test.YtjagohadeegghaaRowsNew
import Derived.Test.YtjagohadeegghaaOrderLaw
import Derived.Test.YtjagohadeegghaaKindKit
namespace Go.Proofs.Ytjagohadeegghaa
open Go.RowKit
set_option linter.unusedVariables false
set_option linter.unusedSimpArgs false
set_option maxRecDepth 100000 in
set_option maxHeartbeats 2000000 in
theorem queueAdd_any (bq lo : Nat) (T : TypeId) (hT : T ≠ 2) (v : Value) (R : List Int) (id : Int) (w : World) (hq : Wq.Kind w bq T) (c0 : w.cell? ⟨bq, 0, none⟩ = some v) (hf : w.frozen? ⟨bq, 0, none⟩ = false) (hR : Rk.Own Iq.S w lo 2 v R) (hl : R.length ≤ 1048576) (hlo : lo ≤ bq) (hw : lo ≤ w.heap.size) :
    Calls Try.prog 160 #[.pointer (some ⟨bq, 0, none⟩), .int .i64 id] w fun e w' => e = .returned (.tuple #[]) ∧ (∃ v', w'.cell? ⟨bq, 0, none⟩ = some v' ∧ Rk.Own Iq.S w' lo 2 v' (R ++ [id]) ∧ (∀ p u, p.block = bq → p ≠ ⟨bq, 0, none⟩ → w.cell? p = some u → w'.cell? p = some u) ∧ (∀ j, w'.frozen? ⟨bq, j, none⟩ = w.frozen? ⟨bq, j, none⟩) ∧ Wq.Kind w' bq T) ∧ Below lo w w' := by
  obtain ⟨i0, hi, hz0, hz1, hz2⟩ := info_parts infoI64
  obtain ⟨a, n, cap, rfl⟩ := hR.slice'
  have hb := hq.lt
  have HNE := Fk.hide (hq.off hR hT)
  have bX : Below w.heap.size w (w.alloc (.cells #[.int .i64 id] 2)) := (Below.refl _ _).alloc (Nat.le_refl _) _
  have HBX := Fk.hide bX
  have HOX := Fk.hide (hR.below bX)
  have HVX := Fk.hide (Rk.view_lit1 (S := Iq.S) w 2 #[.int .i64 id] id rfl)
  have HLT : Hid (∀ j, (Value.slice a n cap).ownBlock = some j → lo ≤ j) := fun j hj => (hR.lt j hj).1
  have HQ := Fk.hide hq
  clear hR bX hq
  go_enter Try.func160, Try.ntmps160
  go_wp2_with (at_builtin; refine Rk.wpList_append_view _ rfl _ _ 63 rfl lo 2 i0 _ 1 8 rfl Try.underlying63 hi hz0 hz1 hz2 rfl (by decide) _ (.slice (some ⟨w.heap.size, 0, none⟩) 1 1) R [id] rfl rfl HOX.out HVX.out (Rk.shut_some _ _ _) (by simp; omega) (by simp; omega) ?_; intro u6 w6 o6 g6; have HB6 : Hid (Below lo w w6) := (HBX.out.mono hw).grown g6 (by simp; omega) HLT.out; have HEQ : Hid (w6.heap[bq]? = w.heap[bq]?) := (g6.block bq (by simp; omega) (fun e => HNE.out e.symm)).trans (HBX.out.block bq hb); obtain ⟨x6, n6, c6, rfl⟩ := o6.slice'; have HO6 := Fk.hide o6; have d0 : w6.cell? ⟨bq, 0, none⟩ = some (.slice a n cap) := (World.cell?_of_block (a := ⟨bq, 0, none⟩) HEQ.out).trans c0; have df : w6.frozen? ⟨bq, 0, none⟩ = false := (World.frozen?_of_block (a := ⟨bq, 0, none⟩) HEQ.out).trans hf; clear o6 g6)
  have HK6 : Hid (Wq.Kind w6 bq T) := HQ.out.of_block HEQ.out
  refine bodyPost_end (v := .tuple #[]) (by simp [results, Try.results160, go_sem] <;> rfl) rfl ⟨rfl, ⟨_, World.cell?_setCell_same _ _ _ d0, ?_, ?_, ?_, HK6.out.setCell _ _⟩, HB6.out.setCell hlo _⟩
  · exact HO6.out.kept (Fk.grownBy_setCell _ bq 0 _) (fun j hj e => HK6.out.off HO6.out hT (by cases e; exact hj))
  · intro p u hp hne hc
    rw [World.cell?_setCell_other _ _ _ _ (Ne.symm hne)]
    exact (World.cell?_of_block (a := p) (by rw [hp]; exact HEQ.out)).trans hc
  · intro j
    have := World.frozen?_of_block (a := ⟨bq, j, none⟩) HEQ.out
    simpa using this
end Go.Proofs.Ytjagohadeegghaa
