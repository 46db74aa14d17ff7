/- The walk of the specification's l06Out: an order is taken out. -/
import Derived.Test.YtfagldipjpaceaaDoIn
namespace Go.Proofs.Ytfagldipjpaceaa
open Go.RowKit
set_option linter.unusedVariables false
set_option linter.unusedSimpArgs false
set_option maxRecDepth 100000 in
set_option maxHeartbeats 8000000 in
theorem l06Out_any (g0 cap : Nat) (L : List Or.E) (k : Nat) (base : Nat) (w : World) (ho : Rk.Own Or.S w base 40 (.slice (some ⟨g0, 0, none⟩) L.length cap) L) (hl : L.length ≤ 100000) (hk : k < L.length) :
    Calls Try.prog 103 #[.slice (some ⟨g0, 0, none⟩) L.length cap, .int .i64 k] w fun e w' => (∃ u, e = .returned u ∧ Rk.Own Or.S w' w.heap.size 40 u (L.take k ++ L.drop (k + 1))) ∧ Below w.heap.size w w' := by
  obtain ⟨i0, hi, hz0, hz1, hz2⟩ := info_parts infoOrdS
  have hg : g0 < w.heap.size := (ho.lt g0 rfl).2
  have HS : Hid (Rk.Sees Or.S w g0 0 L) := fun i hi j hj => by have := ho.at hi j hj; simpa using this
  have hcap : L.length ≤ cap := by
    obtain ⟨_, h1 | ⟨g', cap', cur, hv, _, _, hc, _⟩⟩ := ho
    · cases h1.1
    · simp only [Value.slice.injEq] at hv; omega
  have HB5 : Hid (Below w.heap.size w (w.alloc (.cells #[] 40))) := (Below.refl _ _).alloc (Nat.le_refl _) _
  have hM : Hid (Rk.Own Or.S (w.alloc (.cells #[] 40)) w.heap.size 40 (.slice (some ⟨w.heap.size, 0, none⟩) 0 0) []) := Rk.own_empty w 40 w.heap.size (Nat.le_refl _)
  have hV : Hid (Rk.View Or.S (w.alloc (.cells #[] 40)) (.slice (some ⟨g0, 0, none⟩) k cap) (L.take k)) := Rk.view_of (Rk.sees_take (HS.out.below hg HB5.out) k) (Nat.lt_of_lt_of_le hg HB5.out.size) (by simp <;> omega)
  have hb5 : Hid (w.heap.size ≤ (w.alloc (.cells #[] 40)).heap.size) := HB5.out.size
  have hl1 : Hid (([] : List Or.E).length + (L.take k).length ≤ 1000000000) := by show _ ≤ _; simp <;> omega
  have n0 : (0 : Int) ≤ (k : Int) := Int.natCast_nonneg _
  have n1' : (k : Int) ≤ (L.length : Int) := by omega
  have n2' : (k : Int) ≤ (cap : Int) := by omega
  have n3 : IntKind.i64.wrap ((k : Int) + 1) = (k : Int) + 1 := by rw [IntKind.wrap_i64]; omega
  have n4 : ((k : Int) + 1).toNat = k + 1 := by omega
  have n5 : (0 : Int) ≤ (k : Int) + 1 := by omega
  have n6 : (k : Int) + 1 ≤ (L.length : Int) := by omega
  clear ho
  by_cases hck : cap = k + 1
  · subst hck
    have n7 : (k : Int) ≤ (k : Int) + 1 := by omega
    have hl2 : Hid ((L.take k).length + (L.drop (k + 1)).length ≤ 1000000000) := by show _ ≤ _; simp <;> omega
    have HV2 : Hid (∀ w', Below w.heap.size w w' → Rk.View Or.S w' (.slice (some ⟨g0, 0, none⟩) (L.length - (k + 1)) 0) (L.drop (k + 1))) := fun w' h' => Rk.view_of (fun i hi => by simp at hi; omega) (Nat.lt_of_lt_of_le hg h'.size) (by simp)
    have HV3 : Hid (∀ w', Below w.heap.size w w' → Rk.View Or.S w' (.slice (some ⟨g0, 0, none⟩) 0 0) (L.drop (k + 1))) := fun w' h' => Rk.view_of (fun i hi => by simp at hi; omega) (Nat.lt_of_lt_of_le hg h'.size) (by simp; omega)
    go_enter Try.func103, Try.ntmps103
    go_wp2_with fail
    go_region_law
      (first
        | (have hchk := B1.out; clear hchk; refine Rk.step_append_view _ (by rfl) _ _ 23 (by rfl) w.heap.size 40 i0 _ 8 64 rfl Try.underlying23 hi hz0 hz1 hz2 (by rfl) (by decide) (.slice a1 n1 c1) (.slice (some ⟨g0, 0, none⟩) 0 0) (L.take k) (L.drop (k + 1)) (by rfl) (by rfl) HO1.out (HV3.out _ B1.out) (Rk.shut_some _ _ _) hl2.out B1.out.size ?_; intro u2 w2 o2 g2; have B2 : Hid (Below w.heap.size w w2) := B1.out.grown g2 B1.out.size (fun j hj => (HO1.out.lt j hj).1); have HO2 := Fk.hide o2; obtain ⟨a2, n2, c2, rfl⟩ := o2.slice'; clear o2 g2)
        | (have hchk := B1.out; clear hchk; refine Rk.step_append_view _ (by rfl) _ _ 23 (by rfl) w.heap.size 40 i0 _ 8 64 rfl Try.underlying23 hi hz0 hz1 hz2 (by rfl) (by decide) (.slice a1 n1 c1) (.slice (some ⟨g0, 0, none⟩) (L.length - (k + 1)) 0) (L.take k) (L.drop (k + 1)) (by rfl) (by rfl) HO1.out (HV2.out _ B1.out) (Rk.shut_some _ _ _) hl2.out B1.out.size ?_; intro u2 w2 o2 g2; have B2 : Hid (Below w.heap.size w w2) := B1.out.grown g2 B1.out.size (fun j hj => (HO1.out.lt j hj).1); have HO2 := Fk.hide o2; obtain ⟨a2, n2, c2, rfl⟩ := o2.slice'; clear o2 g2)
        | (refine Rk.step_append_view _ (by rfl) _ _ 23 (by rfl) w.heap.size 40 i0 _ 8 64 rfl Try.underlying23 hi hz0 hz1 hz2 (by rfl) (by decide) (.slice (some ⟨w.heap.size, 0, none⟩) 0 0) (.slice (some ⟨g0, 0, none⟩) k (k + 1)) [] (L.take k) (by rfl) (by rfl) hM.out hV.out (Rk.shut_some _ _ _) hl1.out hb5.out ?_; intro u1 w1 o1 g1; rw [List.nil_append] at o1; have B1 : Hid (Below w.heap.size w w1) := (Below.drew HB5.out).grown g1 hb5.out (fun j hj => by simp [Value.ownBlock] at hj; omega); have HO1 := Fk.hide o1; obtain ⟨a1, n1, c1, rfl⟩ := o1.slice'; clear o1 g1))
    all_goals
      go_wp2_with fail
      go_ret
      exact ⟨⟨_, rfl, HO2.out⟩, B2.out⟩
  · have hl2 : Hid ((L.take k).length + (L.drop (k + 1)).length ≤ 1000000000) := by show _ ≤ _; simp <;> omega
    have HV2 : Hid (∀ w', Below w.heap.size w w' → Rk.View Or.S w' (.slice (some ⟨g0, (k + 1) * 8, none⟩) (L.length - (k + 1)) (cap - (k + 1))) (L.drop (k + 1))) := fun w' h' => Rk.view_of (by have := Rk.sees_drop (HS.out.below hg h') (k + 1); rwa [Nat.zero_add] at this) (Nat.lt_of_lt_of_le hg h'.size) (by simp)
    go_enter Try.func103, Try.ntmps103
    go_wp2_with fail
    go_region_law
      (first
        | (have hchk := B1.out; clear hchk; refine Rk.step_append_view _ (by rfl) _ _ 23 (by rfl) w.heap.size 40 i0 _ 8 64 rfl Try.underlying23 hi hz0 hz1 hz2 (by rfl) (by decide) (.slice a1 n1 c1) (.slice (some ⟨g0, (k + 1) * 8, none⟩) (L.length - (k + 1)) (cap - (k + 1))) (L.take k) (L.drop (k + 1)) (by rfl) (by rfl) HO1.out (HV2.out _ B1.out) (Rk.shut_some _ _ _) hl2.out B1.out.size ?_; intro u2 w2 o2 g2; have B2 : Hid (Below w.heap.size w w2) := B1.out.grown g2 B1.out.size (fun j hj => (HO1.out.lt j hj).1); have HO2 := Fk.hide o2; obtain ⟨a2, n2, c2, rfl⟩ := o2.slice'; clear o2 g2)
        | (refine Rk.step_append_view _ (by rfl) _ _ 23 (by rfl) w.heap.size 40 i0 _ 8 64 rfl Try.underlying23 hi hz0 hz1 hz2 (by rfl) (by decide) (.slice (some ⟨w.heap.size, 0, none⟩) 0 0) (.slice (some ⟨g0, 0, none⟩) k cap) [] (L.take k) (by rfl) (by rfl) hM.out hV.out (Rk.shut_some _ _ _) hl1.out hb5.out ?_; intro u1 w1 o1 g1; rw [List.nil_append] at o1; have B1 : Hid (Below w.heap.size w w1) := (Below.drew HB5.out).grown g1 hb5.out (fun j hj => by simp [Value.ownBlock] at hj; omega); have HO1 := Fk.hide o1; obtain ⟨a1, n1, c1, rfl⟩ := o1.slice'; clear o1 g1))
    all_goals
      go_wp2_with fail
      go_ret
      exact ⟨⟨_, rfl, HO2.out⟩, B2.out⟩
end Go.Proofs.Ytfagldipjpaceaa
