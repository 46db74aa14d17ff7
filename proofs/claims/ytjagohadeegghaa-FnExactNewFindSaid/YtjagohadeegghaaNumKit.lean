/- Lists of numbers in memory, and the walks of the law's own functions on them: eq, mark, held. -/
import Derived.Test.YtjagohadeegghaaMarkText
import Derived.BigRegion
import Derived.Deep.RegionWith
import Derived.Lib.QuietBelow
namespace Go.Proofs.Ytjagohadeegghaa
open Go.RowKit
set_option linter.unusedVariables false
set_option linter.unusedSimpArgs false
namespace Ik
def tc (T : List Int) : List Value := T.map (.int .i64)
def at_ (T : List Int) (i : Nat) : Int := T.getD i 0
def Own (w : World) (base : Nat) (e : TypeId) (v : Value) (T : List Int) : Prop := w.ownsRow base e 1 v T.length (tc T)
def View (w : World) (v : Value) (T : List Int) : Prop :=
  ∃ a cap, v = .slice a T.length cap ∧ (0 < T.length → ∃ b o, a = some ⟨b, o, none⟩ ∧ b < w.heap.size ∧ ∀ i, i < T.length → w.cell? ⟨b, o + i, none⟩ = some (.int .i64 (at_ T i)))
theorem tc_get (T : List Int) (i : Nat) (h : i < T.length) : (tc T)[i]? = some (.int .i64 (at_ T i)) := by simp [tc, at_, List.getD, h]
theorem Own.form {w : World} {base : Nat} {e : TypeId} {v : Value} {T : List Int} (h : Own w base e v T) : (v = .slice none 0 0 ∧ T = []) ∨ ∃ g c, v = .slice (some ⟨g, 0, none⟩) T.length c ∧ base ≤ g ∧ g < w.heap.size := by
  obtain ⟨_, hn | ⟨g, cap, cur, rfl, hb, hg, _⟩⟩ := h
  · exact .inl ⟨hn.1, List.length_eq_zero_iff.1 hn.2⟩
  · exact .inr ⟨g, cap, rfl, hb, (Array.getElem?_eq_some_iff.1 hg).1⟩
theorem Own.slice {w : World} {base : Nat} {e : TypeId} {v : Value} {T : List Int} (h : Own w base e v T) : ∃ a c, v = .slice a T.length c := by
  rcases h.form with ⟨rfl, rfl⟩ | ⟨g, c, rfl, _⟩
  · exact ⟨_, _, rfl⟩
  · exact ⟨_, _, rfl⟩
theorem Own.at {w : World} {base g cap n : Nat} {e : TypeId} {T : List Int} (h : Own w base e (.slice (some ⟨g, 0, none⟩) n cap) T) (hn : n = T.length) {k : Nat} (hk : k < T.length) :
    w.cell? ⟨g, k, none⟩ = some (.int .i64 (at_ T k)) ∧ w.frozen? ⟨g, k, none⟩ = false := by
  subst hn
  exact ⟨(World.ownsRow.cellAt h k (by omega)).trans (tc_get T k hk), World.ownsRow.frozenAt h k⟩
theorem Own.put {w : World} {base g cap n : Nat} {e : TypeId} {T : List Int} (h : Own w base e (.slice (some ⟨g, 0, none⟩) n cap) T) (hn : n = T.length) (k : Nat) (s : Int) :
    Own (w.setCell ⟨g, k, none⟩ (.int .i64 s)) base e (.slice (some ⟨g, 0, none⟩) n cap) (T.set k s) := by
  subst hn
  have := (World.ownsRow.stored h k (.int .i64 s)).1
  unfold Own
  rw [List.length_set]
  have e : tc (T.set k s) = (tc T).set k (.int .i64 s) := by simp [tc, List.map_set]
  rw [e]
  exact this
theorem Own.below {w w' : World} {base : Nat} {e : TypeId} {v : Value} {T : List Int} (h : Own w base e v T) (hB : Below w.heap.size w w') : Own w' base e v T := Fk.owns_below h hB
theorem Own.kept {w w' : World} {base : Nat} {e : TypeId} {v : Value} {T : List Int} {row : Option Nat} (h : Own w base e v T) (hg : w.grownBy w' row) (hne : ∀ k, v.ownBlock = some k → some k ≠ row) : Own w' base e v T := by
  refine World.ownsRow.kept h hg ?_
  cases hv : v.ownBlock with
  | none => exact .inl rfl
  | some k => exact .inr (hne k hv)
theorem Own.view {w : World} {base : Nat} {e : TypeId} {v : Value} {T : List Int} (h : Own w base e v T) : View w v T := by
  rcases h.form with ⟨rfl, rfl⟩ | ⟨g, c, rfl, _, hg⟩
  · exact ⟨_, _, rfl, fun h0 => absurd h0 (Nat.lt_irrefl _)⟩
  · exact ⟨_, _, rfl, fun _ => ⟨g, 0, rfl, hg, fun i hi => by rw [Nat.zero_add]; exact (h.at rfl hi).1⟩⟩
theorem View.below {w w' : World} {v : Value} {T : List Int} (h : View w v T) (hB : Below w.heap.size w w') : View w' v T := by
  obtain ⟨a, cap, e, hs⟩ := h
  refine ⟨a, cap, e, fun h0 => ?_⟩
  obtain ⟨b, o, e', hb, hc⟩ := hs h0
  exact ⟨b, o, e', Nat.lt_of_lt_of_le hb hB.size, fun i hi => (hB.cell (by exact hb)).trans (hc i hi)⟩
theorem own_nil (w : World) (base : Nat) (e : TypeId) : Own w base e (.slice none 0 0) [] := World.ownsRow_nil w base e 1
theorem own_empty (w : World) (e : TypeId) (base : Nat) (hb : base ≤ w.heap.size) : Own (w.alloc (.cells #[] e)) base e (.slice (some ⟨w.heap.size, 0, none⟩) 0 0) [] :=
  World.ownsRow_lit w #[] 0 hb (by unfold maxLen; omega) rfl
/-- the marks from k on -/
def marks (k n : Nat) : List Int := (List.range n).map fun i => ((k + i : Nat) : Int)
theorem marks_length (k n : Nat) : (marks k n).length = n := by simp [marks]
theorem marks_at (k n i : Nat) (h : i < n) : at_ (marks k n) i = ((k + i : Nat) : Int) := by simp [at_, marks, List.getD, h]
def part (k : Nat) (T : List Int) (j : Nat) : List Int := marks k j ++ T.drop j
theorem part_none (k : Nat) (T : List Int) : part k T 0 = T := by simp [part, marks]
theorem part_all (k : Nat) (T : List Int) : part k T T.length = marks k T.length := by simp [part]
theorem part_length (k : Nat) (T : List Int) (j : Nat) (h : j ≤ T.length) : (part k T j).length = T.length := by simp [part, marks_length]; omega
theorem part_step (k : Nat) (T : List Int) (j : Nat) (h : j < T.length) : (part k T j).set j (((k + j : Nat) : Int)) = part k T (j + 1) := by
  unfold part
  rw [List.set_append_right _ _ (by rw [marks_length]; exact Nat.le_refl _), marks_length, Nat.sub_self, List.drop_eq_getElem_cons h, List.set_cons_zero]
  simp [marks, List.range_succ]
theorem made (n : Nat) : (madeCells (Value.int .i64 0).cells n).toList = List.replicate n (.int .i64 0) := by
  have e : (Value.int .i64 0).cells = #[.int .i64 0] := rfl
  rw [e]
  apply List.ext_getElem?
  intro i
  by_cases h : i < n <;> simp [madeCells, List.getElem?_replicate, h, Nat.mod_one]
/-- the first numbers, and zeros behind them -/
def fill (T : List Int) (k : Nat) : List Int := T.take k ++ List.replicate (T.length - k) 0
theorem fill_length (T : List Int) (k : Nat) (h : k ≤ T.length) : (fill T k).length = T.length := by simp [fill]; omega
theorem fill_all (T : List Int) : fill T T.length = T := by simp [fill]
theorem fill_step (T : List Int) (k : Nat) (h : k < T.length) : (fill T k).set k (at_ T k) = fill T (k + 1) := by
  unfold fill
  rw [List.set_append_right _ _ (by simp; omega)]
  have e : k - (T.take k).length = 0 := by simp; omega
  rw [e, show T.length - k = (T.length - (k + 1)) + 1 by omega, List.replicate_succ, List.set_cons_zero]
  have e2 : T.take (k + 1) = T.take k ++ [at_ T k] := by rw [List.take_add_one]; simp [at_, List.getD, h]
  rw [e2]
  simp
end Ik
theorem infoI64 : (Try.prog.info? 2).map (fun i => (i.zero, i.size, i.bytes)) = some (some (.int .i64 0), 1, 8) := by kernel_rfl

set_option maxHeartbeats 2000000 in
theorem eqInt64S_same (v1 v2 : Value) (T : List Int) (w : World) (h1 : Ik.View w v1 T) (h2 : Ik.View w v2 T) (hl : T.length ≤ 1048576) :
    Calls Try.prog 49 #[v1, v2] w fun e w' => e = .returned (.bool true) ∧ Below w.heap.size w w' := by
  obtain ⟨a, cap, rfl, hs⟩ := h1
  obtain ⟨a2, cap2, rfl, hs2⟩ := h2
  go_enter Try.func49, Try.ntmps49
  go_wp2_with fail
  go_loopw [5] (fun i wr => ∃ k : Nat, k ≤ T.length ∧ i = .int .i64 k ∧ Below w.heap.size w wr) (fun i _ => T.length - (intOf i).toNat)
  case atStart => exact ⟨0, Nat.zero_le _, rfl, Below.refl _ _⟩
  case round =>
    obtain ⟨k, hk, rfl, bel⟩ := hrel
    by_cases hlt : k < T.length
    · obtain ⟨b, o, rfl, hb, hs1⟩ := hs (by omega)
      obtain ⟨b2, o2, rfl, hb2, hs3⟩ := hs2 (by omega)
      have q0 : wr.cell? ⟨b, o + k, none⟩ = some (.int .i64 (Ik.at_ T k)) := (bel.cell (by exact hb)).trans (hs1 k hlt)
      have p0 : wr.cell? ⟨b2, o2 + k, none⟩ = some (.int .i64 (Ik.at_ T k)) := (bel.cell (by exact hb2)).trans (hs3 k hlt)
      clear hs hs2 hs1 hs3
      have r0 := cell_regrown q0
      have r1 := cell_regrown p0
      go_wp2_with fail
      refine wp_region_quiet_below (by kernel_rfl) (by kernel_rfl) ?_
      repeat (go_big_quiet_step (fail))
      refine wpQuiet_nil ?_
      intro w4 hw'
      obtain ⟨⟨dq, osq⟩, hw''⟩ := hw'
      have b4 : Below w.heap.size w w4 := by rw [hw'']; exact bel.trans ((below_regrown wr dq osq).mono bel.size)
      clear hw'' r0 r1 q0 p0
      go_wp2_with fail
      go_roundw
      case rel => exact ⟨k + 1, by omega, by go_num, b4⟩
      case measure => simp [intOf]; omega
    · have e : k = T.length := by omega
      subst e
      go_wp2_with fail
      go_ret
      exact ⟨rfl, bel⟩
set_option maxHeartbeats 2000000 in
theorem markInt64S_any (v : Value) (T : List Int) (k : Nat) (base : Nat) (w : World) (ho : Ik.Own w base 2 v T) (hl : T.length ≤ 1048576) (hk0 : 0 < k) (hk : k ≤ 4194304) :
    Calls Try.prog 50 #[v, .int .i64 k] w fun e w' => (e = .returned (.int .i64 ((k + T.length : Nat) : Int)) ∧ Ik.Own w' base 2 v (Ik.marks k T.length)) ∧ w.grownBy w' v.ownBlock := by
  obtain ⟨a, cap, rfl⟩ := ho.slice
  have HO : Hid (Ik.Own w base 2 (.slice a T.length cap) T) := ho
  go_enter Try.func50, Try.ntmps50
  go_wp2_with fail
  go_loopw [1, 5] (fun q i wr => ∃ j m : Nat, j ≤ T.length ∧ q = .int .i64 (m : Int) ∧ i = .int .i64 j ∧ 0 < m ∧ m ≤ 99999990 ∧ Hid (m = k + j) ∧ Hid (Ik.Own wr base 2 (.slice a T.length cap) (Ik.part k T j)) ∧ Hid (w.grownBy wr (Value.slice a T.length cap).ownBlock)) (fun _ i _ => T.length - (intOf i).toNat)
  case atStart => exact ⟨0, k, Nat.zero_le _, rfl, rfl, hk0, by omega, rfl, (by rw [Ik.part_none]; exact ho), World.grownBy.refl _ _⟩
  case round =>
    obtain ⟨j, m, hj, rfl, rfl, hm0, hm1, HM, HP, HG⟩ := hrel
    by_cases hlt : j < T.length
    · obtain ⟨g, rfl⟩ : ∃ g, a = some ⟨g, 0, none⟩ := by
        rcases HO.out.form with ⟨h1, h2⟩ | ⟨g, c, h1, _⟩
        · rw [h2] at hlt; simp at hlt
        · simp only [Value.slice.injEq] at h1; exact ⟨g, h1.1⟩
      have hlp : T.length = (Ik.part k T j).length := (Ik.part_length k T j hj).symm
      have HL := Fk.hide hlp
      clear hlp
      have O1 := HP
      have G1 := HG
      obtain ⟨p0, p3⟩ := O1.out.at HL.out (k := j) (by have := HL.out; omega)
      obtain ⟨z, hz⟩ : ∃ z, z = Ik.at_ (Ik.part k T j) j := ⟨_, rfl⟩
      rw [← hz] at p0
      clear hz
      go_wp2_with fail
      go_roundw
      case rel =>
        refine ⟨j + 1, m + 1, by omega, by go_num, by go_num, by omega, ?_, ?_, ?_, ?_⟩
        · have := HM.out; omega
        · show m + 1 = _
          have := HM.out; omega
        · have := O1.out.put HL.out j (m : Int)
          rw [HM.out, Ik.part_step k T j hlt] at this
          rw [HM.out]
          exact this
        · exact Fk.grownBy_trans G1.out (Fk.grownBy_setCell wr g j _)
      case measure => simp [intOf]; omega
    · have e : j = T.length := by omega
      subst e
      go_wp2_with fail
      go_ret
      refine ⟨⟨by rw [HM.out]; rfl, ?_⟩, HG.out⟩
      have := HP.out
      rw [Ik.part_all] at this
      exact this

end Go.Proofs.Ytjagohadeegghaa
