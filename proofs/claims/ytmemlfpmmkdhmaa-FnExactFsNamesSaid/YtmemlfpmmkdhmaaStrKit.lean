/- Lists of texts in memory, and the walks of the law's own functions on them: eq, mark, held. -/
import Derived.Test.YtmemlfpmmkdhmaaFsMark
import Derived.Test.YtmemlfpmmkdhmaaFsTo
import Derived.Lib.QuietBelow
namespace Go.Proofs.Ytmemlfpmmkdhmaa
open Go.RowKit
set_option linter.unusedVariables false
set_option linter.unusedSimpArgs false
namespace Sk
def tc (T : List ByteArray) : List Value := T.map .string
def at_ (T : List ByteArray) (i : Nat) : ByteArray := T.getD i ByteArray.empty
def Own (w : World) (base : Nat) (e : TypeId) (v : Value) (T : List ByteArray) : Prop := w.ownsRow base e 1 v T.length (tc T)
def View (w : World) (v : Value) (T : List ByteArray) : Prop :=
  ∃ a cap, v = .slice a T.length cap ∧ (0 < T.length → ∃ b, a = some ⟨b, 0, none⟩ ∧ b < w.heap.size ∧ ∀ i, i < T.length → w.cell? ⟨b, i, none⟩ = some (.string (at_ T i)))
theorem tc_get (T : List ByteArray) (i : Nat) (h : i < T.length) : (tc T)[i]? = some (.string (at_ T i)) := by simp [tc, at_, List.getD, h]
theorem Own.form {w : World} {base : Nat} {e : TypeId} {v : Value} {T : List ByteArray} (h : Own w base e v T) : (v = .slice none 0 0 ∧ T = []) ∨ ∃ g c, v = .slice (some ⟨g, 0, none⟩) T.length c ∧ base ≤ g ∧ g < w.heap.size := by
  obtain ⟨_, hn | ⟨g, cap, cur, rfl, hb, hg, _⟩⟩ := h
  · exact .inl ⟨hn.1, List.length_eq_zero_iff.1 hn.2⟩
  · exact .inr ⟨g, cap, rfl, hb, (Array.getElem?_eq_some_iff.1 hg).1⟩
theorem Own.slice {w : World} {base : Nat} {e : TypeId} {v : Value} {T : List ByteArray} (h : Own w base e v T) : ∃ a c, v = .slice a T.length c := by
  rcases h.form with ⟨rfl, rfl⟩ | ⟨g, c, rfl, _⟩
  · exact ⟨_, _, rfl⟩
  · exact ⟨_, _, rfl⟩
theorem Own.at {w : World} {base g cap n : Nat} {e : TypeId} {T : List ByteArray} (h : Own w base e (.slice (some ⟨g, 0, none⟩) n cap) T) (hn : n = T.length) {k : Nat} (hk : k < T.length) :
    w.cell? ⟨g, k, none⟩ = some (.string (at_ T k)) ∧ w.frozen? ⟨g, k, none⟩ = false := by
  subst hn
  exact ⟨(World.ownsRow.cellAt h k (by omega)).trans (tc_get T k hk), World.ownsRow.frozenAt h k⟩
theorem Own.put {w : World} {base g cap n : Nat} {e : TypeId} {T : List ByteArray} (h : Own w base e (.slice (some ⟨g, 0, none⟩) n cap) T) (hn : n = T.length) (k : Nat) (s : ByteArray) :
    Own (w.setCell ⟨g, k, none⟩ (.string s)) base e (.slice (some ⟨g, 0, none⟩) n cap) (T.set k s) := by
  subst hn
  have := (World.ownsRow.stored h k (.string s)).1
  unfold Own
  rw [List.length_set]
  have e : tc (T.set k s) = (tc T).set k (.string s) := by simp [tc, List.map_set]
  rw [e]
  exact this
theorem Own.below {w w' : World} {base : Nat} {e : TypeId} {v : Value} {T : List ByteArray} (h : Own w base e v T) (hB : Below w.heap.size w w') : Own w' base e v T := Fk.owns_below h hB
theorem Own.kept {w w' : World} {base : Nat} {e : TypeId} {v : Value} {T : List ByteArray} {row : Option Nat} (h : Own w base e v T) (hg : w.grownBy w' row) (hne : ∀ k, v.ownBlock = some k → some k ≠ row) : Own w' base e v T := by
  refine World.ownsRow.kept h hg ?_
  cases hv : v.ownBlock with
  | none => exact .inl rfl
  | some k => exact .inr (hne k hv)
theorem Own.view {w : World} {base : Nat} {e : TypeId} {v : Value} {T : List ByteArray} (h : Own w base e v T) : View w v T := by
  rcases h.form with ⟨rfl, rfl⟩ | ⟨g, c, rfl, _, hg⟩
  · exact ⟨_, _, rfl, fun h0 => absurd h0 (Nat.lt_irrefl _)⟩
  · exact ⟨_, _, rfl, fun _ => ⟨g, rfl, hg, fun i hi => (h.at rfl hi).1⟩⟩
theorem View.below {w w' : World} {v : Value} {T : List ByteArray} (h : View w v T) (hB : Below w.heap.size w w') : View w' v T := by
  obtain ⟨a, cap, e, hs⟩ := h
  refine ⟨a, cap, e, fun h0 => ?_⟩
  obtain ⟨b, e', hb, hc⟩ := hs h0
  exact ⟨b, e', Nat.lt_of_lt_of_le hb hB.size, fun i hi => (hB.cell (by exact hb)).trans (hc i hi)⟩
theorem own_nil (w : World) (base : Nat) (e : TypeId) : Own w base e (.slice none 0 0) [] := World.ownsRow_nil w base e 1
theorem own_empty (w : World) (e : TypeId) (base : Nat) (hb : base ≤ w.heap.size) : Own (w.alloc (.cells #[] e)) base e (.slice (some ⟨w.heap.size, 0, none⟩) 0 0) [] :=
  World.ownsRow_lit w #[] 0 hb (by unfold maxLen; omega) rfl
/-- the marks from k on -/
def marks (k n : Nat) : List ByteArray := (List.range n).map fun i => Fk.mt (k + i)
theorem marks_length (k n : Nat) : (marks k n).length = n := by simp [marks]
theorem marks_at (k n i : Nat) (h : i < n) : at_ (marks k n) i = Fk.mt (k + i) := by simp [at_, marks, List.getD, h]
def part (k : Nat) (T : List ByteArray) (j : Nat) : List ByteArray := marks k j ++ T.drop j
theorem part_none (k : Nat) (T : List ByteArray) : part k T 0 = T := by simp [part, marks]
theorem part_all (k : Nat) (T : List ByteArray) : part k T T.length = marks k T.length := by simp [part]
theorem part_length (k : Nat) (T : List ByteArray) (j : Nat) (h : j ≤ T.length) : (part k T j).length = T.length := by simp [part, marks_length]; omega
theorem part_step (k : Nat) (T : List ByteArray) (j : Nat) (h : j < T.length) : (part k T j).set j (Fk.mt (k + j)) = part k T (j + 1) := by
  unfold part
  rw [List.set_append_right _ _ (by rw [marks_length]; exact Nat.le_refl _), marks_length, Nat.sub_self, List.drop_eq_getElem_cons h, List.set_cons_zero]
  simp [marks, List.range_succ]
end Sk

set_option maxHeartbeats 2000000 in
theorem eqStringS_same (v1 v2 : Value) (T : List ByteArray) (w : World) (h1 : Sk.View w v1 T) (h2 : Sk.View w v2 T) (hl : T.length ≤ 1048576) :
    Calls Try.prog 13 #[v1, v2] w fun e w' => e = .returned (.bool true) ∧ Below w.heap.size w w' := by
  obtain ⟨a, cap, rfl, hs⟩ := h1
  obtain ⟨a2, cap2, rfl, hs2⟩ := h2
  go_enter Try.func13, Try.ntmps13
  go_wp2_with fail
  go_loopw [5] (fun i wr => ∃ k : Nat, k ≤ T.length ∧ i = .int .i64 k ∧ Below w.heap.size w wr) (fun i _ => T.length - (intOf i).toNat)
  case atStart => exact ⟨0, Nat.zero_le _, rfl, Below.refl _ _⟩
  case round =>
    obtain ⟨k, hk, rfl, bel⟩ := hrel
    by_cases hlt : k < T.length
    · obtain ⟨b, rfl, hb, hs1⟩ := hs (by omega)
      obtain ⟨b2, rfl, hb2, hs3⟩ := hs2 (by omega)
      have q0 : wr.cell? ⟨b, k, none⟩ = some (.string (Sk.at_ T k)) := (bel.cell (by exact hb)).trans (hs1 k hlt)
      have p0 : wr.cell? ⟨b2, k, none⟩ = some (.string (Sk.at_ T k)) := (bel.cell (by exact hb2)).trans (hs3 k hlt)
      clear hs hs2 hs1 hs3
      have r0 := cell_regrown q0
      have r1 := cell_regrown p0
      go_wp2_with fail
      refine wp_region_quiet_below (by kernel_rfl) (by kernel_rfl) ?_
      repeat (go_big_quiet_step (fail))
      refine wpQuiet_nil ?_
      intro w4 hw'
      obtain ⟨⟨dq, osq⟩, hw''⟩ := hw'
      have b4 : Below w.heap.size w w4 := by rw [hw'']; exact bel.trans ((below_regrown wr dq osq).mono bel.size)
      clear hw'' r0 r1 q0 p0
      go_wp2_with fail
      go_roundw
      case rel => exact ⟨k + 1, by omega, by go_num, b4⟩
      case measure => simp [intOf]; omega
    · have e : k = T.length := by omega
      subst e
      go_wp2_with fail
      go_ret
      exact ⟨rfl, bel⟩

set_option maxHeartbeats 2000000 in
theorem markStringS_any (v : Value) (T : List ByteArray) (k : Nat) (base : Nat) (w : World) (ho : Sk.Own w base 9 v T) (hl : T.length ≤ 1048576) (hk0 : 0 < k) (hk : k ≤ 1000) :
    Calls Try.prog 15 #[v, .int .i64 k] w fun e w' => (e = .returned (.int .i64 ((k + T.length : Nat) : Int)) ∧ Sk.Own w' base 9 v (Sk.marks k T.length)) ∧ w.grownBy w' v.ownBlock := by
  obtain ⟨a, cap, rfl⟩ := ho.slice
  have HO : Hid (Sk.Own w base 9 (.slice a T.length cap) T) := ho
  go_enter Try.func15, Try.ntmps15
  go_wp2_with fail
  go_loopw [1, 5] (fun q i wr => ∃ j m : Nat, j ≤ T.length ∧ q = .int .i64 (m : Int) ∧ i = .int .i64 j ∧ 0 < m ∧ m ≤ 99999990 ∧ Hid (m = k + j) ∧ Hid (Sk.Own wr base 9 (.slice a T.length cap) (Sk.part k T j)) ∧ Hid (w.grownBy wr (Value.slice a T.length cap).ownBlock)) (fun _ i _ => T.length - (intOf i).toNat)
  case atStart => exact ⟨0, k, Nat.zero_le _, rfl, rfl, hk0, by omega, rfl, (by rw [Sk.part_none]; exact ho), World.grownBy.refl _ _⟩
  case round =>
    obtain ⟨j, m, hj, rfl, rfl, hm0, hm1, HM, HP, HG⟩ := hrel
    by_cases hlt : j < T.length
    · obtain ⟨g, rfl⟩ : ∃ g, a = some ⟨g, 0, none⟩ := by
        rcases HO.out.form with ⟨h1, h2⟩ | ⟨g, c, h1, _⟩
        · rw [h2] at hlt; simp at hlt
        · simp only [Value.slice.injEq] at h1; exact ⟨g, h1.1⟩
      have hlp : T.length = (Sk.part k T j).length := (Sk.part_length k T j hj).symm
      have HL := Fk.hide hlp
      clear hlp
      go_wp2_with fail
      refine (markText_int _ m rfl _ hm0 (by omega)).mono ?_
      rintro e w1 ⟨rfl, b1⟩
      have O1 := Fk.hide (HP.out.below b1)
      have G1 := Fk.hide (Fk.grownBy_trans HG.out (Fk.grownBy_below _ b1))
      clear b1 HP HG
      obtain ⟨p0, p3⟩ := O1.out.at HL.out (k := j) (by have := HL.out; omega)
      obtain ⟨z, hz⟩ : ∃ z, z = Sk.at_ (Sk.part k T j) j := ⟨_, rfl⟩
      rw [← hz] at p0
      clear hz
      go_wp2_with fail
      go_roundw
      case rel =>
        refine ⟨j + 1, m + 1, by omega, by go_num, by go_num, by omega, ?_, ?_, ?_, ?_⟩
        · have := HM.out; omega
        · show m + 1 = _
          have := HM.out; omega
        · have := O1.out.put HL.out j (Fk.mt m)
          rw [HM.out, Sk.part_step k T j hlt] at this
          rw [HM.out]
          exact this
        · exact Fk.grownBy_trans G1.out (Fk.grownBy_setCell w1 g j _)
      case measure => simp [intOf]; omega
    · have e : j = T.length := by omega
      subst e
      go_wp2_with fail
      go_ret
      refine ⟨⟨by rw [HM.out]; rfl, ?_⟩, HG.out⟩
      have := HP.out
      rw [Sk.part_all] at this
      exact this

set_option maxHeartbeats 2000000 in
theorem heldStringS_any (v : Value) (n k : Nat) (w : World) (hv : Sk.View w v (Sk.marks k n)) (hl : n ≤ 1048576) (hk0 : 0 < k) (hk : k ≤ 1000) :
    Calls Try.prog 16 #[v, .int .i64 k] w fun e w' => e = .returned (.int .i64 ((k + n : Nat) : Int)) ∧ Below w.heap.size w w' := by
  obtain ⟨a, cap, rfl, hs⟩ := hv
  rw [Sk.marks_length] at *
  go_enter Try.func16, Try.ntmps16
  go_wp2_with fail
  go_loopw [1, 5] (fun q i wr => ∃ j m : Nat, j ≤ n ∧ q = .int .i64 (m : Int) ∧ i = .int .i64 j ∧ 0 < m ∧ m ≤ 99999990 ∧ Hid (m = k + j) ∧ Below w.heap.size w wr) (fun _ i _ => n - (intOf i).toNat)
  case atStart => exact ⟨0, k, Nat.zero_le _, rfl, rfl, hk0, by omega, rfl, Below.refl _ _⟩
  case round =>
    obtain ⟨j, m, hj, rfl, rfl, hm0, hm1, HM, bel⟩ := hrel
    by_cases hlt : j < n
    · obtain ⟨b, rfl, hb, hs1⟩ := hs (by omega)
      have q0 : wr.cell? ⟨b, j, none⟩ = some (.string (Fk.mt m)) := by
        rw [bel.cell (by exact hb), hs1 j hlt, Sk.marks_at k n j hlt, HM.out]
      clear hs hs1
      have r0 := cell_regrown q0
      have f0 : ∀ w', Calls Try.prog 31 #[.int .i64 (m : Int)] w' fun e w'' => e = .returned (.string (Fk.mt m)) ∧ Below w'.heap.size w' w'' := fun w' => markText_any m w' hm0 (by omega)
      go_wp2_with fail
      refine wp_region_quiet_below (by kernel_rfl) (by kernel_rfl) ?_
      repeat (go_big_quiet_step (exact Calls.regrown_of (f0 _)))
      refine wpQuiet_nil ?_
      intro w4 hw'
      obtain ⟨⟨dq, osq⟩, hw''⟩ := hw'
      have b4 : Below w.heap.size w w4 := by rw [hw'']; exact bel.trans ((below_regrown wr dq osq).mono bel.size)
      clear hw'' r0 f0 q0
      go_wp2_with fail
      go_roundw
      case rel =>
        refine ⟨j + 1, m + 1, by omega, by go_num, by go_num, by omega, ?_, ?_, b4⟩
        · have := HM.out; omega
        · show m + 1 = _
          have := HM.out; omega
      case measure => simp [intOf]; omega
    · have e : j = n := by omega
      subst e
      go_wp2_with fail
      go_ret
      exact ⟨by rw [HM.out]; rfl, bel⟩
end Go.Proofs.Ytmemlfpmmkdhmaa
