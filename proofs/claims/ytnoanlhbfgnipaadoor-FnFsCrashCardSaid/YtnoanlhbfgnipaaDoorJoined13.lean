/- Lists of numbers in memory, and the walks of the law's own functions on them: eq, mark, held. The walk of the specification's drawn files with a list of numbers. -/
import Derived.Test.YtnoanlhbfgnipaaDoorJoined9
import Derived.BigRegion
import Derived.Deep.RegionWith
import Derived.Lib.QuietBelow
import Derived.Test.YtnoanlhbfgnipaaDoorJoined2
namespace Go.Proofs.YtnoanlhbfgnipaaDoor
open Go.RowKit
set_option linter.unusedVariables false
set_option linter.unusedSimpArgs false
namespace Ik
def tc (T : List Int) : List Value := T.map (.int .i64)
def at_ (T : List Int) (i : Nat) : Int := T.getD i 0
def Own (w : World) (base : Nat) (e : TypeId) (v : Value) (T : List Int) : Prop := w.ownsRow base e 1 v T.length (tc T)
def View (w : World) (v : Value) (T : List Int) : Prop :=
  ∃ a cap, v = .slice a T.length cap ∧ (0 < T.length → ∃ b o, a = some ⟨b, o, none⟩ ∧ b < w.heap.size ∧ ∀ i, i < T.length → w.cell? ⟨b, o + i, none⟩ = some (.int .i64 (at_ T i)))
theorem tc_get (T : List Int) (i : Nat) (h : i < T.length) : (tc T)[i]? = some (.int .i64 (at_ T i)) := by simp [tc, at_, List.getD, h]
theorem Own.form {w : World} {base : Nat} {e : TypeId} {v : Value} {T : List Int} (h : Own w base e v T) : (v = .slice none 0 0 ∧ T = []) ∨ ∃ g c, v = .slice (some ⟨g, 0, none⟩) T.length c ∧ base ≤ g ∧ g < w.heap.size := by
  obtain ⟨_, hn | ⟨g, cap, cur, rfl, hb, hg, _⟩⟩ := h
  · exact .inl ⟨hn.1, List.length_eq_zero_iff.1 hn.2⟩
  · exact .inr ⟨g, cap, rfl, hb, (Array.getElem?_eq_some_iff.1 hg).1⟩
theorem Own.slice {w : World} {base : Nat} {e : TypeId} {v : Value} {T : List Int} (h : Own w base e v T) : ∃ a c, v = .slice a T.length c := by
  rcases h.form with ⟨rfl, rfl⟩ | ⟨g, c, rfl, _⟩
  · exact ⟨_, _, rfl⟩
  · exact ⟨_, _, rfl⟩
theorem Own.at {w : World} {base g cap n : Nat} {e : TypeId} {T : List Int} (h : Own w base e (.slice (some ⟨g, 0, none⟩) n cap) T) (hn : n = T.length) {k : Nat} (hk : k < T.length) :
    w.cell? ⟨g, k, none⟩ = some (.int .i64 (at_ T k)) ∧ w.frozen? ⟨g, k, none⟩ = false := by
  subst hn
  exact ⟨(World.ownsRow.cellAt h k (by omega)).trans (tc_get T k hk), World.ownsRow.frozenAt h k⟩
theorem Own.put {w : World} {base g cap n : Nat} {e : TypeId} {T : List Int} (h : Own w base e (.slice (some ⟨g, 0, none⟩) n cap) T) (hn : n = T.length) (k : Nat) (s : Int) :
    Own (w.setCell ⟨g, k, none⟩ (.int .i64 s)) base e (.slice (some ⟨g, 0, none⟩) n cap) (T.set k s) := by
  subst hn
  have := (World.ownsRow.stored h k (.int .i64 s)).1
  unfold Own
  rw [List.length_set]
  have e : tc (T.set k s) = (tc T).set k (.int .i64 s) := by simp [tc, List.map_set]
  rw [e]
  exact this
theorem Own.below {w w' : World} {base : Nat} {e : TypeId} {v : Value} {T : List Int} (h : Own w base e v T) (hB : Below w.heap.size w w') : Own w' base e v T := Fk.owns_below h hB
theorem Own.kept {w w' : World} {base : Nat} {e : TypeId} {v : Value} {T : List Int} {row : Option Nat} (h : Own w base e v T) (hg : w.grownBy w' row) (hne : ∀ k, v.ownBlock = some k → some k ≠ row) : Own w' base e v T := by
  refine World.ownsRow.kept h hg ?_
  cases hv : v.ownBlock with
  | none => exact .inl rfl
  | some k => exact .inr (hne k hv)
theorem Own.view {w : World} {base : Nat} {e : TypeId} {v : Value} {T : List Int} (h : Own w base e v T) : View w v T := by
  rcases h.form with ⟨rfl, rfl⟩ | ⟨g, c, rfl, _, hg⟩
  · exact ⟨_, _, rfl, fun h0 => absurd h0 (Nat.lt_irrefl _)⟩
  · exact ⟨_, _, rfl, fun _ => ⟨g, 0, rfl, hg, fun i hi => by rw [Nat.zero_add]; exact (h.at rfl hi).1⟩⟩
theorem View.below {w w' : World} {v : Value} {T : List Int} (h : View w v T) (hB : Below w.heap.size w w') : View w' v T := by
  obtain ⟨a, cap, e, hs⟩ := h
  refine ⟨a, cap, e, fun h0 => ?_⟩
  obtain ⟨b, o, e', hb, hc⟩ := hs h0
  exact ⟨b, o, e', Nat.lt_of_lt_of_le hb hB.size, fun i hi => (hB.cell (by exact hb)).trans (hc i hi)⟩
theorem own_nil (w : World) (base : Nat) (e : TypeId) : Own w base e (.slice none 0 0) [] := World.ownsRow_nil w base e 1
theorem own_empty (w : World) (e : TypeId) (base : Nat) (hb : base ≤ w.heap.size) : Own (w.alloc (.cells #[] e)) base e (.slice (some ⟨w.heap.size, 0, none⟩) 0 0) [] :=
  World.ownsRow_lit w #[] 0 hb (by unfold maxLen; omega) rfl
/-- the marks from k on -/
def marks (k n : Nat) : List Int := (List.range n).map fun i => ((k + i : Nat) : Int)
theorem marks_length (k n : Nat) : (marks k n).length = n := by simp [marks]
theorem marks_at (k n i : Nat) (h : i < n) : at_ (marks k n) i = ((k + i : Nat) : Int) := by simp [at_, marks, List.getD, h]
def part (k : Nat) (T : List Int) (j : Nat) : List Int := marks k j ++ T.drop j
theorem part_none (k : Nat) (T : List Int) : part k T 0 = T := by simp [part, marks]
theorem part_all (k : Nat) (T : List Int) : part k T T.length = marks k T.length := by simp [part]
theorem part_length (k : Nat) (T : List Int) (j : Nat) (h : j ≤ T.length) : (part k T j).length = T.length := by simp [part, marks_length]; omega
theorem part_step (k : Nat) (T : List Int) (j : Nat) (h : j < T.length) : (part k T j).set j (((k + j : Nat) : Int)) = part k T (j + 1) := by
  unfold part
  rw [List.set_append_right _ _ (by rw [marks_length]; exact Nat.le_refl _), marks_length, Nat.sub_self, List.drop_eq_getElem_cons h, List.set_cons_zero]
  simp [marks, List.range_succ]
theorem made (n : Nat) : (madeCells (Value.int .i64 0).cells n).toList = List.replicate n (.int .i64 0) := by
  have e : (Value.int .i64 0).cells = #[.int .i64 0] := rfl
  rw [e]
  apply List.ext_getElem?
  intro i
  by_cases h : i < n <;> simp [madeCells, List.getElem?_replicate, h, Nat.mod_one]
/-- the first numbers, and zeros behind them -/
def fill (T : List Int) (k : Nat) : List Int := T.take k ++ List.replicate (T.length - k) 0
theorem fill_length (T : List Int) (k : Nat) (h : k ≤ T.length) : (fill T k).length = T.length := by simp [fill]; omega
theorem fill_all (T : List Int) : fill T T.length = T := by simp [fill]
theorem fill_step (T : List Int) (k : Nat) (h : k < T.length) : (fill T k).set k (at_ T k) = fill T (k + 1) := by
  unfold fill
  rw [List.set_append_right _ _ (by simp; omega)]
  have e : k - (T.take k).length = 0 := by simp; omega
  rw [e, show T.length - k = (T.length - (k + 1)) + 1 by omega, List.replicate_succ, List.set_cons_zero]
  have e2 : T.take (k + 1) = T.take k ++ [at_ T k] := by rw [List.take_add_one]; simp [at_, List.getD, h]
  rw [e2]
  simp
end Ik
theorem infoI64 : (Tryd.prog.info? 2).map (fun i => (i.zero, i.size, i.bytes)) = some (some (.int .i64 0), 1, 8) := by kernel_rfl


set_option maxHeartbeats 2000000 in
theorem keepAt_any (v : Value) (T : List Int) (k : Nat) (m : Int) (hm : m = if k < T.length then max (Ik.at_ T k) 0 else 0) (w : World) (hv : Ik.View w v T) (hl : T.length ≤ 1048576) (hk : k ≤ 1048576) :
    Calls Tryd.prog 90 #[v, .int .i64 k] w fun e w' => e = .returned (.int .i64 m) ∧ Below w.heap.size w w' := by
  obtain ⟨a, cap, rfl, hs⟩ := hv
  by_cases hlt : k < T.length
  · obtain ⟨b, o, rfl, hb, hs1⟩ := hs (by omega)
    have q0 := hs1 k hlt
    rw [if_pos hlt] at hm
    obtain ⟨x, hx⟩ : ∃ x, x = Ik.at_ T k := ⟨_, rfl⟩
    rw [← hx] at q0 hm
    clear hs hs1 hx
    by_cases h0 : 0 ≤ x
    · have e : m = x := by omega
      subst e
      clear hm
      go_enter Tryd.func90, Tryd.ntmps90
      go_wp2_with fail
      go_ret
      exact ⟨rfl, Below.refl _ _⟩
    · have e : m = 0 := by omega
      subst e
      clear hm
      have h1 : x < 0 := by omega
      go_enter Tryd.func90, Tryd.ntmps90
      go_wp2_with fail
      go_ret
      exact ⟨rfl, Below.refl _ _⟩
  · rw [if_neg hlt] at hm
    subst hm
    clear hs
    go_enter Tryd.func90, Tryd.ntmps90
    go_wp2_with fail
    go_ret
    exact ⟨rfl, Below.refl _ _⟩
end Go.Proofs.YtnoanlhbfgnipaaDoor

namespace Go.Proofs.YtnoanlhbfgnipaaDoor
open Go.RowKit
set_option linter.unusedVariables false
set_option linter.unusedSimpArgs false
namespace Dk
/-- memory that has grown but for a block behind z, where all that is held lies ahead of z -/
theorem Bx.row {B S fb z : Nat} {w wr w' : World} {u : Value} {R : List Fk.Fl} {r : Option Nat} (h : Bx B S w wr fb u R) (hg : wr.grownBy w' r) (hz : ∀ j, r = some j → z ≤ j) (hf : fb < z) (hS : S < z) (hu : ∀ g, u.ownBlock = some g → g < z) (hB : B ≤ S) : Bx B S w w' fb u R := by
  obtain ⟨h1, ⟨r1, r2⟩, h3, h4, h5, ⟨h6, h7, h8, h9⟩, h10⟩ := h
  have hw : w.heap.size < wr.heap.size := by omega
  have ne : ∀ b, b < z → some b ≠ r := fun b hb e => by have := hz b e.symm; omega
  refine ⟨(hg.cell_far ⟨fb, 0, none⟩ h7 (ne fb hf)).trans h1, ⟨(hg.cell_far ⟨w.heap.size, 0, none⟩ hw (ne _ (by show w.heap.size < z; omega))).trans r1, fun j => (hg.frozen_far ⟨w.heap.size, j, none⟩ hw (ne _ (by show w.heap.size < z; omega))).trans (r2 j)⟩, World.ownsRow.kept h3 hg ?_, h4.far hg (ne S hS) (fun b hb => ne b (by omega)), h5.grown hg (by omega) (fun j hj => by have := hz j hj; omega), ⟨h6, Nat.lt_of_lt_of_le h7 hg.size, h8, h9⟩, h10⟩
  cases hv : u.ownBlock with
  | none => exact .inl rfl
  | some g => exact .inr (ne g (hu g hv))
end Dk

set_option maxHeartbeats 8000000 in
theorem drawFsCrash_any (B : Nat) (a : Option Addr) (n c : Nat) (w : World) (hB : B ≤ w.heap.size) (hn : n ≤ 1048576) (hby : Dk.Bytes B w a n) :
    Calls Tryd.prog 26 #[.slice a n c] w fun e w' => (∃ u R v T, e = .returned (.tuple #[.agg #[u], v]) ∧ Fk.Own w' w.heap.size 53 u R ∧ Dk.Fit R ∧ R.length ≤ 2000 ∧ Ik.Own w' w.heap.size 2 v T ∧ T.length ≤ 10) ∧ Below w.heap.size w w' := by
  have b0 : Below w.heap.size w (w.alloc (.cells #[.slice none 0 0] 25)) := (Below.refl _ _).alloc (Nat.le_refl _) _
  have hby0 := Fk.hide (hby.grown hB (Fk.grownBy_below none b0) (fun _ _ => by simp))
  obtain ⟨W0, hW0⟩ : ∃ W, W = w.alloc (.cells #[.slice none 0 0] 25) := ⟨_, rfl⟩
  have r0 : W0.cell? ⟨w.heap.size, 0, none⟩ = some (.slice none 0 0) := by rw [hW0, Fk.cellTop _ _ _ _ _ rfl]; rfl
  have f0 : ∀ j, W0.frozen? ⟨w.heap.size, j, none⟩ = false := fun j => by rw [hW0, Fk.frozTop _ _ _ _ _ rfl]
  have hz0 : W0.heap.size = w.heap.size + 1 := by rw [hW0]; simp
  rw [← hW0] at b0 hby0
  have HW0 := Fk.hide hW0
  have H0 := Fk.hide (⟨b0, r0, f0, hz0⟩ : Below w.heap.size w W0 ∧ _ ∧ (∀ j, _) ∧ _)
  clear hW0 b0 r0 f0 hz0 hby
  go_enter Tryd.func26, Tryd.ntmps26
  go_wp2_with fail
  rw [← HW0.out]
  refine (source_any B a n c W0 (by have := H0.out.2.2.2; omega) hn hby0.out).mono ?_
  rintro e w1 ⟨rfl, s1, b1⟩
  obtain ⟨S, hS⟩ : ∃ S, S = W0.heap.size := ⟨_, rfl⟩
  rw [← hS] at s1 ⊢
  have H1 : Hid (Dk.Src B w1 S ∧ Below w.heap.size w w1 ∧ (w1.cell? ⟨w.heap.size, 0, none⟩ = some (.slice none 0 0) ∧ ∀ j, w1.frozen? ⟨w.heap.size, j, none⟩ = false) ∧ S = w.heap.size + 1 ∧ S < w1.heap.size) := by
    obtain ⟨q1, q2, q3, q4⟩ := H0.out
    exact ⟨s1, q1.trans (b1.mono (by omega)), ⟨(b1.cell (by show w.heap.size < _; omega)).trans q2, fun j => (b1.frozen (by show w.heap.size < _; omega)).trans (q3 j)⟩, by rw [hS]; exact q4, s1.lt.2⟩
  clear hS s1 b1 HW0 H0 hby0
  go_wp2_with fail
  refine (drawFs_any B S w1 H1.out.1).mono ?_
  rintro e w2 ⟨⟨u, R, rfl, ho, hf, hRl⟩, s2, g2⟩
  obtain ⟨ua, un, uc, rfl⟩ := ho.slice'
  obtain ⟨fb, hfb⟩ : ∃ b, b = w2.heap.size := ⟨_, rfl⟩
  have H2 : Hid (Dk.Bx B S w (w2.alloc (.cells #[.slice ua un uc] 25)) fb (.slice ua un uc) R) := by
    obtain ⟨q1, q2, ⟨q3, q4⟩, q5, q6⟩ := H1.out
    have bb : Below w2.heap.size w2 (w2.alloc (.cells #[.slice ua un uc] 25)) := (Below.refl _ _).alloc (Nat.le_refl _) _
    have hz := g2.size
    have hne : some w.heap.size ≠ some S := fun e => by have h9 : w.heap.size = S := Option.some.inj e; omega
    have e1 := (g2.cell_far ⟨w.heap.size, 0, none⟩ (by show w.heap.size < _; omega) hne).trans q3
    have e2 : ∀ j, w2.frozen? ⟨w.heap.size, j, none⟩ = false := fun j => (g2.frozen_far ⟨w.heap.size, j, none⟩ (by show w.heap.size < _; omega) hne).trans (q4 j)
    have e3 : Below w.heap.size w w2 := q2.grown g2 (by omega) (fun j hj => by have h9 : S = j := Option.some.inj hj; omega)
    subst hfb
    exact ⟨by rw [Fk.cellTop _ _ _ _ _ rfl]; rfl, ⟨(bb.cell (by show w.heap.size < _; omega)).trans e1, fun j => (bb.frozen (by show w.heap.size < _; omega)).trans (e2 j)⟩, Fk.Own.mono (Fk.Own.below ho bb) (by omega), s2.below bb, e3.trans (bb.mono (by omega)), ⟨by omega, by simp, by omega, by omega⟩, fun e => by have := (World.ownsRow.lt ho S e).1; omega⟩
  have HF := Fk.hide hf
  obtain ⟨W2, hW2⟩ : ∃ W, W = w2.alloc (.cells #[.slice ua un uc] 25) := ⟨_, rfl⟩
  have HW2 := Fk.hide hW2
  have HFB := Fk.hide hfb
  rw [← hW2] at H2
  clear hf ho s2 g2 H1 hW2 hfb
  obtain ⟨z, hz⟩ : ∃ z, z = W2.heap.size := ⟨_, rfl⟩
  have HZ : Hid (fb < z ∧ S < z ∧ (∀ g, (Value.slice ua un uc).ownBlock = some g → g < z) ∧ B ≤ S ∧ w.heap.size < z) := by
    rw [hz]
    exact ⟨H2.out.2.2.2.2.2.1.2.1, H2.out.2.2.2.1.lt.2, fun g hg => (World.ownsRow.lt H2.out.2.2.1 g hg).2, H2.out.2.2.2.1.lt.1, by have := H2.out.2.2.2.2.2.1; omega⟩
  have H3 := Fk.hide (H2.out.below ((Below.refl _ _).alloc (Nat.le_refl _) (.cells #[] 2)))
  have HL3 : Hid (Ik.Own (W2.alloc (.cells #[] 2)) z 2 (.slice (some ⟨z, 0, none⟩) 0 0) []) := by
    rw [hz]
    exact Ik.own_empty W2 _ _ (Nat.le_refl _)
  have hzW : z ≤ (W2.alloc (.cells #[] 2)).heap.size := by rw [hz]; simp
  have HZW := Fk.hide hzW
  have HZ0 : Hid (z = fb + 1) := by show z = fb + 1; rw [hz, HW2.out, HFB.out]; simp
  clear hz hzW
  obtain ⟨i0, hi, hz0, hz1, hz2⟩ := info_parts infoI64
  go_wp2_with fail
  rw [← HW2.out, ← HFB.out, ← HZ0.out]
  refine (drawN_any B S 6 _ H3.out.2.2.2.1 (by omega)).mono ?_
  rintro e w4 ⟨⟨k0, rfl, hk0, hk1, _⟩, s4, g4⟩
  have hk := hk1 (by omega)
  have H4 := Fk.hide (H3.out.draw s4 g4)
  have HL4 : Hid (Ik.Own w4 z 2 (.slice (some ⟨z, 0, none⟩) 0 0) []) := HL3.out.kept g4 (fun k hk e => by have h9 : z = k := Option.some.inj hk; have h8 : k = S := Option.some.inj e; have := HZ.out; omega)
  have HZ4 : Hid (z ≤ w4.heap.size) := Nat.le_trans HZW.out g4.size
  clear s4 g4 hk1 H3 HL3 HZW HW2 HFB H2
  go_wp2_with fail
  go_loopw [6, 7] (fun l i wr => ∃ (k : Int) (T : List Int), i = .int .i64 k ∧ 0 ≤ k ∧ k ≤ 5 ∧ (T.length : Int) + k ≤ 5 ∧ Hid (Dk.Bx B S w wr fb (.slice ua un uc) R) ∧ Hid (Ik.Own wr z 2 l T) ∧ Hid (z ≤ wr.heap.size)) (fun _ i _ => (intOf i).toNat)
  case atStart => exact ⟨k0, [], rfl, hk0, by omega, by simp; omega, H4.out, HL4.out, HZ4.out⟩
  case round =>
    obtain ⟨k, T, rfl, hk0, hk5, hTk, HX, HT, HZR⟩ := hrel
    obtain ⟨m, hm⟩ : ∃ m, m = T.length := ⟨_, rfl⟩
    have HM := Fk.hide hm
    rw [← hm] at hTk
    clear hm
    by_cases hlt : 0 < k
    · go_wp2_with fail
      refine (drawN_any B S 6 _ HX.out.2.2.2.1 (by omega)).mono ?_
      rintro e w5 ⟨⟨r, rfl, hr0, hr1, _⟩, s5, g5⟩
      have hr := hr1 (by omega)
      have H5 := Fk.hide (HX.out.draw s5 g5)
      have HT5 := Fk.hide (HT.out.kept g5 (fun k hk e => by have h9 := (World.ownsRow.lt HT.out k hk).1; have h8 : k = S := Option.some.inj e; have := HZ.out; omega))
      have HZ5 : Hid (z ≤ w5.heap.size) := Nat.le_trans HZR.out g5.size
      have hown : w5.ownsRow z 2 1 u6 m (Ik.tc T) := by have h9 := HT5.out; unfold Ik.Own at h9; rw [← HM.out] at h9; exact h9
      clear s5 g5 hr1
      go_wp2_with (at_builtin; refine wpList_append_own _ rfl _ _ 41 rfl z 2 i0 (.int .i64 0) 1 8 Tryd.underlying41 hi hz0 (by assumption) hz2 rfl (by decide) _ _ _ rfl (hown.alloc _) ⟨w5.heap.size, 0, none⟩ 1 1 [.int .i64 (r - 1)] rfl rfl ?c1 ?c2 ?c3 ?c4 ?c5 ?_)
      try (case c1 => exact cell_one_new _ _ _)
      case c2 => first | rfl | (intro u hu; simp at hu; subst hu; rfl)
      case c3 => unfold maxLen; omega
      case c4 => omega
      case c5 => have := HZ5.out; simp; omega
      · intro v' w6 hown' hgrow _
        have H6 := Fk.hide ((H5.out.below ((Below.refl _ _).alloc (Nat.le_refl _) _)).row hgrow (fun j hj => (World.ownsRow.lt hown j hj).1) HZ.out.1 HZ.out.2.1 HZ.out.2.2.1 HZ.out.2.2.2.1)
        have HT6 : Hid (Ik.Own w6 z 2 v' (T ++ [r - 1])) := by
          show w6.ownsRow _ _ _ _ _ _
          rw [List.length_append, ← HM.out]
          simpa [Ik.tc] using hown'
        have HZ6 : Hid (z ≤ w6.heap.size) := Nat.le_trans (Nat.le_trans HZ5.out (by simp)) hgrow.size
        have HL6 : Hid ((T ++ [r - 1]).length = m + 1) := by show _ = _; rw [List.length_append, HM.out]; rfl
        clear hown' hgrow hown
        go_wp2
        go_roundw
        case rel => exact ⟨k - 1, T ++ [r - 1], by go_num, by omega, by omega, by rw [HL6.out]; omega, H6.out, HT6.out, HZ6.out⟩
        case measure => simp [intOf]; omega
    · have c4 := HX.out.1
      have r4 := HX.out.2.1.1
      have f4 := HX.out.2.1.2
      have HE := Fk.hide HX.out.done
      have HN : Hid (Ik.Own (wr.setCell ⟨w.heap.size, 0, none⟩ (.slice ua un uc)) w.heap.size 2 u6 T) := by
        have h9 := ownsRow_setCell_below HT.out (by show w.heap.size < z; exact HZ.out.2.2.2.2) (.slice ua un uc) (a := ⟨w.heap.size, 0, none⟩)
        obtain ⟨q1, q2⟩ := h9
        refine ⟨q1, ?_⟩
        rcases q2 with q2 | ⟨g, cap, cur, q3, q4, q5⟩
        · exact .inl q2
        · exact .inr ⟨g, cap, cur, q3, Nat.le_trans (Nat.le_of_lt HZ.out.2.2.2.2) q4, q5⟩
      have g1 : (wr.setCell ⟨w.heap.size, 0, none⟩ (.slice ua un uc)).cell? ⟨w.heap.size, 0, none⟩ = some (.slice ua un uc) := World.cell?_setCell_same _ _ _ r4
      have HT10 : Hid (T.length ≤ 10) := by have := HM.out; show T.length ≤ 10; omega
      go_wp2_with fail
      refine bodyPost_ret (v := .tuple #[.agg #[.slice ua un uc], u6]) (by simp [results, Tryd.results26, go_sem, g1]) rfl ?_
      exact ⟨⟨_, R, u6, rfl, HE.out.1, HF.out, hRl, T, HN.out, HT10.out⟩, HE.out.2⟩
end Go.Proofs.YtnoanlhbfgnipaaDoor
