/- Lists of texts in memory, and the walks of the law's own functions on them: eq, mark, held. The walk of the law's comparison of two lists of texts. The walks of the law's own comparisons of files: what is alike is told alike. The walk of the law's comparison of two answers of JournalRead. What the law's comparison of files but for two names keeps from round to round. No function of the program here. The walk of the law's comparison of files but for two names. What is kept while new memory is made. No function of the program here. -/
import Derived.Test.YtojdfdlbdpdlkaaGreatDoorJoined1
import Derived.BigRegion
import Derived.Deep.RegionWith
import Derived.Lib.QuietBelow
import Derived.Test.YtojdfdlbdpdlkaaGreatDoorJoined5
import Derived.Test.YtojdfdlbdpdlkaaGreatDoorFsRightSpec
import Derived.Deep.RegionHeld3
import Derived.Test.YtojdfdlbdpdlkaaGreatDoorFsKit
import Derived.Test.YtojdfdlbdpdlkaaGreatDoorFsMap
import Derived.Test.YtojdfdlbdpdlkaaGreatDoorJoined7
import Derived.Deep.AppendLies
import Derived.Test.YtojdfdlbdpdlkaaGreatDoorJoined8
import Derived.Deep.RegionLaw
import Derived.Test.YtojdfdlbdpdlkaaGreatDoorDraws
namespace Go.Proofs.YtojdfdlbdpdlkaaGreatDoor
open Go.RowKit
set_option linter.unusedVariables false
set_option linter.unusedSimpArgs false
namespace Sk
/-- the marks from k on -/
def marks (k n : Nat) : List ByteArray := (List.range n).map fun i => Fk.mt (k + i)
theorem marks_length (k n : Nat) : (marks k n).length = n := by simp [marks]
theorem marks_at (k n i : Nat) (h : i < n) : at_ (marks k n) i = Fk.mt (k + i) := by simp [at_, marks, List.getD, h]
def part (k : Nat) (T : List ByteArray) (j : Nat) : List ByteArray := marks k j ++ T.drop j
theorem part_none (k : Nat) (T : List ByteArray) : part k T 0 = T := by simp [part, marks]
theorem part_all (k : Nat) (T : List ByteArray) : part k T T.length = marks k T.length := by simp [part]
theorem part_length (k : Nat) (T : List ByteArray) (j : Nat) (h : j ≤ T.length) : (part k T j).length = T.length := by simp [part, marks_length]; omega
theorem part_step (k : Nat) (T : List ByteArray) (j : Nat) (h : j < T.length) : (part k T j).set j (Fk.mt (k + j)) = part k T (j + 1) := by
  unfold part
  rw [List.set_append_right _ _ (by rw [marks_length]; exact Nat.le_refl _), marks_length, Nat.sub_self, List.drop_eq_getElem_cons h, List.set_cons_zero]
  simp [marks, List.range_succ]
end Sk


end Go.Proofs.YtojdfdlbdpdlkaaGreatDoor

namespace Go.Proofs.YtojdfdlbdpdlkaaGreatDoor
open Go.RowKit
set_option linter.unusedVariables false
set_option linter.unusedSimpArgs false

set_option maxHeartbeats 2000000 in
theorem lwTexts_same (v1 v2 : Value) (T : List ByteArray) (w : World) (h1 : Sk.View w v1 T) (h2 : Sk.View w v2 T) (hl : T.length ≤ 1048576) :
    Calls Tryz.prog 18 #[v1, v2] w fun e w' => e = .returned (.bool true) ∧ Below w.heap.size w w' := by
  obtain ⟨a, cap, rfl, hs⟩ := h1
  obtain ⟨a2, cap2, rfl, hs2⟩ := h2
  go_enter Tryz.func18, Tryz.ntmps18
  go_wp2_with fail
  go_loopw [5] (fun i wr => ∃ k : Nat, k ≤ T.length ∧ i = .int .i64 k ∧ Below w.heap.size w wr) (fun i _ => T.length - (intOf i).toNat)
  case atStart => exact ⟨0, Nat.zero_le _, rfl, Below.refl _ _⟩
  case round =>
    obtain ⟨k, hk, rfl, bel⟩ := hrel
    by_cases hlt : k < T.length
    · obtain ⟨b, rfl, hb, hs1⟩ := hs (by omega)
      obtain ⟨b2, rfl, hb2, hs3⟩ := hs2 (by omega)
      have q0 : wr.cell? ⟨b, k, none⟩ = some (.string (Sk.at_ T k)) := (bel.cell (by exact hb)).trans (hs1 k hlt)
      have p0 : wr.cell? ⟨b2, k, none⟩ = some (.string (Sk.at_ T k)) := (bel.cell (by exact hb2)).trans (hs3 k hlt)
      clear hs hs2 hs1 hs3
      have r0 := cell_regrown q0
      have r1 := cell_regrown p0
      go_wp2_with fail
      refine wp_region_quiet_below (by kernel_rfl) (by kernel_rfl) ?_
      repeat (go_big_quiet_step (fail))
      refine wpQuiet_nil ?_
      intro w4 hw'
      obtain ⟨⟨dq, osq⟩, hw''⟩ := hw'
      have b4 : Below w.heap.size w w4 := by rw [hw'']; exact bel.trans ((below_regrown wr dq osq).mono bel.size)
      clear hw'' r0 r1 q0 p0
      go_wp2_with fail
      go_roundw
      case rel => exact ⟨k + 1, by omega, by go_num, b4⟩
      case measure => simp [intOf]; omega
    · have e : k = T.length := by omega
      subst e
      go_wp2_with fail
      go_ret
      exact ⟨rfl, bel⟩
end Go.Proofs.YtojdfdlbdpdlkaaGreatDoor

namespace Go.Proofs.YtojdfdlbdpdlkaaGreatDoor
open Go.RowKit
set_option linter.unusedVariables false
set_option linter.unusedSimpArgs false

set_option maxHeartbeats 4000000 in
theorem lwFiles_same (v1 v2 : Value) (L : List Fk.Fl) (w : World) (h1 : Fk.View w v1 L) (h2 : Fk.View w v2 L) (hl : L.length ≤ 1048576) :
    Calls Tryz.prog 32 #[.agg #[v1], .agg #[v2]] w fun e w' => e = .returned (.bool true) ∧ Below w.heap.size w w' := by
  have b0 : Below w.heap.size w ((w.alloc (.cells #[v1] 25)).alloc (.cells #[v2] 25)) := by
    repeat (first | exact Below.refl _ _ | refine Below.alloc ?_ (by simp <;> omega) _)
  obtain ⟨a, cap, rfl, hs⟩ := h1
  obtain ⟨a2, cap2, rfl, hs2⟩ := h2
  obtain ⟨n, hn⟩ : ∃ n, n = L.length := ⟨_, rfl⟩
  rw [← hn] at hs hs2 hl b0 ⊢
  obtain ⟨W, hW⟩ : ∃ W, W = (w.alloc (.cells #[.slice a n cap] 25)).alloc (.cells #[.slice a2 n cap2] 25) := ⟨_, rfl⟩
  have c1 : W.cell? ⟨w.heap.size, 0, none⟩ = some (.slice a n cap) := by rw [hW, Fk.cellOld _ _ _ _ (by simp), Fk.cellTop _ _ _ _ _ rfl]; rfl
  have c2 : W.cell? ⟨w.heap.size + 1, 0, none⟩ = some (.slice a2 n cap2) := by rw [hW, Fk.cellTop _ _ _ _ _ (by simp)]; rfl
  rw [← hW] at b0
  have HW := Fk.hide hW
  have HB := Fk.hide b0
  have HN := Fk.hide hn
  clear hW hn b0
  go_enter Tryz.func32, Tryz.ntmps32
  go_wp2_with fail
  rw [← HW.out]
  go_loopw [5] (fun i wr => ∃ k : Nat, k ≤ n ∧ i = .int .i64 k ∧ Hid (Below W.heap.size W wr)) (fun i _ => n - (intOf i).toNat)
  case atStart => exact ⟨0, Nat.zero_le _, rfl, Below.refl _ _⟩
  case round =>
    obtain ⟨k, hk, rfl, bel⟩ := hrel
    have d1 := (bel.out.cell (p := ⟨w.heap.size, 0, none⟩) (World.block_lt_of_cell? _ _ c1)).trans c1
    have d2 := (bel.out.cell (p := ⟨w.heap.size + 1, 0, none⟩) (World.block_lt_of_cell? _ _ c2)).trans c2
    by_cases hlt : k < n
    · have hkL : k < L.length := by have := HN.out; omega
      obtain ⟨b, o, rfl, hb, hs1⟩ := hs (by omega)
      obtain ⟨b2, o2, rfl, hb2, hs3⟩ := hs2 (by omega)
      have bw : Below w.heap.size w wr := HB.out.trans (bel.out.mono HB.out.size)
      have hs' := hs1.below hb bw
      have q0 := hs'.c0 k hkL
      have q1 := hs'.c1 k hkL
      have q2 := hs'.c2 k hkL
      have hs'' := hs3.below hb2 bw
      have p0 := hs''.c0 k hkL
      have p1 := hs''.c1 k hkL
      have p2 := hs''.c2 k hkL
      have e0 : (0 : Int) ≤ (k : Int) := by omega
      have e1 : (k : Int) < (n : Int) := by omega
      have HD : Hid (Below W.heap.size W wr.drew) := Below.drew bel.out
      clear hs' hs'' hs hs2 hs1 hs3 bw hkL c1 c2
      go_wp2_with fail
      go_region_held3 (fun w' => w'.cell? ⟨w.heap.size, 0, none⟩ = some (.slice (some ⟨b, o, none⟩) n cap) ∧ w'.cell? ⟨w.heap.size + 1, 0, none⟩ = some (.slice (some ⟨b2, o2, none⟩) n cap2) ∧ w'.cell? ⟨b, o + k * 3, none⟩ = some (.string (Fk.nm L k)) ∧ w'.cell? ⟨b, o + k * 3 + 1, none⟩ = some (.string (Fk.dt L k)) ∧ w'.cell? ⟨b, o + k * 3 + 2, none⟩ = some (.int .i64 (Fk.sy L k)) ∧ w'.cell? ⟨b2, o2 + k * 3, none⟩ = some (.string (Fk.nm L k)) ∧ w'.cell? ⟨b2, o2 + k * 3 + 1, none⟩ = some (.string (Fk.dt L k)) ∧ w'.cell? ⟨b2, o2 + k * 3 + 2, none⟩ = some (.int .i64 (Fk.sy L k)))
        (go_keep) (fail)
      clear q0 q1 q2 p0 p1 p2 d1 d2 e0 e1
      go_wp2_with fail
      go_roundw
      case rel => exact ⟨k + 1, by omega, by go_num, HD.out⟩
      case measure => simp [intOf]; omega
    · have e : k = n := by omega
      subst e
      have HE : Hid (Below w.heap.size w wr) := HB.out.trans (bel.out.mono HB.out.size)
      go_wp2_with fail
      go_ret
      exact ⟨rfl, HE.out⟩

set_option maxHeartbeats 4000000 in
theorem lwFs_same (v1 v2 : Value) (L : List Fk.Fl) (c : Int) (w : World) (h1 : Fk.View w v1 L) (h2 : Fk.View w v2 L) (hL : Fk.Fits L) (hl : L.length ≤ 12) (hr : c = 0 → Fk.right L = true) :
    Calls Tryz.prog 10 #[.agg #[v1, .int .i64 c], .agg #[v2, .int .i64 c]] w fun e w' => e = .returned (.bool true) ∧ Below w.heap.size w w' := by
  have b0 : Below w.heap.size w ((w.alloc (.cells #[v1, .int .i64 c] 29)).alloc (.cells #[v2, .int .i64 c] 29)) := by
    repeat (first | exact Below.refl _ _ | refine Below.alloc ?_ (by simp <;> omega) _)
  have g1 := h1.below b0
  have g2 := h2.below b0
  obtain ⟨a, cap, rfl, _⟩ := h1
  obtain ⟨a2, cap2, rfl, _⟩ := h2
  obtain ⟨n, hn⟩ : ∃ n, n = L.length := ⟨_, rfl⟩
  rw [← hn] at g1 g2 b0 ⊢
  obtain ⟨W, hW⟩ : ∃ W, W = (w.alloc (.cells #[.slice a n cap, .int .i64 c] 29)).alloc (.cells #[.slice a2 n cap2, .int .i64 c] 29) := ⟨_, rfl⟩
  have c1 : W.cell? ⟨w.heap.size, 0, none⟩ = some (.slice a n cap) := by rw [hW, Fk.cellOld _ _ _ _ (by simp), Fk.cellTop _ _ _ _ _ rfl]; rfl
  have c2 : W.cell? ⟨w.heap.size, 1, none⟩ = some (.int .i64 c) := by rw [hW, Fk.cellOld _ _ _ _ (by simp), Fk.cellTop _ _ _ _ _ rfl]; rfl
  have c3 : W.cell? ⟨w.heap.size + 1, 0, none⟩ = some (.slice a2 n cap2) := by rw [hW, Fk.cellTop _ _ _ _ _ (by simp)]; rfl
  have c4 : W.cell? ⟨w.heap.size + 1, 1, none⟩ = some (.int .i64 c) := by rw [hW, Fk.cellTop _ _ _ _ _ (by simp)]; rfl
  rw [← hW] at b0 g1 g2
  have HW := Fk.hide hW
  have HB := Fk.hide b0
  have HG := Fk.hide (⟨g1, g2⟩ : _ ∧ _)
  have HR := Fk.hide hr
  have HF := Fk.hide hL
  clear hW hn b0 g1 g2 hr hL
  go_enter Tryz.func10, Tryz.ntmps10
  go_wp2_with fail
  rw [← HW.out]
  go_wp2_with fail
  refine (lwFiles_same _ _ L W HG.out.1 HG.out.2 (by omega)).mono ?_
  rintro e w1 ⟨rfl, k1⟩
  have d1 := (k1.cell (p := ⟨w.heap.size, 0, none⟩) (World.block_lt_of_cell? _ _ c1)).trans c1
  have d2 := (k1.cell (p := ⟨w.heap.size, 1, none⟩) (World.block_lt_of_cell? _ _ c2)).trans c2
  have HV := Fk.hide (HG.out.1.below k1)
  have HB1 : Hid (Below w.heap.size w w1) := HB.out.trans (k1.mono HB.out.size)
  clear k1 c1 c2 c3 c4 HG HW
  by_cases hc : c = 0
  · subst hc
    have hR : Hid (Fk.right L = true) := HR.out rfl
    go_wp2_with fail
    refine (fsRight_spec _ L w1 HV.out HF.out (by unfold maxLen; omega)).mono ?_
    rintro e w2 ⟨rfl, k2⟩
    have HB2 : Hid (Below w.heap.size w w2) := HB1.out.trans (k2.mono HB1.out.size)
    rw [hR.out]
    clear k2
    go_wp2_with fail
    go_ret
    exact ⟨rfl, HB2.out⟩
  · have hc' : (c == 0) = false := by simpa using hc
    go_wp2_with fail
    go_ret
    exact ⟨rfl, HB1.out⟩
end Go.Proofs.YtojdfdlbdpdlkaaGreatDoor

namespace Go.Proofs.YtojdfdlbdpdlkaaGreatDoor
open Go.RowKit
set_option linter.unusedVariables false
set_option linter.unusedSimpArgs false

set_option maxHeartbeats 4000000 in
theorem lwJournal_same (v1 v2 : Value) (T : List ByteArray) (x c : Int) (w : World) (h1 : Sk.View w v1 T) (h2 : Sk.View w v2 T) (hl : T.length ≤ 1048576) :
    Calls Tryz.prog 15 #[.agg #[v1, .int .i64 x, .int .i64 c], .agg #[v2, .int .i64 x, .int .i64 c]] w fun e w' => e = .returned (.bool true) ∧ Below w.heap.size w w' := by
  have b0 : Below w.heap.size w ((w.alloc (.cells #[v1, .int .i64 x, .int .i64 c] 37)).alloc (.cells #[v2, .int .i64 x, .int .i64 c] 37)) := by
    repeat (first | exact Below.refl _ _ | refine Below.alloc ?_ (by simp <;> omega) _)
  have HB := Fk.hide b0
  have HV := Fk.hide (⟨h1.below b0, h2.below b0⟩ : _ ∧ _)
  obtain ⟨a, cap, rfl, _⟩ := h1
  obtain ⟨a2, cap2, rfl, _⟩ := h2
  clear b0
  go_enter Tryz.func15, Tryz.ntmps15
  go_wp2_with fail
  refine (lwTexts_same _ _ T _ HV.out.1 HV.out.2 hl).mono ?_
  rintro e w1 ⟨rfl, k1⟩
  have HB1 : Hid (Below w.heap.size w w1) := HB.out.trans (k1.mono HB.out.size)
  clear k1 HV HB
  go_wp2_with fail
  go_ret
  exact ⟨rfl, HB1.out⟩
end Go.Proofs.YtojdfdlbdpdlkaaGreatDoor

namespace Go.Proofs.YtojdfdlbdpdlkaaGreatDoor
open Go.RowKit
set_option linter.unusedVariables false
namespace Fk
/-- the files of a list but for two names -/
def but (L : List Fl) (one two : ByteArray) : List Fl := L.filter (fun f => !decide (f.1 = one) && !decide (f.1 = two))
theorem but_next {L : List Fl} {one two : ByteArray} {k : Nat} (hk : k < L.length) : but (L.take (k + 1)) one two = but (L.take k) one two ++ (if nm L k = one ∨ nm L k = two then [] else [(nm L k, dt L k, sy L k)]) := by
  have e : L[k] = (nm L k, dt L k, sy L k) := by simp [nm, dt, sy, List.getD, List.getElem?_eq_getElem hk]
  unfold but
  rw [List.take_succ_eq_append_getElem hk, List.filter_append, e]
  by_cases h1 : nm L k = one <;> by_cases h2 : nm L k = two <;> simp [h1, h2]
theorem but_len (L : List Fl) (one two : ByteArray) (k : Nat) : (but (L.take k) one two).length ≤ k := by
  have h1 : (but (L.take k) one two).length ≤ (L.take k).length := List.length_filter_le _ _
  have h2 : (L.take k).length ≤ k := by simp; omega
  omega
theorem but_fits {L : List Fl} (h : Fits L) (one two : ByteArray) : Fits (but L one two) := fun f hf => h f (List.mem_filter.1 hf).1
end Fk
namespace Lw
/-- two arguments, and two lists that are filled -/
def Two (w wr : World) (va vb vx : Value) (X : List Fk.Fl) (vy : Value) (Y : List Fk.Fl) : Prop :=
  wr.cell? ⟨w.heap.size, 0, none⟩ = some va ∧ wr.cell? ⟨w.heap.size + 1, 0, none⟩ = some vb ∧ (wr.cell? ⟨w.heap.size + 2, 0, none⟩ = some vx ∧ ∀ j, wr.frozen? ⟨w.heap.size + 2, j, none⟩ = false) ∧ (wr.cell? ⟨w.heap.size + 3, 0, none⟩ = some vy ∧ ∀ j, wr.frozen? ⟨w.heap.size + 3, j, none⟩ = false) ∧
  Fk.Own wr (w.heap.size + 4) 75 vx X ∧ Fk.Own wr (w.heap.size + 4) 75 vy Y ∧ Below w.heap.size w wr ∧ w.heap.size + 4 ≤ wr.heap.size ∧ (∀ g, vx.ownBlock = some g → vy.ownBlock ≠ some g)
theorem own_append {w' : World} {base n : Nat} {v : Value} {R : List Fk.Fl} {f : Fk.Fl} (ho : w'.ownsRow base 75 3 v (n + 1) (Fk.flat R ++ Fk.flc f)) (hn : n = R.length) : Fk.Own w' base 75 v (R ++ [f]) := by
  unfold Fk.Own
  rw [Fk.flat_append, List.length_append, ← hn]
  have e : Fk.flat [f] = Fk.flc f := by simp [Fk.flat]
  rw [e]
  exact ho
theorem Two.below {w wr w' : World} {va vb vx vy : Value} {X Y : List Fk.Fl} (h : Two w wr va vb vx X vy Y) (hb : Below wr.heap.size wr w') : Two w w' va vb vx X vy Y := by
  obtain ⟨h1, h2, ⟨x1, x2⟩, ⟨y1, y2⟩, h3, h4, h5, h6, h7⟩ := h
  exact ⟨(hb.cell (by show w.heap.size < _; omega)).trans h1, (hb.cell (by show w.heap.size + 1 < _; omega)).trans h2, ⟨(hb.cell (by show w.heap.size + 2 < _; omega)).trans x1, fun j => (hb.frozen (by show w.heap.size + 2 < _; omega)).trans (x2 j)⟩, ⟨(hb.cell (by show w.heap.size + 3 < _; omega)).trans y1, fun j => (hb.frozen (by show w.heap.size + 3 < _; omega)).trans (y2 j)⟩, h3.below hb, h4.below hb, h5.trans (hb.mono (by omega)), Nat.le_trans h6 hb.size, h7⟩
theorem kept_of {w w' : World} {base : Nat} {v : Value} {X : List Fk.Fl} {r : Option Nat} (h : Fk.Own w base 75 v X) (hg : w.grownBy w' r) (hr : ∀ g, v.ownBlock = some g → r ≠ some g) : Fk.Own w' base 75 v X := by
  refine World.ownsRow.kept h hg ?_
  cases hv : v.ownBlock with
  | none => exact .inl rfl
  | some g => exact .inr (fun e => hr g hv e.symm)
/-- a file is put into the first list -/
theorem Two.first {w wr w' : World} {va vb vx vy : Value} {X Y : List Fk.Fl} {o : Obj} {n g c : Nat} {f : Fk.Fl} (h : Two w wr va vb vx X vy Y) (hg : (wr.alloc o).grownBy w' vx.ownBlock) (ho : w'.ownsRow (w.heap.size + 4) 75 3 (.slice (some ⟨g, 0, none⟩) (n + 1) c) (n + 1) (Fk.flat X ++ Fk.flc f)) (hn : n = X.length) (hat : vx.ownBlock = some g ∨ g = wr.heap.size + 1) :
    ((w'.cell? ⟨w.heap.size, 0, none⟩ = some va ∧ w'.cell? ⟨w.heap.size + 1, 0, none⟩ = some vb) ∧ w'.cell? ⟨w.heap.size + 2, 0, none⟩ = some vx ∧ ∀ j, w'.frozen? ⟨w.heap.size + 2, j, none⟩ = false) ∧ Below w.heap.size w w' ∧ Two w (w'.setCell ⟨w.heap.size + 2, 0, none⟩ (.slice (some ⟨g, 0, none⟩) (n + 1) c)) va vb (.slice (some ⟨g, 0, none⟩) (n + 1) c) (X ++ [f]) vy Y := by
  obtain ⟨h1, h2, ⟨x1, x2⟩, ⟨y1, y2⟩, h3, h4, h5, h6, h7⟩ := h.below ((Below.refl wr.heap.size wr).alloc (Nat.le_refl _) o)
  have hz : (wr.alloc o).heap.size = wr.heap.size + 1 := by simp
  have hr : ∀ b, b < w.heap.size + 4 → some b ≠ vx.ownBlock := fun b hb e => by have := (World.ownsRow.lt h3 b e.symm).1; omega
  have k1 := (hg.cell_far ⟨w.heap.size, 0, none⟩ (by show w.heap.size < _; omega) (hr _ (by show w.heap.size < _; omega))).trans h1
  have k2 := (hg.cell_far ⟨w.heap.size + 1, 0, none⟩ (by show w.heap.size + 1 < _; omega) (hr _ (by show w.heap.size + 1 < _; omega))).trans h2
  have k3 := (hg.cell_far ⟨w.heap.size + 2, 0, none⟩ (by show w.heap.size + 2 < _; omega) (hr _ (by show w.heap.size + 2 < _; omega))).trans x1
  have k4 : ∀ j, w'.frozen? ⟨w.heap.size + 2, j, none⟩ = false := fun j => (hg.frozen_far ⟨w.heap.size + 2, j, none⟩ (by show w.heap.size + 2 < _; omega) (hr _ (by show w.heap.size + 2 < _; omega))).trans (x2 j)
  have k5 := (hg.cell_far ⟨w.heap.size + 3, 0, none⟩ (by show w.heap.size + 3 < _; omega) (hr _ (by show w.heap.size + 3 < _; omega))).trans y1
  have k6 : ∀ j, w'.frozen? ⟨w.heap.size + 3, j, none⟩ = false := fun j => (hg.frozen_far ⟨w.heap.size + 3, j, none⟩ (by show w.heap.size + 3 < _; omega) (hr _ (by show w.heap.size + 3 < _; omega))).trans (y2 j)
  have kb : Below w.heap.size w w' := h5.grown hg (by omega) (fun j hj => by have := (World.ownsRow.lt h3 j hj).1; omega)
  have ky := kept_of h4 hg (fun q hq e => h7 q e hq)
  refine ⟨⟨⟨k1, k2⟩, k3, k4⟩, kb, ?_⟩
  refine ⟨by rw [World.cell?_setCell_other _ _ _ _ (by simp)]; exact k1, by rw [World.cell?_setCell_other _ _ _ _ (by simp)]; exact k2, ⟨World.cell?_setCell_same _ _ _ k3, fun j => by rw [World.frozen?_setCell]; exact k4 j⟩, ⟨by rw [World.cell?_setCell_other _ _ _ _ (by simp)]; exact k5, fun j => by rw [World.frozen?_setCell]; exact k6 j⟩, ownsRow_setCell_below (own_append ho hn) (by show w.heap.size + 2 < w.heap.size + 4; omega) _, ownsRow_setCell_below ky (by show w.heap.size + 2 < w.heap.size + 4; omega) _, kb.setCell (by show w.heap.size ≤ w.heap.size + 2; omega) _, by have := hg.size; simp [World.setCell]; omega, fun q hq e => ?_⟩
  have hq' : g = q := Option.some.inj hq
  subst hq'
  rcases hat with h8 | h8
  · exact h7 g h8 e
  · have := (World.ownsRow.lt h4 g e).2
    omega
/-- a file is put into the second list -/
theorem Two.second {w wr w' : World} {va vb vx vy : Value} {X Y : List Fk.Fl} {o : Obj} {n g c : Nat} {f : Fk.Fl} (h : Two w wr va vb vx X vy Y) (hg : (wr.alloc o).grownBy w' vy.ownBlock) (ho : w'.ownsRow (w.heap.size + 4) 75 3 (.slice (some ⟨g, 0, none⟩) (n + 1) c) (n + 1) (Fk.flat Y ++ Fk.flc f)) (hn : n = Y.length) (hat : vy.ownBlock = some g ∨ g = wr.heap.size + 1) :
    ((w'.cell? ⟨w.heap.size, 0, none⟩ = some va ∧ w'.cell? ⟨w.heap.size + 1, 0, none⟩ = some vb) ∧ w'.cell? ⟨w.heap.size + 3, 0, none⟩ = some vy ∧ ∀ j, w'.frozen? ⟨w.heap.size + 3, j, none⟩ = false) ∧ Below w.heap.size w w' ∧ Two w (w'.setCell ⟨w.heap.size + 3, 0, none⟩ (.slice (some ⟨g, 0, none⟩) (n + 1) c)) va vb vx X (.slice (some ⟨g, 0, none⟩) (n + 1) c) (Y ++ [f]) := by
  obtain ⟨h1, h2, ⟨x1, x2⟩, ⟨y1, y2⟩, h3, h4, h5, h6, h7⟩ := h.below ((Below.refl wr.heap.size wr).alloc (Nat.le_refl _) o)
  have hz : (wr.alloc o).heap.size = wr.heap.size + 1 := by simp
  have hr : ∀ b, b < w.heap.size + 4 → some b ≠ vy.ownBlock := fun b hb e => by have := (World.ownsRow.lt h4 b e.symm).1; omega
  have k1 := (hg.cell_far ⟨w.heap.size, 0, none⟩ (by show w.heap.size < _; omega) (hr _ (by show w.heap.size < _; omega))).trans h1
  have k2 := (hg.cell_far ⟨w.heap.size + 1, 0, none⟩ (by show w.heap.size + 1 < _; omega) (hr _ (by show w.heap.size + 1 < _; omega))).trans h2
  have k3 := (hg.cell_far ⟨w.heap.size + 2, 0, none⟩ (by show w.heap.size + 2 < _; omega) (hr _ (by show w.heap.size + 2 < _; omega))).trans x1
  have k4 : ∀ j, w'.frozen? ⟨w.heap.size + 2, j, none⟩ = false := fun j => (hg.frozen_far ⟨w.heap.size + 2, j, none⟩ (by show w.heap.size + 2 < _; omega) (hr _ (by show w.heap.size + 2 < _; omega))).trans (x2 j)
  have k5 := (hg.cell_far ⟨w.heap.size + 3, 0, none⟩ (by show w.heap.size + 3 < _; omega) (hr _ (by show w.heap.size + 3 < _; omega))).trans y1
  have k6 : ∀ j, w'.frozen? ⟨w.heap.size + 3, j, none⟩ = false := fun j => (hg.frozen_far ⟨w.heap.size + 3, j, none⟩ (by show w.heap.size + 3 < _; omega) (hr _ (by show w.heap.size + 3 < _; omega))).trans (y2 j)
  have kb : Below w.heap.size w w' := h5.grown hg (by omega) (fun j hj => by have := (World.ownsRow.lt h4 j hj).1; omega)
  have kx := kept_of h3 hg (fun q hq e => h7 q hq e)
  refine ⟨⟨⟨k1, k2⟩, k5, k6⟩, kb, ?_⟩
  refine ⟨by rw [World.cell?_setCell_other _ _ _ _ (by simp)]; exact k1, by rw [World.cell?_setCell_other _ _ _ _ (by simp)]; exact k2, ⟨by rw [World.cell?_setCell_other _ _ _ _ (by simp)]; exact k3, fun j => by rw [World.frozen?_setCell]; exact k4 j⟩, ⟨World.cell?_setCell_same _ _ _ k5, fun j => by rw [World.frozen?_setCell]; exact k6 j⟩, ownsRow_setCell_below kx (by show w.heap.size + 3 < w.heap.size + 4; omega) _, ownsRow_setCell_below (own_append ho hn) (by show w.heap.size + 3 < w.heap.size + 4; omega) _, kb.setCell (by show w.heap.size ≤ w.heap.size + 3; omega) _, by have := hg.size; simp [World.setCell]; omega, fun q hq e => ?_⟩
  have hq' : g = q := Option.some.inj e
  subst hq'
  rcases hat with h8 | h8
  · exact h7 g hq h8
  · have := (World.ownsRow.lt h3 g hq).2
    omega
end Lw
end Go.Proofs.YtojdfdlbdpdlkaaGreatDoor

namespace Go.Proofs.YtojdfdlbdpdlkaaGreatDoor
open Go.RowKit
set_option linter.unusedVariables false
set_option linter.unusedSimpArgs false
theorem Lw.ownN {X : World} {base : Nat} {a : Option Addr} {n c : Nat} {R : List Fk.Fl} (h : Fk.Own X base 75 (.slice a n c) R) (e : n = R.length) : X.ownsRow base 75 3 (.slice a n c) n (Fk.flat R) := by
  unfold Fk.Own at h
  rw [← e] at h
  exact h

end Go.Proofs.YtojdfdlbdpdlkaaGreatDoor

namespace Go.Proofs.YtojdfdlbdpdlkaaGreatDoor
open Go.RowKit
theorem Lw.bel {W w' : World} {p : Prop} (h : Hid (Below W.heap.size W w') ∧ p) : Below W.heap.size W w' := h.1.out
theorem Lw.belNext {W w1 w2 : World} {p : Prop} (hb : Below w1.heap.size w1 w2) (h : Hid (Below W.heap.size W w1) ∧ p) : Hid (Below W.heap.size W w2) := h.1.out.trans (hb.mono h.1.out.size)
theorem Lw.cell_below {W W' : World} (hb : Below W.heap.size W W') {p : Addr} {v : Value} (h : W.cell? p = some v) : W'.cell? p = some v := (hb.cell (World.block_lt_of_cell? _ _ h)).trans h
theorem Lw.bel_trans {w W W' : World} (h : Below w.heap.size w W) (hb : Below W.heap.size W W') : Below w.heap.size w W' := h.trans (hb.mono h.size)
theorem Dk.Bytes.below {B : Nat} {w w' : World} {a : Option Addr} {n : Nat} (h : Dk.Bytes B w a n) (hb : Below w.heap.size w w') : Dk.Bytes B w' a n := fun i hi => by
  obtain ⟨b, o, x, e, h1, h2, h3⟩ := h i hi
  exact ⟨b, o, x, e, h1, h2, Lw.cell_below hb h3⟩
end Go.Proofs.YtojdfdlbdpdlkaaGreatDoor
