/- The walk of the specification's l07Levels: orders laid into levels. -/
import Derived.Test.YtjagohadeegghaaLevelsMath
import Derived.Test.YtjagohadeegghaaLevelGrow
import Derived.Test.YtjagohadeegghaaOldBook
import Derived.Test.YtjagohadeegghaaRowsWhere
import Derived.Test.YtjagohadeegghaaNewLaw
namespace Go.Proofs.Ytjagohadeegghaa
open Go.RowKit
set_option linter.unusedVariables false
set_option linter.unusedSimpArgs false
/-- a seen list stays where another row has grown -/
theorem Rk.view_grown {α : Type} {S : Rk.Shape α} {w w' : World} {b n c : Nat} {L : List α} {row : Option Nat} (h : Rk.View S w (.slice (some ⟨b, 0, none⟩) n c) L) (hg : w.grownBy w' row) (hb : some b ≠ row) : Rk.View S w' (.slice (some ⟨b, 0, none⟩) n c) L := by
  obtain ⟨a, cap, e, hs⟩ := h
  simp only [Value.slice.injEq] at e
  refine ⟨some ⟨b, 0, none⟩, cap, by rw [e.2.1, e.2.2], fun h0 => ?_⟩
  obtain ⟨b', o', e', hlt, hsee⟩ := hs h0
  rw [← e.1] at e'
  simp only [Option.some.injEq, Addr.mk.injEq] at e'
  obtain ⟨rfl, rfl, _⟩ := e'
  refine ⟨b, 0, rfl, Nat.lt_of_lt_of_le hlt hg.size, fun i hi j hj => ?_⟩
  rw [World.cell?_of_block (a := ⟨b, 0 + i * S.m + j, none⟩) (hg.block b hlt hb)]
  exact hsee i hi j hj
set_option maxRecDepth 100000 in
set_option maxHeartbeats 16000000 in
theorem l07Levels_any (v : Value) (L : List Or.E) (w : World) (hv : Rk.View Or.S w v L) (hl : L.length ≤ 1048576) :
    Calls Try.prog 110 #[v] w fun e w' => (∃ u Hs, e = .returned u ∧ Lv.Own w' w.heap.size 103 55 u (Nb.levels L) Hs) ∧ Below w.heap.size w w' := by
  obtain ⟨i0, hi, hz0, hz1, hz2⟩ := info_parts infoOrdS
  obtain ⟨i1, hi1, hy0, hy1, hy2⟩ := info_parts infoLevel
  obtain ⟨a, cap, rfl, hs⟩ := hv
  have b0 : Below w.heap.size w (w.alloc (.cells #[] 103)) := (Below.refl _ _).alloc (Nat.le_refl _) _
  have hM0 : Hid (Lv.Own (w.alloc (.cells #[] 103)) w.heap.size 103 55 (.slice (some ⟨w.heap.size, 0, none⟩) 0 0) [] []) := ⟨rfl, Rk.own_empty w 103 w.heap.size (Nat.le_refl _), fun i hi => absurd hi (by simp), fun i hi => absurd hi (by simp), fun i hi => absurd hi (by simp), fun i j hi => absurd hi (by simp)⟩
  have HB0 := Fk.hide b0
  clear b0
  go_enter Try.func110, Try.ntmps110
  go_wp2_with fail
  go_loopw [3, 4] (fun out i wr => ∃ (k : Nat) (ua : Option Addr) (un uc : Nat) (Hs : List Lv.H), k ≤ L.length ∧ out = .slice ua un uc ∧ i = .int .i64 k ∧ Hid (Lv.Own wr w.heap.size 103 55 (.slice ua un uc) (Nb.levels (L.take k)) Hs) ∧ Hid (Below w.heap.size w wr)) (fun _ i _ => L.length - (intOf i).toNat)
  case atStart => exact ⟨0, _, _, _, _, Nat.zero_le _, rfl, rfl, hM0, HB0⟩
  case round =>
    obtain ⟨k, ua, un, uc, Hs, hk, rfl, rfl, HO, HB⟩ := hrel
    clear hM0 HB0
    by_cases hlt : k < L.length
    · obtain ⟨b, o, rfl, hb, hs1⟩ := hs (by omega)
      obtain ⟨M, hM⟩ : ∃ M, M = Nb.levels (L.take k) := ⟨_, rfl⟩
      have HST : Hid (Nb.levels (L.take (k + 1)) = Nb.addO M (Ob.at' L k)) := by show _ = _; rw [hM]; exact Nb.levels_step L k hlt
      have HML : Hid (M.length ≤ 1048576 ∧ (Nb.flat M).length ≤ 1048576) := by show _ ∧ _; rw [hM, Nb.flat_levels]; have h1 := Nb.levels_length (L.take k); have h2 : (L.take k).length ≤ L.length := (by simp; omega); omega
      rw [← hM] at HO
      clear hM
      obtain rfl : un = M.length := by obtain ⟨x1, x2, hx⟩ := HO.out.slice; simp only [Value.slice.injEq] at hx; exact hx.2.1
      obtain ⟨⟨i', ow, pr, am, dy, pk, hd, gd⟩, hx⟩ : ∃ x, x = Rk.at_ Or.S L k := ⟨_, rfl⟩
      have HX := Fk.hide hx
      clear hx
      have q0 : wr.cell? ⟨b, o + k * 8, none⟩ = some (.int .i64 i') := by have := Or.c0 (hs1.below hb HB.out) hlt; rw [← HX.out] at this; exact this
      have q1 : wr.cell? ⟨b, o + k * 8 + 1, none⟩ = some (.int .i64 ow) := by have := Or.c1 (hs1.below hb HB.out) hlt; rw [← HX.out] at this; exact this
      have q2 : wr.cell? ⟨b, o + k * 8 + 2, none⟩ = some (.int .i64 pr) := by have := Or.c2 (hs1.below hb HB.out) hlt; rw [← HX.out] at this; exact this
      have q3 : wr.cell? ⟨b, o + k * 8 + 3, none⟩ = some (.int .i64 am) := by have := Or.c3 (hs1.below hb HB.out) hlt; rw [← HX.out] at this; exact this
      have q4 : wr.cell? ⟨b, o + k * 8 + 4, none⟩ = some (.bool dy) := by have := Or.c4 (hs1.below hb HB.out) hlt; rw [← HX.out] at this; exact this
      have q5 : wr.cell? ⟨b, o + k * 8 + 5, none⟩ = some (.int .i64 pk) := by have := Or.c5 (hs1.below hb HB.out) hlt; rw [← HX.out] at this; exact this
      have q6 : wr.cell? ⟨b, o + k * 8 + 6, none⟩ = some (.int .i64 hd) := by have := Or.c6 (hs1.below hb HB.out) hlt; rw [← HX.out] at this; exact this
      have q7 : wr.cell? ⟨b, o + k * 8 + 7, none⟩ = some (.bool gd) := by have := Or.c7 (hs1.below hb HB.out) hlt; rw [← HX.out] at this; exact this
      have r2 := cell_regrown q2
      by_cases h0 : M.length = 0
      · obtain rfl : M = [] := List.length_eq_zero_iff.1 h0
        go_wp2_with fail
        refine wp_region_quiet_below (by kernel_rfl) (by kernel_rfl) ?_
        repeat (go_big_quiet_step (fail))
        refine wpQuiet_nil ?_
        intro w4 hw'
        obtain ⟨⟨dq, osq⟩, hw''⟩ := hw'
        have k4 : Below wr.heap.size wr w4 := by rw [hw'']; exact below_regrown wr dq osq
        have B4 : Hid (Below w.heap.size w w4) := HB.out.trans (k4.mono HB.out.size)
        have HO4 := Fk.hide (HO.out.below k4)
        clear hw'' k4
        have q0 : w4.cell? ⟨b, o + k * 8, none⟩ = some (.int .i64 i') := by have := Or.c0 (hs1.below hb B4.out) hlt; rw [← HX.out] at this; exact this
        have q1 : w4.cell? ⟨b, o + k * 8 + 1, none⟩ = some (.int .i64 ow) := by have := Or.c1 (hs1.below hb B4.out) hlt; rw [← HX.out] at this; exact this
        have q2 : w4.cell? ⟨b, o + k * 8 + 2, none⟩ = some (.int .i64 pr) := by have := Or.c2 (hs1.below hb B4.out) hlt; rw [← HX.out] at this; exact this
        have q3 : w4.cell? ⟨b, o + k * 8 + 3, none⟩ = some (.int .i64 am) := by have := Or.c3 (hs1.below hb B4.out) hlt; rw [← HX.out] at this; exact this
        have q4 : w4.cell? ⟨b, o + k * 8 + 4, none⟩ = some (.bool dy) := by have := Or.c4 (hs1.below hb B4.out) hlt; rw [← HX.out] at this; exact this
        have q5 : w4.cell? ⟨b, o + k * 8 + 5, none⟩ = some (.int .i64 pk) := by have := Or.c5 (hs1.below hb B4.out) hlt; rw [← HX.out] at this; exact this
        have q6 : w4.cell? ⟨b, o + k * 8 + 6, none⟩ = some (.int .i64 hd) := by have := Or.c6 (hs1.below hb B4.out) hlt; rw [← HX.out] at this; exact this
        have q7 : w4.cell? ⟨b, o + k * 8 + 7, none⟩ = some (.bool gd) := by have := Or.c7 (hs1.below hb B4.out) hlt; rw [← HX.out] at this; exact this
        have b5 : Below w4.heap.size w4 (w4.alloc (.cells #[.int .i64 pr, .slice none 0 0] 103)) := (Below.refl _ _).alloc (Nat.le_refl _) _
        have HB5 : Hid (Below w.heap.size w (w4.alloc (.cells #[.int .i64 pr, .slice none 0 0] 103))) := B4.out.trans (b5.mono B4.out.size)
        have HO5 := Fk.hide (HO4.out.below b5)
        have HV5 := Fk.hide (Rk.view_lit1 (S := Lv.S) w4 103 #[.int .i64 pr, .slice none 0 0] (pr, none, 0, 0) rfl)
        have HLM : Hid (Hs.length + [((pr, none, 0, 0) : Lv.H)].length ≤ 1000000000) := by show _ ≤ _; rw [HO5.out.len]; have := HML.out; simp <;> omega
        clear b5 HO
        go_wp2_with (at_builtin; refine Rk.wpList_append_where _ rfl _ _ 26 rfl w.heap.size 103 i1 _ 2 32 rfl Try.underlying26 hi1 hy0 hy1 hy2 rfl (by decide) _ (.slice (some ⟨w4.heap.size, 0, none⟩) 1 1) Hs [((pr, none, 0, 0) : Lv.H)] rfl rfl HO5.out.row HV5.out (Rk.shut_some _ _ _) HLM.out HB5.out.size ?_; intro u6 w6 o6 g6 n6; have HB6 : Hid (Below w.heap.size w w6) := HB5.out.grown g6 HB5.out.size (fun j hj => (HO5.out.row.lt j hj).1); have HT0 : Hid (Lv.Own w6 w.heap.size 103 55 u6 (([] : List Lv.E) ++ [(pr, [])]) (Hs ++ [((pr, none, 0, 0) : Lv.H)])) := HO5.out.push (pr, none, 0, 0) [] (Rk.own_nil _ _ _) (fun k hk => by simp [Lv.sl, Value.ownBlock] at hk) o6 g6 n6; obtain ⟨x6, n6', c6, rfl⟩ := o6.slice'; clear g6 o6 n6)
        obtain ⟨g, rfl⟩ : ∃ g, x6 = some ⟨g, 0, none⟩ := by
          rcases HT0.out.row.form with ⟨h1, h2⟩ | ⟨g, c', h1, _⟩
          · simp at h2
          · simp only [Value.slice.injEq] at h1; exact ⟨g, h1.1⟩
        obtain ⟨T, hT⟩ : ∃ T : List Lv.E, T = [] ++ [(pr, [])] := ⟨_, rfl⟩
        obtain ⟨HsT, hHs⟩ : ∃ HsT : List Lv.H, HsT = Hs ++ [((pr, none, 0, 0) : Lv.H)] := ⟨_, rfl⟩
        rw [← hT, ← hHs] at HT0
        have hHl : Hs.length = 0 := HO4.out.len
        have HJ : Hid (0 < T.length) := by show _ < _; rw [hT]; simp
        have HEQ : Hid (Nb.levels (L.take (k + 1)) = T.set 0 ((Rk.at_ Lv.S HsT 0).1, [] ++ [((i', ow, pr, am, dy, pk, hd, gd) : Or.E)])) := by
          show _ = _
          rw [HST.out, hT, hHs, List.length_eq_zero_iff.1 hHl, show Ob.at' L k = (i', ow, pr, am, dy, pk, hd, gd) from HX.out.symm]
          rfl
        have hns := HT0.out.row.len
        have hsl : Rk.at_ Lv.S HsT 0 = (pr, none, 0, 0) := by rw [hHs, List.length_eq_zero_iff.1 hHl]; rfl
        have hn1 : n6' = 1 := by rw [hns, hHs]; simp [hHl]
        have hn2 : (0 : Int) < (n6' : Int) := by omega
        have hn3 : 0 < n6' := by omega
        clear hn1
        have t1 : w6.cell? ⟨g, 1, none⟩ = some (.slice none 0 0) := by
          have := Lv.o1 HT0.out.row (k := 0) (by rw [hHs]; simp)
          rw [hsl] at this
          exact this
        have f1 := HT0.out.row.frozen 1
        clear hT hHs hHl hsl hns
        have HU : Hid (Rk.View Or.S w6 (.slice none 0 0) []) := Rk.view_none _
        have HSU : Hid (Rk.Shut (.slice none 0 0)) := Rk.shut_none
        have HLO : Hid (([] : List Or.E).length ≤ 1048576) := by show _ ≤ _; simp
        have HGB : Hid (w.heap.size ≤ g) := (HT0.out.row.lt g rfl).1
        clear q0 q1 q2 q3 q4 q5 q6 q7 r2
        have q0 : w6.cell? ⟨b, o + k * 8, none⟩ = some (.int .i64 i') := by have := Or.c0 (hs1.below hb HB6.out) hlt; rw [← HX.out] at this; exact this
        have q1 : w6.cell? ⟨b, o + k * 8 + 1, none⟩ = some (.int .i64 ow) := by have := Or.c1 (hs1.below hb HB6.out) hlt; rw [← HX.out] at this; exact this
        have q2 : w6.cell? ⟨b, o + k * 8 + 2, none⟩ = some (.int .i64 pr) := by have := Or.c2 (hs1.below hb HB6.out) hlt; rw [← HX.out] at this; exact this
        have q3 : w6.cell? ⟨b, o + k * 8 + 3, none⟩ = some (.int .i64 am) := by have := Or.c3 (hs1.below hb HB6.out) hlt; rw [← HX.out] at this; exact this
        have q4 : w6.cell? ⟨b, o + k * 8 + 4, none⟩ = some (.bool dy) := by have := Or.c4 (hs1.below hb HB6.out) hlt; rw [← HX.out] at this; exact this
        have q5 : w6.cell? ⟨b, o + k * 8 + 5, none⟩ = some (.int .i64 pk) := by have := Or.c5 (hs1.below hb HB6.out) hlt; rw [← HX.out] at this; exact this
        have q6 : w6.cell? ⟨b, o + k * 8 + 6, none⟩ = some (.int .i64 hd) := by have := Or.c6 (hs1.below hb HB6.out) hlt; rw [← HX.out] at this; exact this
        have q7 : w6.cell? ⟨b, o + k * 8 + 7, none⟩ = some (.bool gd) := by have := Or.c7 (hs1.below hb HB6.out) hlt; rw [← HX.out] at this; exact this
        have R0 := Below.refl w6.heap.size w6
        have C1 : Hid (Below w6.heap.size w6 (w6.alloc (.cells #[] 55)).drew) := Below.drew (R0.alloc (Nat.le_refl _) _)
        have C2 : Hid (Below w6.heap.size w6 ((w6.alloc (.cells #[] 55)).alloc (.cells #[.int .i64 i', .int .i64 ow, .int .i64 pr, .int .i64 am, .bool dy, .int .i64 pk, .int .i64 hd, .bool gd] 55)).drew) := Below.drew ((R0.alloc (Nat.le_refl _) _).alloc (by simp) _)
        have C3 : Hid (Below w6.heap.size w6 ((w6.alloc (.cells #[.int .i64 i', .int .i64 ow, .int .i64 pr, .int .i64 am, .bool dy, .int .i64 pk, .int .i64 hd, .bool gd] 55)).alloc (.cells #[] 55)).drew) := Below.drew ((R0.alloc (Nat.le_refl _) _).alloc (by simp) _)
        have h1 : Hid (Rk.Own Or.S (w6.alloc (.cells #[] 55)).drew w6.heap.size 55 (.slice (some ⟨w6.heap.size, 0, none⟩) 0 0) []) := (Rk.own_empty w6 55 _ (Nat.le_refl _)).below (Below.drew (Below.refl _ _))
        have h2 : Hid (Rk.Own Or.S ((w6.alloc (.cells #[] 55)).alloc (.cells #[.int .i64 i', .int .i64 ow, .int .i64 pr, .int .i64 am, .bool dy, .int .i64 pk, .int .i64 hd, .bool gd] 55)).drew w6.heap.size 55 (.slice (some ⟨w6.heap.size, 0, none⟩) 0 0) []) := ((Rk.own_empty w6 55 _ (Nat.le_refl _)).below ((Below.refl _ _).alloc (Nat.le_refl _) _)).below (Below.drew (Below.refl _ _))
        have h3 : Hid (Rk.Own Or.S ((w6.alloc (.cells #[.int .i64 i', .int .i64 ow, .int .i64 pr, .int .i64 am, .bool dy, .int .i64 pk, .int .i64 hd, .bool gd] 55)).alloc (.cells #[] 55)).drew w6.heap.size 55 (.slice (some ⟨w6.heap.size + 1, 0, none⟩) 0 0) []) := by
          have := (Rk.own_empty (S := Or.S) (w6.alloc (.cells #[.int .i64 i', .int .i64 ow, .int .i64 pr, .int .i64 am, .bool dy, .int .i64 pk, .int .i64 hd, .bool gd] 55)) 55 w6.heap.size (by simp)).below (Below.drew (Below.refl _ _))
          rw [show (w6.alloc (.cells #[.int .i64 i', .int .i64 ow, .int .i64 pr, .int .i64 am, .bool dy, .int .i64 pk, .int .i64 hd, .bool gd] 55)).heap.size = w6.heap.size + 1 by simp] at this
          exact this
        have v2 : Hid (Rk.View Or.S ((w6.alloc (.cells #[] 55)).alloc (.cells #[.int .i64 i', .int .i64 ow, .int .i64 pr, .int .i64 am, .bool dy, .int .i64 pk, .int .i64 hd, .bool gd] 55)).drew (.slice (some ⟨w6.heap.size + 1, 0, none⟩) 1 1) [((i', ow, pr, am, dy, pk, hd, gd) : Or.E)]) := by
          have := (Rk.view_lit1 (S := Or.S) (w6.alloc (.cells #[] 55)) 55 #[.int .i64 i', .int .i64 ow, .int .i64 pr, .int .i64 am, .bool dy, .int .i64 pk, .int .i64 hd, .bool gd] (i', ow, pr, am, dy, pk, hd, gd) rfl).below (Below.drew (Below.refl _ _))
          rw [show (w6.alloc (.cells #[] 55)).heap.size = w6.heap.size + 1 by simp] at this
          exact this
        have v3 : Hid (Rk.View Or.S ((w6.alloc (.cells #[.int .i64 i', .int .i64 ow, .int .i64 pr, .int .i64 am, .bool dy, .int .i64 pk, .int .i64 hd, .bool gd] 55)).alloc (.cells #[] 55)).drew (.slice (some ⟨w6.heap.size, 0, none⟩) 1 1) [((i', ow, pr, am, dy, pk, hd, gd) : Or.E)]) := ((Rk.view_lit1 (S := Or.S) w6 55 #[.int .i64 i', .int .i64 ow, .int .i64 pr, .int .i64 am, .bool dy, .int .i64 pk, .int .i64 hd, .bool gd] (i', ow, pr, am, dy, pk, hd, gd) rfl).below ((Below.refl _ _).alloc (Nat.le_refl _) _)).below (Below.drew (Below.refl _ _))
        clear R0
        have hl1 : Hid (([] : List Or.E).length + ([] : List Or.E).length ≤ 1000000000) := by show _ ≤ _; have := HLO.out; simp <;> omega
        have hl2 : Hid (([] : List Or.E).length + [((i', ow, pr, am, dy, pk, hd, gd) : Or.E)].length ≤ 1000000000) := by show _ ≤ _; have := HLO.out; simp <;> omega
        have HGZ : Hid (g < w6.heap.size) := (HT0.out.row.lt g rfl).2
        have HBZ : Hid (b < w6.heap.size) := Nat.lt_of_lt_of_le hb HB6.out.size
        have e0 : (w6.alloc (.cells #[] 55)).cell? ⟨b, o + k * 8, none⟩ = some (.int .i64 i') := (Fk.cellOld _ _ _ _ HBZ.out).trans q0
        have e1 : (w6.alloc (.cells #[] 55)).cell? ⟨b, o + k * 8 + 1, none⟩ = some (.int .i64 ow) := (Fk.cellOld _ _ _ _ HBZ.out).trans q1
        have e2 : (w6.alloc (.cells #[] 55)).cell? ⟨b, o + k * 8 + 2, none⟩ = some (.int .i64 pr) := (Fk.cellOld _ _ _ _ HBZ.out).trans q2
        have e3 : (w6.alloc (.cells #[] 55)).cell? ⟨b, o + k * 8 + 3, none⟩ = some (.int .i64 am) := (Fk.cellOld _ _ _ _ HBZ.out).trans q3
        have e4 : (w6.alloc (.cells #[] 55)).cell? ⟨b, o + k * 8 + 4, none⟩ = some (.bool dy) := (Fk.cellOld _ _ _ _ HBZ.out).trans q4
        have e5 : (w6.alloc (.cells #[] 55)).cell? ⟨b, o + k * 8 + 5, none⟩ = some (.int .i64 pk) := (Fk.cellOld _ _ _ _ HBZ.out).trans q5
        have e6 : (w6.alloc (.cells #[] 55)).cell? ⟨b, o + k * 8 + 6, none⟩ = some (.int .i64 hd) := (Fk.cellOld _ _ _ _ HBZ.out).trans q6
        have e7 : (w6.alloc (.cells #[] 55)).cell? ⟨b, o + k * 8 + 7, none⟩ = some (.bool gd) := (Fk.cellOld _ _ _ _ HBZ.out).trans q7
        go_wp2_with fail
        go_simp
        go_wp2_with fail
        go_region_law (first
          | (refine Rk.step_append_view _ (by rfl) _ _ 30 (by rfl) w6.heap.size 55 i0 _ 8 64 rfl Try.underlying30 hi hz0 hz1 hz2 (by rfl) (by decide) (.slice x1 m1 y1) (.slice (some ⟨w1.heap.size, 0, none⟩) 1 1) ([] : List Or.E) [((i', ow, pr, am, dy, pk, hd, gd) : Or.E)] (by rfl) (by rfl) HOa.out HVa.out (Rk.shut_some _ _ _) hl2.out Ca.out.size ?_; intro u2 w2 o2 g2; obtain ⟨x2, m2, y2, rfl⟩ := o2.slice'; have D2 : Hid (Below w6.heap.size w6 w2) := Ca.out.grown g2 Ca.out.size (fun j hj => (HOa.out.lt j hj).1); have HO2 := Fk.hide o2; have t2 : w2.cell? ⟨g, 1, none⟩ = some (.slice none 0 0) := (D2.out.cell (by exact HGZ.out)).trans t1; have s2 : w2.frozen? ⟨g, 1, none⟩ = false := (D2.out.frozen (by exact HGZ.out)).trans f1; clear o2 g2)
          | (refine Rk.step_append_view _ (by rfl) _ _ 30 (by rfl) w6.heap.size 55 i0 _ 8 64 rfl Try.underlying30 hi hz0 hz1 hz2 (by rfl) (by decide) (.slice x1 m1 y1) (.slice (some ⟨w6.heap.size + 1, 0, none⟩) 1 1) ([] : List Or.E) [((i', ow, pr, am, dy, pk, hd, gd) : Or.E)] (by rfl) (by rfl) HOb.out HVb.out (Rk.shut_some _ _ _) hl2.out D1.out.size ?_; intro u2 w2 o2 g2; obtain ⟨x2, m2, y2, rfl⟩ := o2.slice'; have D2 : Hid (Below w6.heap.size w6 w2) := D1.out.grown g2 D1.out.size (fun j hj => (HOb.out.lt j hj).1); have HO2 := Fk.hide o2; have t2 : w2.cell? ⟨g, 1, none⟩ = some (.slice none 0 0) := (D2.out.cell (by exact HGZ.out)).trans t1; have s2 : w2.frozen? ⟨g, 1, none⟩ = false := (D2.out.frozen (by exact HGZ.out)).trans f1; clear o2 g2)
          | (refine Rk.step_append_view _ (by rfl) _ _ 30 (by rfl) w6.heap.size 55 i0 _ 8 64 rfl Try.underlying30 hi hz0 hz1 hz2 (by rfl) (by decide) (.slice x1 m1 y1) (.slice (some ⟨w6.heap.size, 0, none⟩) 1 1) ([] : List Or.E) [((i', ow, pr, am, dy, pk, hd, gd) : Or.E)] (by rfl) (by rfl) HOc.out HVc.out (Rk.shut_some _ _ _) hl2.out D1.out.size ?_; intro u2 w2 o2 g2; obtain ⟨x2, m2, y2, rfl⟩ := o2.slice'; have D2 : Hid (Below w6.heap.size w6 w2) := D1.out.grown g2 D1.out.size (fun j hj => (HOc.out.lt j hj).1); have HO2 := Fk.hide o2; have t2 : w2.cell? ⟨g, 1, none⟩ = some (.slice none 0 0) := (D2.out.cell (by exact HGZ.out)).trans t1; have s2 : w2.frozen? ⟨g, 1, none⟩ = false := (D2.out.frozen (by exact HGZ.out)).trans f1; clear o2 g2)
          | (refine Rk.step_append_view _ (by rfl) _ _ 30 (by rfl) w6.heap.size 55 i0 _ 8 64 rfl Try.underlying30 hi hz0 hz1 hz2 (by rfl) (by decide) _ (.slice none 0 0) [] ([] : List Or.E) (by rfl) (by rfl) h1.out (HU.out.below C1.out) HSU.out hl1.out C1.out.size ?_; intro u1 w1 o1 g1; rw [List.nil_append] at o1; obtain ⟨x1, m1, y1, rfl⟩ := o1.slice'; have D1 : Hid (Below w6.heap.size w6 w1) := C1.out.grown g1 C1.out.size (fun j hj => (h1.out.lt j hj).1); have f0' : w1.cell? ⟨b, o + k * 8, none⟩ = some (.int .i64 i') := (D1.out.cell (by exact HBZ.out)).trans q0; have f1' : w1.cell? ⟨b, o + k * 8 + 1, none⟩ = some (.int .i64 ow) := (D1.out.cell (by exact HBZ.out)).trans q1; have f2' : w1.cell? ⟨b, o + k * 8 + 2, none⟩ = some (.int .i64 pr) := (D1.out.cell (by exact HBZ.out)).trans q2; have f3' : w1.cell? ⟨b, o + k * 8 + 3, none⟩ = some (.int .i64 am) := (D1.out.cell (by exact HBZ.out)).trans q3; have f4' : w1.cell? ⟨b, o + k * 8 + 4, none⟩ = some (.bool dy) := (D1.out.cell (by exact HBZ.out)).trans q4; have f5' : w1.cell? ⟨b, o + k * 8 + 5, none⟩ = some (.int .i64 pk) := (D1.out.cell (by exact HBZ.out)).trans q5; have f6' : w1.cell? ⟨b, o + k * 8 + 6, none⟩ = some (.int .i64 hd) := (D1.out.cell (by exact HBZ.out)).trans q6; have f7' : w1.cell? ⟨b, o + k * 8 + 7, none⟩ = some (.bool gd) := (D1.out.cell (by exact HBZ.out)).trans q7; have HOa : Hid (Rk.Own Or.S (w1.alloc (.cells #[.int .i64 i', .int .i64 ow, .int .i64 pr, .int .i64 am, .bool dy, .int .i64 pk, .int .i64 hd, .bool gd] 55)) w6.heap.size 55 (.slice x1 m1 y1) ([] : List Or.E)) := o1.below ((Below.refl _ _).alloc (Nat.le_refl _) _); have HVa : Hid (Rk.View Or.S (w1.alloc (.cells #[.int .i64 i', .int .i64 ow, .int .i64 pr, .int .i64 am, .bool dy, .int .i64 pk, .int .i64 hd, .bool gd] 55)) (.slice (some ⟨w1.heap.size, 0, none⟩) 1 1) [((i', ow, pr, am, dy, pk, hd, gd) : Or.E)]) := Rk.view_lit1 w1 55 #[.int .i64 i', .int .i64 ow, .int .i64 pr, .int .i64 am, .bool dy, .int .i64 pk, .int .i64 hd, .bool gd] (i', ow, pr, am, dy, pk, hd, gd) rfl; have Ca : Hid (Below w6.heap.size w6 (w1.alloc (.cells #[.int .i64 i', .int .i64 ow, .int .i64 pr, .int .i64 am, .bool dy, .int .i64 pk, .int .i64 hd, .bool gd] 55))) := D1.out.alloc D1.out.size _; clear o1 g1)
          | (refine Rk.step_append_view _ (by rfl) _ _ 30 (by rfl) w6.heap.size 55 i0 _ 8 64 rfl Try.underlying30 hi hz0 hz1 hz2 (by rfl) (by decide) _ (.slice none 0 0) [] ([] : List Or.E) (by rfl) (by rfl) h2.out (HU.out.below C2.out) HSU.out hl1.out C2.out.size ?_; intro u1 w1 o1 g1; rw [List.nil_append] at o1; obtain ⟨x1, m1, y1, rfl⟩ := o1.slice'; have D1 : Hid (Below w6.heap.size w6 w1) := C2.out.grown g1 C2.out.size (fun j hj => (h2.out.lt j hj).1); have HOb := Fk.hide o1; have HVb : Hid (Rk.View Or.S w1 (.slice (some ⟨w6.heap.size + 1, 0, none⟩) 1 1) [((i', ow, pr, am, dy, pk, hd, gd) : Or.E)]) := Rk.view_grown v2.out g1 (by intro e; simp [Value.ownBlock] at e); clear o1 g1)
          | (refine Rk.step_append_view _ (by rfl) _ _ 30 (by rfl) w6.heap.size 55 i0 _ 8 64 rfl Try.underlying30 hi hz0 hz1 hz2 (by rfl) (by decide) _ (.slice none 0 0) [] ([] : List Or.E) (by rfl) (by rfl) h3.out (HU.out.below C3.out) HSU.out hl1.out C3.out.size ?_; intro u1 w1 o1 g1; rw [List.nil_append] at o1; obtain ⟨x1, m1, y1, rfl⟩ := o1.slice'; have D1 : Hid (Below w6.heap.size w6 w1) := C3.out.grown g1 C3.out.size (fun j hj => (h3.out.lt j hj).1); have HOc := Fk.hide o1; have HVc : Hid (Rk.View Or.S w1 (.slice (some ⟨w6.heap.size, 0, none⟩) 1 1) [((i', ow, pr, am, dy, pk, hd, gd) : Or.E)]) := Rk.view_grown v3.out g1 (by intro e; simp [Value.ownBlock] at e); clear o1 g1))
        all_goals
          have HF : Hid (Lv.Own (w2.setCell ⟨g, 1, none⟩ (.slice x2 m2 y2)) w.heap.size 103 55 (.slice (some ⟨g, 0, none⟩) n6' c6) (Nb.levels (L.take (k + 1))) (HsT.set (0) ((Rk.at_ Lv.S HsT (0)).1, x2, m2, y2))) := by
            have h5 := (HT0.out.below D2.out).setOrders (i := 0) HJ.out ((Rk.at_ Lv.S HsT (0)).1, x2, m2, y2) (([] : List Or.E) ++ [((i', ow, pr, am, dy, pk, hd, gd) : Or.E)]) (HT0.out.price _ HJ.out) (HO2.out.mono HB6.out.size) (fun q hq => by
              have e1 := (HO2.out.lt q hq).1
              have hu := HT0.out.under
              exact ⟨fun e => by have := HGZ.out; omega, fun j' hj' _ e => by have := hu.each j' hj' q e; omega⟩)
            rw [HEQ.out]
            exact h5
          have HFB : Hid (Below w.heap.size w (w2.setCell ⟨g, 1, none⟩ (.slice x2 m2 y2))) := (HB6.out.trans (D2.out.mono HB6.out.size)).setCell HGB.out _
          go_wp2_with fail
          go_roundw
          case rel => exact ⟨k + 1, _, _, _, _, by omega, rfl, by go_num, HF, HFB⟩
          case measure => simp [intOf]; omega
      · obtain ⟨g, rfl⟩ : ∃ g, ua = some ⟨g, 0, none⟩ := by
          rcases HO.out.row.form with ⟨h1, h2⟩ | ⟨g, c', h1, _⟩
          · have := HO.out.len; rw [h2] at this; simp at this; omega
          · simp only [Value.slice.injEq] at h1; exact ⟨g, h1.1⟩
        have hMl : M.length - 1 < M.length := by omega
        have HMl := Fk.hide hMl
        have t0 := Lv.o0 HO.out.row (k := M.length - 1) (by rw [HO.out.len]; exact hMl)
        rw [HO.out.price _ hMl] at t0
        obtain ⟨lp, hlp⟩ : ∃ x, x = (Lv.at' M (M.length - 1)).1 := ⟨_, rfl⟩
        have HLP := Fk.hide hlp
        rw [← hlp] at t0
        clear hlp hMl
        have hMb : M.length ≤ 1048576 := HML.out.1
        have m10 : (1 : Int) ≤ (M.length : Int) := by omega
        have r0 := cell_regrown t0
        have m2 : ((M.length : Int) - 1).toNat = M.length - 1 := by omega
        have m3 : (0 : Int) ≤ (M.length : Int) - 1 := by omega
        have m4 : (M.length : Int) - 1 < (M.length : Int) := by omega
        have m5 : ¬ ((M.length : Int) - 1 < 0) := by omega
        have m6 : decide ((M.length : Int) - 1 < 0) = false := decide_eq_false m5
        by_cases hne : lp = pr
        · have d1 : decide (lp = pr) = true := decide_eq_true hne
          have d2 : (lp == pr) = true := by simpa using hne
          have d3 : (lp != pr) = false := by simpa using hne
          have hne' := Fk.hide hne
          clear hne
          go_wp2_with fail
          refine wp_region_quiet_below (by kernel_rfl) (by kernel_rfl) ?_
          repeat (go_big_quiet_step (fail))
          refine wpQuiet_nil ?_
          intro w4 hw'
          obtain ⟨⟨dq, osq⟩, hw''⟩ := hw'
          have k4 : Below wr.heap.size wr w4 := by rw [hw'']; exact below_regrown wr dq osq
          have B4 : Hid (Below w.heap.size w w4) := HB.out.trans (k4.mono HB.out.size)
          have HO4 := Fk.hide (HO.out.below k4)
          clear hw'' k4
          have HMl2 := HMl.out
          have t1 := Lv.o1 HO4.out.row (k := M.length - 1) (by rw [HO4.out.len]; exact HMl2)
          obtain ⟨oa, on, oc, hsl⟩ : ∃ x n c, Lv.sl (Rk.at_ Lv.S Hs (M.length - 1)) = .slice x n c := ⟨_, _, _, rfl⟩
          have hoe := HO4.out.each _ HMl2
          obtain ⟨G, hG⟩ : ∃ G, G = (Lv.at' M (M.length - 1)).2 := ⟨_, rfl⟩
          have HLO : Hid (G.length ≤ 1048576) := by show _ ≤ _; rw [hG]; exact Nat.le_trans (Nb.each_le M _ HMl2) HML.out.2
          rw [hsl] at t1 hoe
          rw [← hG] at hoe
          have HU := Fk.hide hoe.view
          have HSU := Fk.hide hoe.shut
          have f1 := HO4.out.row.frozen ((M.length - 1) * 2 + 1)
          have HJ : Hid (M.length - 1 < M.length) := HMl2
          have HGB : Hid (w.heap.size ≤ g) := (HO4.out.row.lt g rfl).1
          have HEQ : Hid (Nb.levels (L.take (k + 1)) = M.set (M.length - 1) ((Rk.at_ Lv.S Hs (M.length - 1)).1, G ++ [((i', ow, pr, am, dy, pk, hd, gd) : Or.E)])) := by
            show _ = _
            have e1 : (Lv.at' M (M.length - 1)).1 = pr := by rw [← HLP.out]; exact hne'.out
            rw [HST.out, HO4.out.price _ HMl2, e1, show Ob.at' L k = (i', ow, pr, am, dy, pk, hd, gd) from HX.out.symm, hG]
            unfold Nb.addO
            rw [if_pos ⟨by omega, e1⟩]
          clear HMl2 hsl hG hoe
          clear q0 q1 q2 q3 q4 q5 q6 q7 r2 r0 t0
          have q0 : w4.cell? ⟨b, o + k * 8, none⟩ = some (.int .i64 i') := by have := Or.c0 (hs1.below hb B4.out) hlt; rw [← HX.out] at this; exact this
          have q1 : w4.cell? ⟨b, o + k * 8 + 1, none⟩ = some (.int .i64 ow) := by have := Or.c1 (hs1.below hb B4.out) hlt; rw [← HX.out] at this; exact this
          have q2 : w4.cell? ⟨b, o + k * 8 + 2, none⟩ = some (.int .i64 pr) := by have := Or.c2 (hs1.below hb B4.out) hlt; rw [← HX.out] at this; exact this
          have q3 : w4.cell? ⟨b, o + k * 8 + 3, none⟩ = some (.int .i64 am) := by have := Or.c3 (hs1.below hb B4.out) hlt; rw [← HX.out] at this; exact this
          have q4 : w4.cell? ⟨b, o + k * 8 + 4, none⟩ = some (.bool dy) := by have := Or.c4 (hs1.below hb B4.out) hlt; rw [← HX.out] at this; exact this
          have q5 : w4.cell? ⟨b, o + k * 8 + 5, none⟩ = some (.int .i64 pk) := by have := Or.c5 (hs1.below hb B4.out) hlt; rw [← HX.out] at this; exact this
          have q6 : w4.cell? ⟨b, o + k * 8 + 6, none⟩ = some (.int .i64 hd) := by have := Or.c6 (hs1.below hb B4.out) hlt; rw [← HX.out] at this; exact this
          have q7 : w4.cell? ⟨b, o + k * 8 + 7, none⟩ = some (.bool gd) := by have := Or.c7 (hs1.below hb B4.out) hlt; rw [← HX.out] at this; exact this
          clear HO
          have R0 := Below.refl w4.heap.size w4
          have C1 : Hid (Below w4.heap.size w4 (w4.alloc (.cells #[] 55)).drew) := Below.drew (R0.alloc (Nat.le_refl _) _)
          have C2 : Hid (Below w4.heap.size w4 ((w4.alloc (.cells #[] 55)).alloc (.cells #[.int .i64 i', .int .i64 ow, .int .i64 pr, .int .i64 am, .bool dy, .int .i64 pk, .int .i64 hd, .bool gd] 55)).drew) := Below.drew ((R0.alloc (Nat.le_refl _) _).alloc (by simp) _)
          have C3 : Hid (Below w4.heap.size w4 ((w4.alloc (.cells #[.int .i64 i', .int .i64 ow, .int .i64 pr, .int .i64 am, .bool dy, .int .i64 pk, .int .i64 hd, .bool gd] 55)).alloc (.cells #[] 55)).drew) := Below.drew ((R0.alloc (Nat.le_refl _) _).alloc (by simp) _)
          have h1 : Hid (Rk.Own Or.S (w4.alloc (.cells #[] 55)).drew w4.heap.size 55 (.slice (some ⟨w4.heap.size, 0, none⟩) 0 0) []) := (Rk.own_empty w4 55 _ (Nat.le_refl _)).below (Below.drew (Below.refl _ _))
          have h2 : Hid (Rk.Own Or.S ((w4.alloc (.cells #[] 55)).alloc (.cells #[.int .i64 i', .int .i64 ow, .int .i64 pr, .int .i64 am, .bool dy, .int .i64 pk, .int .i64 hd, .bool gd] 55)).drew w4.heap.size 55 (.slice (some ⟨w4.heap.size, 0, none⟩) 0 0) []) := ((Rk.own_empty w4 55 _ (Nat.le_refl _)).below ((Below.refl _ _).alloc (Nat.le_refl _) _)).below (Below.drew (Below.refl _ _))
          have h3 : Hid (Rk.Own Or.S ((w4.alloc (.cells #[.int .i64 i', .int .i64 ow, .int .i64 pr, .int .i64 am, .bool dy, .int .i64 pk, .int .i64 hd, .bool gd] 55)).alloc (.cells #[] 55)).drew w4.heap.size 55 (.slice (some ⟨w4.heap.size + 1, 0, none⟩) 0 0) []) := by
            have := (Rk.own_empty (S := Or.S) (w4.alloc (.cells #[.int .i64 i', .int .i64 ow, .int .i64 pr, .int .i64 am, .bool dy, .int .i64 pk, .int .i64 hd, .bool gd] 55)) 55 w4.heap.size (by simp)).below (Below.drew (Below.refl _ _))
            rw [show (w4.alloc (.cells #[.int .i64 i', .int .i64 ow, .int .i64 pr, .int .i64 am, .bool dy, .int .i64 pk, .int .i64 hd, .bool gd] 55)).heap.size = w4.heap.size + 1 by simp] at this
            exact this
          have v2 : Hid (Rk.View Or.S ((w4.alloc (.cells #[] 55)).alloc (.cells #[.int .i64 i', .int .i64 ow, .int .i64 pr, .int .i64 am, .bool dy, .int .i64 pk, .int .i64 hd, .bool gd] 55)).drew (.slice (some ⟨w4.heap.size + 1, 0, none⟩) 1 1) [((i', ow, pr, am, dy, pk, hd, gd) : Or.E)]) := by
            have := (Rk.view_lit1 (S := Or.S) (w4.alloc (.cells #[] 55)) 55 #[.int .i64 i', .int .i64 ow, .int .i64 pr, .int .i64 am, .bool dy, .int .i64 pk, .int .i64 hd, .bool gd] (i', ow, pr, am, dy, pk, hd, gd) rfl).below (Below.drew (Below.refl _ _))
            rw [show (w4.alloc (.cells #[] 55)).heap.size = w4.heap.size + 1 by simp] at this
            exact this
          have v3 : Hid (Rk.View Or.S ((w4.alloc (.cells #[.int .i64 i', .int .i64 ow, .int .i64 pr, .int .i64 am, .bool dy, .int .i64 pk, .int .i64 hd, .bool gd] 55)).alloc (.cells #[] 55)).drew (.slice (some ⟨w4.heap.size, 0, none⟩) 1 1) [((i', ow, pr, am, dy, pk, hd, gd) : Or.E)]) := ((Rk.view_lit1 (S := Or.S) w4 55 #[.int .i64 i', .int .i64 ow, .int .i64 pr, .int .i64 am, .bool dy, .int .i64 pk, .int .i64 hd, .bool gd] (i', ow, pr, am, dy, pk, hd, gd) rfl).below ((Below.refl _ _).alloc (Nat.le_refl _) _)).below (Below.drew (Below.refl _ _))
          clear R0
          have hl1 : Hid (([] : List Or.E).length + G.length ≤ 1000000000) := by show _ ≤ _; have := HLO.out; simp <;> omega
          have hl2 : Hid (G.length + [((i', ow, pr, am, dy, pk, hd, gd) : Or.E)].length ≤ 1000000000) := by show _ ≤ _; have := HLO.out; simp <;> omega
          have HGZ : Hid (g < w4.heap.size) := (HO4.out.row.lt g rfl).2
          have HBZ : Hid (b < w4.heap.size) := Nat.lt_of_lt_of_le hb B4.out.size
          have e0 : (w4.alloc (.cells #[] 55)).cell? ⟨b, o + k * 8, none⟩ = some (.int .i64 i') := (Fk.cellOld _ _ _ _ HBZ.out).trans q0
          have e1 : (w4.alloc (.cells #[] 55)).cell? ⟨b, o + k * 8 + 1, none⟩ = some (.int .i64 ow) := (Fk.cellOld _ _ _ _ HBZ.out).trans q1
          have e2 : (w4.alloc (.cells #[] 55)).cell? ⟨b, o + k * 8 + 2, none⟩ = some (.int .i64 pr) := (Fk.cellOld _ _ _ _ HBZ.out).trans q2
          have e3 : (w4.alloc (.cells #[] 55)).cell? ⟨b, o + k * 8 + 3, none⟩ = some (.int .i64 am) := (Fk.cellOld _ _ _ _ HBZ.out).trans q3
          have e4 : (w4.alloc (.cells #[] 55)).cell? ⟨b, o + k * 8 + 4, none⟩ = some (.bool dy) := (Fk.cellOld _ _ _ _ HBZ.out).trans q4
          have e5 : (w4.alloc (.cells #[] 55)).cell? ⟨b, o + k * 8 + 5, none⟩ = some (.int .i64 pk) := (Fk.cellOld _ _ _ _ HBZ.out).trans q5
          have e6 : (w4.alloc (.cells #[] 55)).cell? ⟨b, o + k * 8 + 6, none⟩ = some (.int .i64 hd) := (Fk.cellOld _ _ _ _ HBZ.out).trans q6
          have e7 : (w4.alloc (.cells #[] 55)).cell? ⟨b, o + k * 8 + 7, none⟩ = some (.bool gd) := (Fk.cellOld _ _ _ _ HBZ.out).trans q7
          go_wp2_with fail
          go_region_law (first
            | (refine Rk.step_append_view _ (by rfl) _ _ 30 (by rfl) w4.heap.size 55 i0 _ 8 64 rfl Try.underlying30 hi hz0 hz1 hz2 (by rfl) (by decide) (.slice x1 m1 y1) (.slice (some ⟨w1.heap.size, 0, none⟩) 1 1) G [((i', ow, pr, am, dy, pk, hd, gd) : Or.E)] (by rfl) (by rfl) HOa.out HVa.out (Rk.shut_some _ _ _) hl2.out Ca.out.size ?_; intro u2 w2 o2 g2; obtain ⟨x2, m2, y2, rfl⟩ := o2.slice'; have D2 : Hid (Below w4.heap.size w4 w2) := Ca.out.grown g2 Ca.out.size (fun j hj => (HOa.out.lt j hj).1); have HO2 := Fk.hide o2; have t2 : w2.cell? ⟨g, (M.length - 1) * 2 + 1, none⟩ = some (.slice oa on oc) := (D2.out.cell (by exact HGZ.out)).trans t1; have s2 : w2.frozen? ⟨g, (M.length - 1) * 2 + 1, none⟩ = false := (D2.out.frozen (by exact HGZ.out)).trans f1; clear o2 g2)
            | (refine Rk.step_append_view _ (by rfl) _ _ 30 (by rfl) w4.heap.size 55 i0 _ 8 64 rfl Try.underlying30 hi hz0 hz1 hz2 (by rfl) (by decide) (.slice x1 m1 y1) (.slice (some ⟨w4.heap.size + 1, 0, none⟩) 1 1) G [((i', ow, pr, am, dy, pk, hd, gd) : Or.E)] (by rfl) (by rfl) HOb.out HVb.out (Rk.shut_some _ _ _) hl2.out D1.out.size ?_; intro u2 w2 o2 g2; obtain ⟨x2, m2, y2, rfl⟩ := o2.slice'; have D2 : Hid (Below w4.heap.size w4 w2) := D1.out.grown g2 D1.out.size (fun j hj => (HOb.out.lt j hj).1); have HO2 := Fk.hide o2; have t2 : w2.cell? ⟨g, (M.length - 1) * 2 + 1, none⟩ = some (.slice oa on oc) := (D2.out.cell (by exact HGZ.out)).trans t1; have s2 : w2.frozen? ⟨g, (M.length - 1) * 2 + 1, none⟩ = false := (D2.out.frozen (by exact HGZ.out)).trans f1; clear o2 g2)
            | (refine Rk.step_append_view _ (by rfl) _ _ 30 (by rfl) w4.heap.size 55 i0 _ 8 64 rfl Try.underlying30 hi hz0 hz1 hz2 (by rfl) (by decide) (.slice x1 m1 y1) (.slice (some ⟨w4.heap.size, 0, none⟩) 1 1) G [((i', ow, pr, am, dy, pk, hd, gd) : Or.E)] (by rfl) (by rfl) HOc.out HVc.out (Rk.shut_some _ _ _) hl2.out D1.out.size ?_; intro u2 w2 o2 g2; obtain ⟨x2, m2, y2, rfl⟩ := o2.slice'; have D2 : Hid (Below w4.heap.size w4 w2) := D1.out.grown g2 D1.out.size (fun j hj => (HOc.out.lt j hj).1); have HO2 := Fk.hide o2; have t2 : w2.cell? ⟨g, (M.length - 1) * 2 + 1, none⟩ = some (.slice oa on oc) := (D2.out.cell (by exact HGZ.out)).trans t1; have s2 : w2.frozen? ⟨g, (M.length - 1) * 2 + 1, none⟩ = false := (D2.out.frozen (by exact HGZ.out)).trans f1; clear o2 g2)
            | (refine Rk.step_append_view _ (by rfl) _ _ 30 (by rfl) w4.heap.size 55 i0 _ 8 64 rfl Try.underlying30 hi hz0 hz1 hz2 (by rfl) (by decide) _ (.slice oa on oc) [] G (by rfl) (by rfl) h1.out (HU.out.below C1.out) HSU.out hl1.out C1.out.size ?_; intro u1 w1 o1 g1; rw [List.nil_append] at o1; obtain ⟨x1, m1, y1, rfl⟩ := o1.slice'; have D1 : Hid (Below w4.heap.size w4 w1) := C1.out.grown g1 C1.out.size (fun j hj => (h1.out.lt j hj).1); have f0' : w1.cell? ⟨b, o + k * 8, none⟩ = some (.int .i64 i') := (D1.out.cell (by exact HBZ.out)).trans q0; have f1' : w1.cell? ⟨b, o + k * 8 + 1, none⟩ = some (.int .i64 ow) := (D1.out.cell (by exact HBZ.out)).trans q1; have f2' : w1.cell? ⟨b, o + k * 8 + 2, none⟩ = some (.int .i64 pr) := (D1.out.cell (by exact HBZ.out)).trans q2; have f3' : w1.cell? ⟨b, o + k * 8 + 3, none⟩ = some (.int .i64 am) := (D1.out.cell (by exact HBZ.out)).trans q3; have f4' : w1.cell? ⟨b, o + k * 8 + 4, none⟩ = some (.bool dy) := (D1.out.cell (by exact HBZ.out)).trans q4; have f5' : w1.cell? ⟨b, o + k * 8 + 5, none⟩ = some (.int .i64 pk) := (D1.out.cell (by exact HBZ.out)).trans q5; have f6' : w1.cell? ⟨b, o + k * 8 + 6, none⟩ = some (.int .i64 hd) := (D1.out.cell (by exact HBZ.out)).trans q6; have f7' : w1.cell? ⟨b, o + k * 8 + 7, none⟩ = some (.bool gd) := (D1.out.cell (by exact HBZ.out)).trans q7; have HOa : Hid (Rk.Own Or.S (w1.alloc (.cells #[.int .i64 i', .int .i64 ow, .int .i64 pr, .int .i64 am, .bool dy, .int .i64 pk, .int .i64 hd, .bool gd] 55)) w4.heap.size 55 (.slice x1 m1 y1) G) := o1.below ((Below.refl _ _).alloc (Nat.le_refl _) _); have HVa : Hid (Rk.View Or.S (w1.alloc (.cells #[.int .i64 i', .int .i64 ow, .int .i64 pr, .int .i64 am, .bool dy, .int .i64 pk, .int .i64 hd, .bool gd] 55)) (.slice (some ⟨w1.heap.size, 0, none⟩) 1 1) [((i', ow, pr, am, dy, pk, hd, gd) : Or.E)]) := Rk.view_lit1 w1 55 #[.int .i64 i', .int .i64 ow, .int .i64 pr, .int .i64 am, .bool dy, .int .i64 pk, .int .i64 hd, .bool gd] (i', ow, pr, am, dy, pk, hd, gd) rfl; have Ca : Hid (Below w4.heap.size w4 (w1.alloc (.cells #[.int .i64 i', .int .i64 ow, .int .i64 pr, .int .i64 am, .bool dy, .int .i64 pk, .int .i64 hd, .bool gd] 55))) := D1.out.alloc D1.out.size _; clear o1 g1)
            | (refine Rk.step_append_view _ (by rfl) _ _ 30 (by rfl) w4.heap.size 55 i0 _ 8 64 rfl Try.underlying30 hi hz0 hz1 hz2 (by rfl) (by decide) _ (.slice oa on oc) [] G (by rfl) (by rfl) h2.out (HU.out.below C2.out) HSU.out hl1.out C2.out.size ?_; intro u1 w1 o1 g1; rw [List.nil_append] at o1; obtain ⟨x1, m1, y1, rfl⟩ := o1.slice'; have D1 : Hid (Below w4.heap.size w4 w1) := C2.out.grown g1 C2.out.size (fun j hj => (h2.out.lt j hj).1); have HOb := Fk.hide o1; have HVb : Hid (Rk.View Or.S w1 (.slice (some ⟨w4.heap.size + 1, 0, none⟩) 1 1) [((i', ow, pr, am, dy, pk, hd, gd) : Or.E)]) := Rk.view_grown v2.out g1 (by intro e; simp [Value.ownBlock] at e); clear o1 g1)
            | (refine Rk.step_append_view _ (by rfl) _ _ 30 (by rfl) w4.heap.size 55 i0 _ 8 64 rfl Try.underlying30 hi hz0 hz1 hz2 (by rfl) (by decide) _ (.slice oa on oc) [] G (by rfl) (by rfl) h3.out (HU.out.below C3.out) HSU.out hl1.out C3.out.size ?_; intro u1 w1 o1 g1; rw [List.nil_append] at o1; obtain ⟨x1, m1, y1, rfl⟩ := o1.slice'; have D1 : Hid (Below w4.heap.size w4 w1) := C3.out.grown g1 C3.out.size (fun j hj => (h3.out.lt j hj).1); have HOc := Fk.hide o1; have HVc : Hid (Rk.View Or.S w1 (.slice (some ⟨w4.heap.size, 0, none⟩) 1 1) [((i', ow, pr, am, dy, pk, hd, gd) : Or.E)]) := Rk.view_grown v3.out g1 (by intro e; simp [Value.ownBlock] at e); clear o1 g1))
          all_goals
            have HF : Hid (Lv.Own (w2.setCell ⟨g, (M.length - 1) * 2 + 1, none⟩ (.slice x2 m2 y2)) w.heap.size 103 55 (.slice (some ⟨g, 0, none⟩) M.length uc) (Nb.levels (L.take (k + 1))) (Hs.set (M.length - 1) ((Rk.at_ Lv.S Hs (M.length - 1)).1, x2, m2, y2))) := by
              have h5 := (HO4.out.below D2.out).setOrders (i := M.length - 1) HJ.out ((Rk.at_ Lv.S Hs (M.length - 1)).1, x2, m2, y2) (G ++ [((i', ow, pr, am, dy, pk, hd, gd) : Or.E)]) (HO4.out.price _ HJ.out) (HO2.out.mono B4.out.size) (fun q hq => by
                have e1 := (HO2.out.lt q hq).1
                have hu := HO4.out.under
                exact ⟨fun e => by have := HGZ.out; omega, fun j' hj' _ e => by have := hu.each j' hj' q e; omega⟩)
              rw [HEQ.out]
              exact h5
            have HFB : Hid (Below w.heap.size w (w2.setCell ⟨g, (M.length - 1) * 2 + 1, none⟩ (.slice x2 m2 y2))) := (B4.out.trans (D2.out.mono B4.out.size)).setCell HGB.out _
            go_wp2_with fail
            go_roundw
            case rel => exact ⟨k + 1, _, _, _, _, by omega, rfl, by go_num, HF, HFB⟩
            case measure => simp [intOf]; omega
        · have d1 : decide (lp = pr) = false := decide_eq_false hne
          have d2 : (lp == pr) = false := by simpa using hne
          have d3 : (lp != pr) = true := by simpa using hne
          have hne' := Fk.hide hne
          clear hne
          go_wp2_with fail
          refine wp_region_quiet_below (by kernel_rfl) (by kernel_rfl) ?_
          repeat (go_big_quiet_step (fail))
          refine wpQuiet_nil ?_
          intro w4 hw'
          obtain ⟨⟨dq, osq⟩, hw''⟩ := hw'
          have k4 : Below wr.heap.size wr w4 := by rw [hw'']; exact below_regrown wr dq osq
          have B4 : Hid (Below w.heap.size w w4) := HB.out.trans (k4.mono HB.out.size)
          have HO4 := Fk.hide (HO.out.below k4)
          clear hw'' k4
          have q0 : w4.cell? ⟨b, o + k * 8, none⟩ = some (.int .i64 i') := by have := Or.c0 (hs1.below hb B4.out) hlt; rw [← HX.out] at this; exact this
          have q1 : w4.cell? ⟨b, o + k * 8 + 1, none⟩ = some (.int .i64 ow) := by have := Or.c1 (hs1.below hb B4.out) hlt; rw [← HX.out] at this; exact this
          have q2 : w4.cell? ⟨b, o + k * 8 + 2, none⟩ = some (.int .i64 pr) := by have := Or.c2 (hs1.below hb B4.out) hlt; rw [← HX.out] at this; exact this
          have q3 : w4.cell? ⟨b, o + k * 8 + 3, none⟩ = some (.int .i64 am) := by have := Or.c3 (hs1.below hb B4.out) hlt; rw [← HX.out] at this; exact this
          have q4 : w4.cell? ⟨b, o + k * 8 + 4, none⟩ = some (.bool dy) := by have := Or.c4 (hs1.below hb B4.out) hlt; rw [← HX.out] at this; exact this
          have q5 : w4.cell? ⟨b, o + k * 8 + 5, none⟩ = some (.int .i64 pk) := by have := Or.c5 (hs1.below hb B4.out) hlt; rw [← HX.out] at this; exact this
          have q6 : w4.cell? ⟨b, o + k * 8 + 6, none⟩ = some (.int .i64 hd) := by have := Or.c6 (hs1.below hb B4.out) hlt; rw [← HX.out] at this; exact this
          have q7 : w4.cell? ⟨b, o + k * 8 + 7, none⟩ = some (.bool gd) := by have := Or.c7 (hs1.below hb B4.out) hlt; rw [← HX.out] at this; exact this
          have b5 : Below w4.heap.size w4 (w4.alloc (.cells #[.int .i64 pr, .slice none 0 0] 103)) := (Below.refl _ _).alloc (Nat.le_refl _) _
          have HB5 : Hid (Below w.heap.size w (w4.alloc (.cells #[.int .i64 pr, .slice none 0 0] 103))) := B4.out.trans (b5.mono B4.out.size)
          have HO5 := Fk.hide (HO4.out.below b5)
          have HV5 := Fk.hide (Rk.view_lit1 (S := Lv.S) w4 103 #[.int .i64 pr, .slice none 0 0] (pr, none, 0, 0) rfl)
          have HLM : Hid (Hs.length + [((pr, none, 0, 0) : Lv.H)].length ≤ 1000000000) := by show _ ≤ _; rw [HO5.out.len]; have := HML.out; simp <;> omega
          clear b5 HO
          go_wp2_with (at_builtin; refine Rk.wpList_append_where _ rfl _ _ 26 rfl w.heap.size 103 i1 _ 2 32 rfl Try.underlying26 hi1 hy0 hy1 hy2 rfl (by decide) _ (.slice (some ⟨w4.heap.size, 0, none⟩) 1 1) Hs [((pr, none, 0, 0) : Lv.H)] rfl rfl HO5.out.row HV5.out (Rk.shut_some _ _ _) HLM.out HB5.out.size ?_; intro u6 w6 o6 g6 n6; have HB6 : Hid (Below w.heap.size w w6) := HB5.out.grown g6 HB5.out.size (fun j hj => (HO5.out.row.lt j hj).1); have HT0 : Hid (Lv.Own w6 w.heap.size 103 55 u6 (M ++ [(pr, [])]) (Hs ++ [((pr, none, 0, 0) : Lv.H)])) := HO5.out.push (pr, none, 0, 0) [] (Rk.own_nil _ _ _) (fun k hk => by simp [Lv.sl, Value.ownBlock] at hk) o6 g6 n6; obtain ⟨x6, n6', c6, rfl⟩ := o6.slice'; clear g6 o6 n6)
          obtain ⟨g', rfl⟩ : ∃ g, x6 = some ⟨g, 0, none⟩ := by
            rcases HT0.out.row.form with ⟨h1, h2⟩ | ⟨g, c', h1, _⟩
            · simp at h2
            · simp only [Value.slice.injEq] at h1; exact ⟨g, h1.1⟩
          obtain ⟨T, hT⟩ : ∃ T : List Lv.E, T = M ++ [(pr, [])] := ⟨_, rfl⟩
          obtain ⟨HsT, hHs⟩ : ∃ HsT : List Lv.H, HsT = Hs ++ [((pr, none, 0, 0) : Lv.H)] := ⟨_, rfl⟩
          rw [← hT, ← hHs] at HT0
          have hHl : Hs.length = M.length := HO4.out.len
          have HJ : Hid (M.length < T.length) := by show _ < _; rw [hT]; simp
          have hsl : Rk.at_ Lv.S HsT M.length = (pr, none, 0, 0) := by rw [hHs, ← hHl]; exact Lv.h_last _ _
          have HEQ : Hid (Nb.levels (L.take (k + 1)) = T.set M.length ((Rk.at_ Lv.S HsT M.length).1, [] ++ [((i', ow, pr, am, dy, pk, hd, gd) : Or.E)])) := by
            show _ = _
            rw [HST.out, hT, hsl, show Ob.at' L k = (i', ow, pr, am, dy, pk, hd, gd) from HX.out.symm, Nb.addO_new]
            · rw [List.set_append_right _ _ (Nat.le_refl _), Nat.sub_self]; rfl
            · intro h; exact hne'.out (HLP.out.trans h.2)
          have hns := HT0.out.row.len
          have hn1 : n6' = M.length + 1 := by rw [hns, hHs]; simp [hHl]
          subst hn1
          have t1 : w6.cell? ⟨g', M.length * 2 + 1, none⟩ = some (.slice none 0 0) := by
            have := Lv.o1 HT0.out.row (k := M.length) (by rw [hHs]; simp [hHl])
            rw [hsl] at this
            exact this
          have f1 := HT0.out.row.frozen (M.length * 2 + 1)
          have m7 : (M.length : Int) - 1 + 1 = (M.length : Int) := by omega
          have m8 : (M.length : Int) < ((M.length + 1 : Nat) : Int) := by omega
          have m9 : (M.length : Int) < (M.length : Int) + 1 := by omega
          clear hT hHs hHl hsl hns
          have HU : Hid (Rk.View Or.S w6 (.slice none 0 0) []) := Rk.view_none _
          have HSU : Hid (Rk.Shut (.slice none 0 0)) := Rk.shut_none
          have HLO : Hid (([] : List Or.E).length ≤ 1048576) := by show _ ≤ _; simp
          obtain ⟨g, hgg⟩ : ∃ g, g = g' := ⟨_, rfl⟩
          subst hgg
          have HGB : Hid (w.heap.size ≤ g) := (HT0.out.row.lt g rfl).1
          clear q0 q1 q2 q3 q4 q5 q6 q7 r2 r0 t0 m2 m3 m4
          have q0 : w6.cell? ⟨b, o + k * 8, none⟩ = some (.int .i64 i') := by have := Or.c0 (hs1.below hb HB6.out) hlt; rw [← HX.out] at this; exact this
          have q1 : w6.cell? ⟨b, o + k * 8 + 1, none⟩ = some (.int .i64 ow) := by have := Or.c1 (hs1.below hb HB6.out) hlt; rw [← HX.out] at this; exact this
          have q2 : w6.cell? ⟨b, o + k * 8 + 2, none⟩ = some (.int .i64 pr) := by have := Or.c2 (hs1.below hb HB6.out) hlt; rw [← HX.out] at this; exact this
          have q3 : w6.cell? ⟨b, o + k * 8 + 3, none⟩ = some (.int .i64 am) := by have := Or.c3 (hs1.below hb HB6.out) hlt; rw [← HX.out] at this; exact this
          have q4 : w6.cell? ⟨b, o + k * 8 + 4, none⟩ = some (.bool dy) := by have := Or.c4 (hs1.below hb HB6.out) hlt; rw [← HX.out] at this; exact this
          have q5 : w6.cell? ⟨b, o + k * 8 + 5, none⟩ = some (.int .i64 pk) := by have := Or.c5 (hs1.below hb HB6.out) hlt; rw [← HX.out] at this; exact this
          have q6 : w6.cell? ⟨b, o + k * 8 + 6, none⟩ = some (.int .i64 hd) := by have := Or.c6 (hs1.below hb HB6.out) hlt; rw [← HX.out] at this; exact this
          have q7 : w6.cell? ⟨b, o + k * 8 + 7, none⟩ = some (.bool gd) := by have := Or.c7 (hs1.below hb HB6.out) hlt; rw [← HX.out] at this; exact this
          have R0 := Below.refl w6.heap.size w6
          have C1 : Hid (Below w6.heap.size w6 (w6.alloc (.cells #[] 55)).drew) := Below.drew (R0.alloc (Nat.le_refl _) _)
          have C2 : Hid (Below w6.heap.size w6 ((w6.alloc (.cells #[] 55)).alloc (.cells #[.int .i64 i', .int .i64 ow, .int .i64 pr, .int .i64 am, .bool dy, .int .i64 pk, .int .i64 hd, .bool gd] 55)).drew) := Below.drew ((R0.alloc (Nat.le_refl _) _).alloc (by simp) _)
          have C3 : Hid (Below w6.heap.size w6 ((w6.alloc (.cells #[.int .i64 i', .int .i64 ow, .int .i64 pr, .int .i64 am, .bool dy, .int .i64 pk, .int .i64 hd, .bool gd] 55)).alloc (.cells #[] 55)).drew) := Below.drew ((R0.alloc (Nat.le_refl _) _).alloc (by simp) _)
          have h1 : Hid (Rk.Own Or.S (w6.alloc (.cells #[] 55)).drew w6.heap.size 55 (.slice (some ⟨w6.heap.size, 0, none⟩) 0 0) []) := (Rk.own_empty w6 55 _ (Nat.le_refl _)).below (Below.drew (Below.refl _ _))
          have h2 : Hid (Rk.Own Or.S ((w6.alloc (.cells #[] 55)).alloc (.cells #[.int .i64 i', .int .i64 ow, .int .i64 pr, .int .i64 am, .bool dy, .int .i64 pk, .int .i64 hd, .bool gd] 55)).drew w6.heap.size 55 (.slice (some ⟨w6.heap.size, 0, none⟩) 0 0) []) := ((Rk.own_empty w6 55 _ (Nat.le_refl _)).below ((Below.refl _ _).alloc (Nat.le_refl _) _)).below (Below.drew (Below.refl _ _))
          have h3 : Hid (Rk.Own Or.S ((w6.alloc (.cells #[.int .i64 i', .int .i64 ow, .int .i64 pr, .int .i64 am, .bool dy, .int .i64 pk, .int .i64 hd, .bool gd] 55)).alloc (.cells #[] 55)).drew w6.heap.size 55 (.slice (some ⟨w6.heap.size + 1, 0, none⟩) 0 0) []) := by
            have := (Rk.own_empty (S := Or.S) (w6.alloc (.cells #[.int .i64 i', .int .i64 ow, .int .i64 pr, .int .i64 am, .bool dy, .int .i64 pk, .int .i64 hd, .bool gd] 55)) 55 w6.heap.size (by simp)).below (Below.drew (Below.refl _ _))
            rw [show (w6.alloc (.cells #[.int .i64 i', .int .i64 ow, .int .i64 pr, .int .i64 am, .bool dy, .int .i64 pk, .int .i64 hd, .bool gd] 55)).heap.size = w6.heap.size + 1 by simp] at this
            exact this
          have v2 : Hid (Rk.View Or.S ((w6.alloc (.cells #[] 55)).alloc (.cells #[.int .i64 i', .int .i64 ow, .int .i64 pr, .int .i64 am, .bool dy, .int .i64 pk, .int .i64 hd, .bool gd] 55)).drew (.slice (some ⟨w6.heap.size + 1, 0, none⟩) 1 1) [((i', ow, pr, am, dy, pk, hd, gd) : Or.E)]) := by
            have := (Rk.view_lit1 (S := Or.S) (w6.alloc (.cells #[] 55)) 55 #[.int .i64 i', .int .i64 ow, .int .i64 pr, .int .i64 am, .bool dy, .int .i64 pk, .int .i64 hd, .bool gd] (i', ow, pr, am, dy, pk, hd, gd) rfl).below (Below.drew (Below.refl _ _))
            rw [show (w6.alloc (.cells #[] 55)).heap.size = w6.heap.size + 1 by simp] at this
            exact this
          have v3 : Hid (Rk.View Or.S ((w6.alloc (.cells #[.int .i64 i', .int .i64 ow, .int .i64 pr, .int .i64 am, .bool dy, .int .i64 pk, .int .i64 hd, .bool gd] 55)).alloc (.cells #[] 55)).drew (.slice (some ⟨w6.heap.size, 0, none⟩) 1 1) [((i', ow, pr, am, dy, pk, hd, gd) : Or.E)]) := ((Rk.view_lit1 (S := Or.S) w6 55 #[.int .i64 i', .int .i64 ow, .int .i64 pr, .int .i64 am, .bool dy, .int .i64 pk, .int .i64 hd, .bool gd] (i', ow, pr, am, dy, pk, hd, gd) rfl).below ((Below.refl _ _).alloc (Nat.le_refl _) _)).below (Below.drew (Below.refl _ _))
          clear R0
          have hl1 : Hid (([] : List Or.E).length + ([] : List Or.E).length ≤ 1000000000) := by show _ ≤ _; have := HLO.out; simp <;> omega
          have hl2 : Hid (([] : List Or.E).length + [((i', ow, pr, am, dy, pk, hd, gd) : Or.E)].length ≤ 1000000000) := by show _ ≤ _; have := HLO.out; simp <;> omega
          have HGZ : Hid (g < w6.heap.size) := (HT0.out.row.lt g rfl).2
          have HBZ : Hid (b < w6.heap.size) := Nat.lt_of_lt_of_le hb HB6.out.size
          have e0 : (w6.alloc (.cells #[] 55)).cell? ⟨b, o + k * 8, none⟩ = some (.int .i64 i') := (Fk.cellOld _ _ _ _ HBZ.out).trans q0
          have e1 : (w6.alloc (.cells #[] 55)).cell? ⟨b, o + k * 8 + 1, none⟩ = some (.int .i64 ow) := (Fk.cellOld _ _ _ _ HBZ.out).trans q1
          have e2 : (w6.alloc (.cells #[] 55)).cell? ⟨b, o + k * 8 + 2, none⟩ = some (.int .i64 pr) := (Fk.cellOld _ _ _ _ HBZ.out).trans q2
          have e3 : (w6.alloc (.cells #[] 55)).cell? ⟨b, o + k * 8 + 3, none⟩ = some (.int .i64 am) := (Fk.cellOld _ _ _ _ HBZ.out).trans q3
          have e4 : (w6.alloc (.cells #[] 55)).cell? ⟨b, o + k * 8 + 4, none⟩ = some (.bool dy) := (Fk.cellOld _ _ _ _ HBZ.out).trans q4
          have e5 : (w6.alloc (.cells #[] 55)).cell? ⟨b, o + k * 8 + 5, none⟩ = some (.int .i64 pk) := (Fk.cellOld _ _ _ _ HBZ.out).trans q5
          have e6 : (w6.alloc (.cells #[] 55)).cell? ⟨b, o + k * 8 + 6, none⟩ = some (.int .i64 hd) := (Fk.cellOld _ _ _ _ HBZ.out).trans q6
          have e7 : (w6.alloc (.cells #[] 55)).cell? ⟨b, o + k * 8 + 7, none⟩ = some (.bool gd) := (Fk.cellOld _ _ _ _ HBZ.out).trans q7
          go_wp2_with fail
          go_simp
          go_wp2_with fail
          go_region_law (first
            | (refine Rk.step_append_view _ (by rfl) _ _ 30 (by rfl) w6.heap.size 55 i0 _ 8 64 rfl Try.underlying30 hi hz0 hz1 hz2 (by rfl) (by decide) (.slice x1 m1 y1) (.slice (some ⟨w1.heap.size, 0, none⟩) 1 1) ([] : List Or.E) [((i', ow, pr, am, dy, pk, hd, gd) : Or.E)] (by rfl) (by rfl) HOa.out HVa.out (Rk.shut_some _ _ _) hl2.out Ca.out.size ?_; intro u2 w2 o2 g2; obtain ⟨x2, m2, y2, rfl⟩ := o2.slice'; have D2 : Hid (Below w6.heap.size w6 w2) := Ca.out.grown g2 Ca.out.size (fun j hj => (HOa.out.lt j hj).1); have HO2 := Fk.hide o2; have t2 : w2.cell? ⟨g, M.length * 2 + 1, none⟩ = some (.slice none 0 0) := (D2.out.cell (by exact HGZ.out)).trans t1; have s2 : w2.frozen? ⟨g, M.length * 2 + 1, none⟩ = false := (D2.out.frozen (by exact HGZ.out)).trans f1; clear o2 g2)
            | (refine Rk.step_append_view _ (by rfl) _ _ 30 (by rfl) w6.heap.size 55 i0 _ 8 64 rfl Try.underlying30 hi hz0 hz1 hz2 (by rfl) (by decide) (.slice x1 m1 y1) (.slice (some ⟨w6.heap.size + 1, 0, none⟩) 1 1) ([] : List Or.E) [((i', ow, pr, am, dy, pk, hd, gd) : Or.E)] (by rfl) (by rfl) HOb.out HVb.out (Rk.shut_some _ _ _) hl2.out D1.out.size ?_; intro u2 w2 o2 g2; obtain ⟨x2, m2, y2, rfl⟩ := o2.slice'; have D2 : Hid (Below w6.heap.size w6 w2) := D1.out.grown g2 D1.out.size (fun j hj => (HOb.out.lt j hj).1); have HO2 := Fk.hide o2; have t2 : w2.cell? ⟨g, M.length * 2 + 1, none⟩ = some (.slice none 0 0) := (D2.out.cell (by exact HGZ.out)).trans t1; have s2 : w2.frozen? ⟨g, M.length * 2 + 1, none⟩ = false := (D2.out.frozen (by exact HGZ.out)).trans f1; clear o2 g2)
            | (refine Rk.step_append_view _ (by rfl) _ _ 30 (by rfl) w6.heap.size 55 i0 _ 8 64 rfl Try.underlying30 hi hz0 hz1 hz2 (by rfl) (by decide) (.slice x1 m1 y1) (.slice (some ⟨w6.heap.size, 0, none⟩) 1 1) ([] : List Or.E) [((i', ow, pr, am, dy, pk, hd, gd) : Or.E)] (by rfl) (by rfl) HOc.out HVc.out (Rk.shut_some _ _ _) hl2.out D1.out.size ?_; intro u2 w2 o2 g2; obtain ⟨x2, m2, y2, rfl⟩ := o2.slice'; have D2 : Hid (Below w6.heap.size w6 w2) := D1.out.grown g2 D1.out.size (fun j hj => (HOc.out.lt j hj).1); have HO2 := Fk.hide o2; have t2 : w2.cell? ⟨g, M.length * 2 + 1, none⟩ = some (.slice none 0 0) := (D2.out.cell (by exact HGZ.out)).trans t1; have s2 : w2.frozen? ⟨g, M.length * 2 + 1, none⟩ = false := (D2.out.frozen (by exact HGZ.out)).trans f1; clear o2 g2)
            | (refine Rk.step_append_view _ (by rfl) _ _ 30 (by rfl) w6.heap.size 55 i0 _ 8 64 rfl Try.underlying30 hi hz0 hz1 hz2 (by rfl) (by decide) _ (.slice none 0 0) [] ([] : List Or.E) (by rfl) (by rfl) h1.out (HU.out.below C1.out) HSU.out hl1.out C1.out.size ?_; intro u1 w1 o1 g1; rw [List.nil_append] at o1; obtain ⟨x1, m1, y1, rfl⟩ := o1.slice'; have D1 : Hid (Below w6.heap.size w6 w1) := C1.out.grown g1 C1.out.size (fun j hj => (h1.out.lt j hj).1); have f0' : w1.cell? ⟨b, o + k * 8, none⟩ = some (.int .i64 i') := (D1.out.cell (by exact HBZ.out)).trans q0; have f1' : w1.cell? ⟨b, o + k * 8 + 1, none⟩ = some (.int .i64 ow) := (D1.out.cell (by exact HBZ.out)).trans q1; have f2' : w1.cell? ⟨b, o + k * 8 + 2, none⟩ = some (.int .i64 pr) := (D1.out.cell (by exact HBZ.out)).trans q2; have f3' : w1.cell? ⟨b, o + k * 8 + 3, none⟩ = some (.int .i64 am) := (D1.out.cell (by exact HBZ.out)).trans q3; have f4' : w1.cell? ⟨b, o + k * 8 + 4, none⟩ = some (.bool dy) := (D1.out.cell (by exact HBZ.out)).trans q4; have f5' : w1.cell? ⟨b, o + k * 8 + 5, none⟩ = some (.int .i64 pk) := (D1.out.cell (by exact HBZ.out)).trans q5; have f6' : w1.cell? ⟨b, o + k * 8 + 6, none⟩ = some (.int .i64 hd) := (D1.out.cell (by exact HBZ.out)).trans q6; have f7' : w1.cell? ⟨b, o + k * 8 + 7, none⟩ = some (.bool gd) := (D1.out.cell (by exact HBZ.out)).trans q7; have HOa : Hid (Rk.Own Or.S (w1.alloc (.cells #[.int .i64 i', .int .i64 ow, .int .i64 pr, .int .i64 am, .bool dy, .int .i64 pk, .int .i64 hd, .bool gd] 55)) w6.heap.size 55 (.slice x1 m1 y1) ([] : List Or.E)) := o1.below ((Below.refl _ _).alloc (Nat.le_refl _) _); have HVa : Hid (Rk.View Or.S (w1.alloc (.cells #[.int .i64 i', .int .i64 ow, .int .i64 pr, .int .i64 am, .bool dy, .int .i64 pk, .int .i64 hd, .bool gd] 55)) (.slice (some ⟨w1.heap.size, 0, none⟩) 1 1) [((i', ow, pr, am, dy, pk, hd, gd) : Or.E)]) := Rk.view_lit1 w1 55 #[.int .i64 i', .int .i64 ow, .int .i64 pr, .int .i64 am, .bool dy, .int .i64 pk, .int .i64 hd, .bool gd] (i', ow, pr, am, dy, pk, hd, gd) rfl; have Ca : Hid (Below w6.heap.size w6 (w1.alloc (.cells #[.int .i64 i', .int .i64 ow, .int .i64 pr, .int .i64 am, .bool dy, .int .i64 pk, .int .i64 hd, .bool gd] 55))) := D1.out.alloc D1.out.size _; clear o1 g1)
            | (refine Rk.step_append_view _ (by rfl) _ _ 30 (by rfl) w6.heap.size 55 i0 _ 8 64 rfl Try.underlying30 hi hz0 hz1 hz2 (by rfl) (by decide) _ (.slice none 0 0) [] ([] : List Or.E) (by rfl) (by rfl) h2.out (HU.out.below C2.out) HSU.out hl1.out C2.out.size ?_; intro u1 w1 o1 g1; rw [List.nil_append] at o1; obtain ⟨x1, m1, y1, rfl⟩ := o1.slice'; have D1 : Hid (Below w6.heap.size w6 w1) := C2.out.grown g1 C2.out.size (fun j hj => (h2.out.lt j hj).1); have HOb := Fk.hide o1; have HVb : Hid (Rk.View Or.S w1 (.slice (some ⟨w6.heap.size + 1, 0, none⟩) 1 1) [((i', ow, pr, am, dy, pk, hd, gd) : Or.E)]) := Rk.view_grown v2.out g1 (by intro e; simp [Value.ownBlock] at e); clear o1 g1)
            | (refine Rk.step_append_view _ (by rfl) _ _ 30 (by rfl) w6.heap.size 55 i0 _ 8 64 rfl Try.underlying30 hi hz0 hz1 hz2 (by rfl) (by decide) _ (.slice none 0 0) [] ([] : List Or.E) (by rfl) (by rfl) h3.out (HU.out.below C3.out) HSU.out hl1.out C3.out.size ?_; intro u1 w1 o1 g1; rw [List.nil_append] at o1; obtain ⟨x1, m1, y1, rfl⟩ := o1.slice'; have D1 : Hid (Below w6.heap.size w6 w1) := C3.out.grown g1 C3.out.size (fun j hj => (h3.out.lt j hj).1); have HOc := Fk.hide o1; have HVc : Hid (Rk.View Or.S w1 (.slice (some ⟨w6.heap.size, 0, none⟩) 1 1) [((i', ow, pr, am, dy, pk, hd, gd) : Or.E)]) := Rk.view_grown v3.out g1 (by intro e; simp [Value.ownBlock] at e); clear o1 g1))
          all_goals
            have HF : Hid (Lv.Own (w2.setCell ⟨g, M.length * 2 + 1, none⟩ (.slice x2 m2 y2)) w.heap.size 103 55 (.slice (some ⟨g, 0, none⟩) (M.length + 1) c6) (Nb.levels (L.take (k + 1))) (HsT.set (M.length) ((Rk.at_ Lv.S HsT (M.length)).1, x2, m2, y2))) := by
              have h5 := (HT0.out.below D2.out).setOrders (i := M.length) HJ.out ((Rk.at_ Lv.S HsT (M.length)).1, x2, m2, y2) (([] : List Or.E) ++ [((i', ow, pr, am, dy, pk, hd, gd) : Or.E)]) (HT0.out.price _ HJ.out) (HO2.out.mono HB6.out.size) (fun q hq => by
                have e1 := (HO2.out.lt q hq).1
                have hu := HT0.out.under
                exact ⟨fun e => by have := HGZ.out; omega, fun j' hj' _ e => by have := hu.each j' hj' q e; omega⟩)
              rw [HEQ.out]
              exact h5
            have HFB : Hid (Below w.heap.size w (w2.setCell ⟨g, M.length * 2 + 1, none⟩ (.slice x2 m2 y2))) := (HB6.out.trans (D2.out.mono HB6.out.size)).setCell HGB.out _
            go_wp2_with fail
            go_roundw
            case rel => exact ⟨k + 1, _, _, _, _, by omega, rfl, by go_num, HF, HFB⟩
            case measure => simp [intOf]; omega
    · have e : k = L.length := by omega
      subst e
      rw [Nb.levels_all] at HO
      go_wp2_with fail
      go_ret
      exact ⟨⟨_, _, rfl, HO.out⟩, HB.out⟩
end Go.Proofs.Ytjagohadeegghaa
