/- The walk of the specification's l02Put: a file put into its place. -/
import Derived.Test.YtojdfdlbdpdlkaaGreatDoorJoined15
import Derived.Test.YtojdfdlbdpdlkaaGreatDoorJoined7
import Derived.Lib.QuietBelow
namespace Go.Proofs.YtojdfdlbdpdlkaaGreatDoor
open Go.RowKit
set_option linter.unusedVariables false
set_option linter.unusedSimpArgs false
namespace Fk
theorem view_of {w : World} {b o n c : Nat} {N : List Fl} (h : Sees w b o N) (hb : b < w.heap.size) (hn : n = N.length) : View w (.slice (some ⟨b, o, none⟩) n c) N :=
  ⟨_, c, by rw [hn], fun _ => ⟨b, o, rfl, hb, h⟩⟩
theorem view_none (w : World) : View w (.slice none 0 0) [] := ⟨none, 0, rfl, fun h => absurd h (Nat.lt_irrefl _)⟩
theorem shut_put (a : Addr) (n c : Nat) : Shut (.slice (some a) n c) := fun _ _ _ h e => by cases h; cases e
theorem shut_none : Shut (.slice none 0 0) := fun _ _ _ h e => by cases h; rfl
theorem view_lit (w : World) (x : Fl) (t : TypeId) : View (w.alloc (.cells #[.string x.1, .string x.2.1, .int .i64 x.2.2] t)) (.slice (some ⟨w.heap.size, 0, none⟩) 1 1) [x] := by
  refine view_of ⟨fun i hi => ?_, fun i hi => ?_, fun i hi => ?_⟩ (by simp) rfl
  all_goals
    have e : i = 0 := by simpa using hi
    subst e
    rw [cellTop _ _ _ _ _ rfl]
    rfl
theorem Own.slice' {w : World} {base : Nat} {e : TypeId} {v : Value} {L : List Fl} (h : Own w base e v L) : ∃ a n cap, v = .slice a n cap := by
  obtain ⟨a, c, h⟩ := h.slice
  exact ⟨a, _, c, h⟩
theorem kept_cell {w1 w2 : World} {B : Nat} {c : Value} {t : TypeId} {cs : Array Value} {v : Value} {N : List Fl} {e : TypeId} (h : w1.cell? ⟨B, 0, none⟩ = some c) (hB : B < w1.heap.size) (ho : Own (w1.alloc (.cells cs t)) (B + 1) e v N) (g : (w1.alloc (.cells cs t)).grownBy w2 v.ownBlock) : w2.cell? ⟨B, 0, none⟩ = some c :=
  g.cell ((cellOld _ _ _ _ hB).trans h) (fun e => by have := (World.ownsRow.lt ho _ e.symm).1; simp only at this; omega)
/-- a list with a file put in at its place -/
def put (L : List Fl) (x : Fl) (k : Nat) (e : Bool) : List Fl := L.take k ++ [x] ++ L.drop (if e then k + 1 else k)
/-- .. the place of the file -/
def Place (L : List Fl) (x : Fl) (k : Nat) (e : Bool) : Prop := k ≤ L.length ∧ (∀ j, j < k → less (nm L j) x.1 = true) ∧ (k < L.length → less (nm L k) x.1 = false) ∧ (e = true ↔ k < L.length ∧ nm L k = x.1)
theorem put_rises {L : List Fl} (h : Rises L) {x : Fl} {k : Nat} {e : Bool} (hp : Place L x k e) : Rises (put L x k e) ∧ ∀ g, g ∈ put L x k e ↔ g ∈ without L x.1 ++ [x] := by
  obtain ⟨hk, h1, h2, h3⟩ := hp
  have hlt := List.pairwise_iff_getElem.1 h
  have nmi : ∀ i (hi : i < L.length), L[i].1 = nm L i := fun i hi => by simp [nm, List.getD, List.getElem?_eq_getElem hi]
  have up : ∀ i (hi : i < L.length), (if e then k + 1 else k) ≤ i → less x.1 L[i].1 = true := by
    intro i hi hle
    rw [nmi i hi]
    have hkl : k < L.length := by split at hle <;> omega
    rcases less_total x.1 (nm L k) with hh | hh | hh
    · by_cases e1 : i = k
      · rw [e1]; exact hh
      · have := hlt k i hkl hi (by split at hle <;> omega)
        rw [nmi k hkl, nmi i hi] at this
        exact less_trans hh this
    · have he : e = true := h3.2 ⟨hkl, hh.symm⟩
      rw [he] at hle
      simp at hle
      have := hlt k i hkl hi (by omega)
      rw [nmi k hkl, nmi i hi] at this
      rw [hh]; exact this
    · rw [h2 hkl] at hh; cases hh
  have upm : ∀ f ∈ L.drop (if e then k + 1 else k), less x.1 f.1 = true := by
    intro f hf
    obtain ⟨i, hi, rfl⟩ := List.getElem_of_mem hf
    rw [List.getElem_drop]
    exact up _ _ (by omega)
  have dnm : ∀ f ∈ L.take k, less f.1 x.1 = true := by
    intro f hf
    obtain ⟨i, hi, rfl⟩ := List.getElem_of_mem hf
    rw [List.getElem_take]
    have hil : i < L.length := by simp at hi; omega
    rw [nmi i hil]
    exact h1 i (by simp at hi; omega)
  constructor
  · unfold put Rises
    rw [List.append_assoc, List.pairwise_append]
    refine ⟨h.sublist (List.take_sublist _ _), ?_, ?_⟩
    · rw [List.singleton_append, List.pairwise_cons]
      exact ⟨upm, h.sublist (List.drop_sublist _ _)⟩
    · intro f hf g hg
      rw [List.singleton_append, List.mem_cons] at hg
      rcases hg with rfl | hg
      · exact dnm f hf
      · exact less_trans (dnm f hf) (upm g hg)
  · intro g
    unfold put
    simp only [List.mem_append, List.mem_singleton]
    constructor
    · rintro ((hg | hg) | hg)
      · exact .inl (List.mem_filter.2 ⟨List.mem_of_mem_take hg, by simpa using less_ne (dnm g hg)⟩)
      · exact .inr hg
      · exact .inl (List.mem_filter.2 ⟨List.mem_of_mem_drop hg, by simpa using (less_ne (upm g hg)).symm⟩)
    · rintro (hg | hg)
      · obtain ⟨hm, hne⟩ := List.mem_filter.1 hg
        have hne : g.1 ≠ x.1 := by simpa using hne
        obtain ⟨i, hi, rfl⟩ := List.getElem_of_mem hm
        by_cases hik : i < k
        · exact .inl (.inl (List.mem_iff_getElem.2 ⟨i, by simp; omega, by rw [List.getElem_take]⟩))
        · have hi2 : (if e then k + 1 else k) ≤ i := by
            split
            · rename_i he
              have := h3.1 he
              by_cases e1 : i = k
              · subst e1; rw [nmi i hi] at hne; exact absurd this.2 hne
              · omega
            · omega
          exact .inr (List.mem_iff_getElem.2 ⟨i - (if e then k + 1 else k), by simp; omega, by rw [List.getElem_drop]; congr 1; omega⟩)
      · exact .inl (.inr hg)
end Fk

set_option maxRecDepth 20000 in
set_option maxHeartbeats 4000000 in
theorem l02Put_any (v : Value) (L : List Fk.Fl) (x : Fk.Fl) (base : Nat) (w : World) (hv : Fk.Own w base 75 v L) (hl : L.length ≤ 1000) :
    Calls Tryz.prog 62 #[v, .agg #[.string x.1, .string x.2.1, .int .i64 x.2.2]] w fun e w' => (∃ u k q, e = .returned u ∧ Fk.Place L x k q ∧ Fk.Own w' w.heap.size 75 u (Fk.put L x k q)) ∧ Below w.heap.size w w' := by
  obtain ⟨i0, hi, hz0, hz1, hz2⟩ := info_parts infoFile
  have hzs : (Value.agg #[.string ByteArray.empty, .string ByteArray.empty, .int .i64 0]).cells.size = 3 := by kernel_rfl
  obtain ⟨W, hW⟩ : ∃ W, W = w.alloc (.cells #[.string x.1, .string x.2.1, .int .i64 x.2.2] 75) := ⟨_, rfl⟩
  have b0 : Below w.heap.size w W := by rw [hW]; exact (Below.refl _ _).alloc (Nat.le_refl _) _
  have hsz : W.heap.size = w.heap.size + 1 := by rw [hW]; simp
  have q0 : W.cell? ⟨w.heap.size, 0, none⟩ = some (.string x.1) := by rw [hW, Fk.cellTop _ _ _ _ _ rfl]; rfl
  have q1 : W.cell? ⟨w.heap.size, 1, none⟩ = some (.string x.2.1) := by rw [hW, Fk.cellTop _ _ _ _ _ rfl]; rfl
  have q2 : W.cell? ⟨w.heap.size, 2, none⟩ = some (.int .i64 x.2.2) := by rw [hW, Fk.cellTop _ _ _ _ _ rfl]; rfl
  have HW := Fk.hide hW
  clear hW
  have hb63 : ∀ (A B : Nat), A ≤ 1001 → B ≤ 1001 → A + B ≤ 1000000000 := by omega
  have HB63 := Fk.hide hb63
  clear hb63
  obtain ⟨hnil, rfl⟩ | ⟨g, cap, rfl, hcap, hg, hsee⟩ : (v = .slice none 0 0 ∧ L = []) ∨ ∃ g cap, v = .slice (some ⟨g, 0, none⟩) L.length cap ∧ L.length ≤ cap ∧ g < w.heap.size ∧ Fk.Sees w g 0 L := by
    have h' := hv
    obtain ⟨_, hn | ⟨g, cap, cur, rfl, _, hg, hc, _⟩⟩ := h'
    · exact .inl ⟨hn.1, List.length_eq_zero_iff.1 hn.2⟩
    · exact .inr ⟨g, cap, rfl, hc, (Array.getElem?_eq_some_iff.1 hg).1, Fk.sees_of_owns hv⟩
  · subst hnil
    clear hv hl
    go_enter Tryz.func62, Tryz.ntmps62
    go_wp2_with fail
    rw [← HW.out]
    go_loopw [5] (fun i wr => i = .int .i64 0 ∧ wr = W) (fun _ _ => 0)
    case atStart => exact ⟨rfl, rfl⟩
    case round =>
      obtain ⟨rfl, ewr⟩ := hrel
      rw [ewr]
      clear ewr
      have hd1 : decide ((0 : Int) < 0) = false := by decide
      go_wp2_with fail
      refine wp_region_quiet_below (by kernel_rfl) (by kernel_rfl) ?_
      repeat (go_big_quiet_step (fail))
      refine wpQuiet_nil ?_
      intro w4 hw'
      obtain ⟨⟨dq, osq⟩, hw''⟩ := hw'
      have b4 : Below W.heap.size W w4 := by rw [hw'']; exact below_regrown W dq osq
      clear hw''
      have B4 := Fk.hide (b0.trans (b4.mono b0.size))
      have hz4 : W.heap.size ≤ w4.heap.size := b4.size
      have e0 : w4.cell? ⟨w.heap.size, 0, none⟩ = some (.string x.1) := (b4.cell (by show w.heap.size < _; omega)).trans q0
      have e1 : w4.cell? ⟨w.heap.size, 1, none⟩ = some (.string x.2.1) := (b4.cell (by show w.heap.size < _; omega)).trans q1
      have e2 : w4.cell? ⟨w.heap.size, 2, none⟩ = some (.int .i64 x.2.2) := (b4.cell (by show w.heap.size < _; omega)).trans q2
      have b5 : Below w4.heap.size w4 (w4.alloc (.cells #[] 75)) := (Below.refl _ _).alloc (Nat.le_refl _) _
      have B5 : Hid (Below w.heap.size w (w4.alloc (.cells #[] 75))) := B4.out.trans (b5.mono B4.out.size)
      have hM := Fk.hide (Fk.own_empty w4 75 (w.heap.size + 1) (by omega))
      have hV : Hid (Fk.View (w4.alloc (.cells #[] 75)) (.slice none 0 0) []) := Fk.view_none _
      have hS : Hid (Fk.Shut (.slice none 0 0)) := Fk.shut_none
      have hS1 : Hid (∀ a, Fk.Shut (.slice (some a) 1 1)) := fun a => Fk.shut_put a _ _
      have hb5 : Hid (w.heap.size + 1 ≤ (w4.alloc (.cells #[] 75)).heap.size) := by show _ ≤ _; simp <;> omega
      have hl1 : Hid (([] : List Fk.Fl).length + ([] : List Fk.Fl).length ≤ 1000000000) := by show _ ≤ _; simp <;> omega
      have hl2 : Hid (([] ++ ([] : List Fk.Fl)).length + [x].length ≤ 1000000000) := by show _ ≤ _; simp <;> omega
      have NX : Hid (∀ (w1 : World) (u1 : Value), Fk.Own w1 (w.heap.size + 1) 75 u1 ([] ++ ([] : List Fk.Fl)) → (w4.alloc (.cells #[] 75)).grownBy w1 (Value.slice (some ⟨w4.heap.size, 0, none⟩) 0 0).ownBlock → Below w.heap.size w w1 ∧ w.heap.size < w1.heap.size ∧ w1.cell? ⟨w.heap.size, 0, none⟩ = some (.string x.1) ∧ w1.cell? ⟨w.heap.size, 1, none⟩ = some (.string x.2.1) ∧ w1.cell? ⟨w.heap.size, 2, none⟩ = some (.int .i64 x.2.2) ∧ Fk.Own (w1.alloc (.cells #[.string x.1, .string x.2.1, .int .i64 x.2.2] 75)) (w.heap.size + 1) 75 u1 ([] ++ ([] : List Fk.Fl)) ∧ Below w.heap.size w (w1.alloc (.cells #[.string x.1, .string x.2.1, .int .i64 x.2.2] 75)) ∧ w.heap.size + 1 ≤ (w1.alloc (.cells #[.string x.1, .string x.2.1, .int .i64 x.2.2] 75)).heap.size) := by
        intro w1 u1 o1 g1
        have b1 : Below w.heap.size w w1 := B5.out.grown g1 B5.out.size (fun k hk => by simp [Value.ownBlock] at hk; omega)
        have hz : (w4.alloc (.cells #[] 75)).heap.size ≤ w1.heap.size := g1.size
        simp at hz
        have f0 := g1.cell ((b5.cell (by show w.heap.size < _; omega)).trans e0) (by simp [Value.ownBlock]; omega)
        have f1 := g1.cell ((b5.cell (by show w.heap.size < _; omega)).trans e1) (by simp [Value.ownBlock]; omega)
        have f2 := g1.cell ((b5.cell (by show w.heap.size < _; omega)).trans e2) (by simp [Value.ownBlock]; omega)
        exact ⟨b1, by omega, f0, f1, f2, o1.below ((Below.refl _ _).alloc (Nat.le_refl _) _), b1.alloc b1.size _, by simp; omega⟩
      go_wp2_with (first
        | (at_builtin; refine Fk.wpList_append_view _ rfl (.tmp 23) (.tmp 26) 23 rfl (w.heap.size + 1) 75 i0 _ Tryz.underlying23 hi hz0 hz1 hz2 hzs (.slice (some ⟨w4.heap.size, 0, none⟩) 0 0) (.slice none 0 0) [] ([] : List Fk.Fl) rfl rfl hM.out hV.out hS.out hl1.out hb5.out ?_; intro u1 w1 o1 g1; obtain ⟨k1, k2, k3, k4, k5, k6, k7, k8⟩ := NX.out w1 u1 o1 g1; obtain ⟨a1, n1, c1, rfl⟩ := o1.slice'; clear g1)
        | (at_builtin; refine Fk.wpList_append_view _ rfl (.tmp 28) (.tmp 30) 23 rfl (w.heap.size + 1) 75 i0 _ Tryz.underlying23 hi hz0 hz1 hz2 hzs (.slice a1 n1 c1) (.slice (some ⟨w1.heap.size, 0, none⟩) 1 1) ([] ++ ([] : List Fk.Fl)) [x] rfl rfl k6 (Fk.view_lit w1 x _) (hS1.out _) hl2.out k8 ?_; intro u2 w2 o2 g2; have B2 := k7.grown g2 k7.size (fun j hj => by have := (World.ownsRow.lt k6 j hj).1; omega); have y0 : w2.cell? ⟨w.heap.size, 0, none⟩ = some (.string x.1) := Fk.kept_cell k3 k2 k6 g2; have hzz : w.heap.size + 1 ≤ w2.heap.size := Nat.le_trans k8 g2.size; have O2 := Fk.hide o2; obtain ⟨a2, n2, c2, rfl⟩ := o2.slice'))
      have BW2 := Fk.hide B2
      clear B2 o2 g2 k1 k3 k4 k5 k6 k7 k8 e0 e1 e2
      have t0 := cell_regrown y0
      refine wp_region_quiet_below (by kernel_rfl) (by kernel_rfl) ?_
      repeat (go_big_quiet_step (fail))
      refine wpQuiet_nil ?_
      intro w6 hw'
      obtain ⟨⟨dq6, osq6⟩, hw''⟩ := hw'
      have b6 : Below w2.heap.size w2 w6 := by rw [hw'']; exact below_regrown w2 dq6 osq6
      have B6 := Fk.hide (BW2.out.trans (b6.mono BW2.out.size))
      have O6 := Fk.hide (O2.out.below b6)
      have hb6 : Hid (w.heap.size + 1 ≤ w6.heap.size) := Nat.le_trans hzz b6.size
      clear hw'' b6 t0 y0
      have HP : Hid (Fk.Place ([] : List Fk.Fl) x 0 false) := ⟨Nat.le_refl _, fun j hj => absurd hj (by omega), fun h => absurd h (by simp), by simp⟩
      have hV6 : Hid (Fk.View w6 (.slice none 0 0) []) := Fk.view_none _
      have hS6 : Hid (Fk.Shut (.slice none 0 0)) := Fk.shut_none
      have hl6 : Hid (([] ++ ([] : List Fk.Fl) ++ [x]).length + ([] : List Fk.Fl).length ≤ 1000000000) := by show _ ≤ _; simp <;> omega
      go_wp2_with (first
        | (at_builtin; (refine Fk.wpList_append_view _ rfl (.tmp 48) (.tmp 51) 23 rfl (w.heap.size + 1) 75 i0 _ Tryz.underlying23 hi hz0 hz1 hz2 hzs (.slice a2 n2 c2) (.slice none 0 0) ([] ++ ([] : List Fk.Fl) ++ [x]) [] rfl rfl O6.out hV6.out hS6.out hl6.out hb6.out ?_; intro u3 w3 o3 g3; have B3 := Fk.hide (B6.out.grown g3 B6.out.size (fun j hj => by have := (World.ownsRow.lt O6.out j hj).1; omega)); have O3 := Fk.hide o3; obtain ⟨a3, n3, c3, rfl⟩ := o3.slice'; clear g3 o3)))
      go_ret
      refine ⟨⟨_, 0, false, rfl, HP.out, ?_⟩, B3.out⟩
      have := O3.out.mono (Nat.le_succ _)
      simpa [Fk.put] using this
  · clear hv
    go_enter Tryz.func62, Tryz.ntmps62
    go_wp2_with fail
    rw [← HW.out]
    go_loopw [5] (fun i wr => ∃ k : Nat, k ≤ L.length ∧ i = .int .i64 k ∧ Hid (∀ j, j < k → Fk.less (Fk.nm L j) x.1 = true) ∧ Below W.heap.size W wr) (fun i _ => L.length - (intOf i).toNat)
    case atStart => exact ⟨0, Nat.zero_le _, rfl, fun j hj => absurd hj (by omega), Below.refl _ _⟩
    case round =>
      obtain ⟨k, hk, rfl, HK, bel⟩ := hrel
      have c0 : wr.cell? ⟨w.heap.size, 0, none⟩ = some (.string x.1) := (bel.cell (by show w.heap.size < _; omega)).trans q0
      have BW := Fk.hide (b0.trans (bel.mono b0.size))
      have r0 := cell_regrown c0
      by_cases hlt : k < L.length
      · have s0 := (hsee.below hg BW.out).c0 k hlt
        rw [Nat.zero_add] at s0
        have r1 := cell_regrown s0
        have hd1 : decide ((k : Int) < (L.length : Int)) = true := decide_eq_true (by omega)
        have hd2 : decide (k < L.length) = true := decide_eq_true hlt
        cases hls : Fk.less (Fk.nm L k) x.1 with
        | true =>
          have HL := Fk.hide hls
          unfold Fk.less at hls
          go_wp2_with fail
          refine wp_region_quiet_below (by kernel_rfl) (by kernel_rfl) ?_
          repeat (go_big_quiet_step (fail))
          refine wpQuiet_nil ?_
          intro w4 hw'
          obtain ⟨⟨dq, osq⟩, hw''⟩ := hw'
          have b4 : Below W.heap.size W w4 := by rw [hw'']; exact bel.trans ((below_regrown wr dq osq).mono bel.size)
          clear hw'' r0 r1 s0 c0
          go_wp2_with fail
          go_roundw
          case rel =>
            refine ⟨k + 1, by omega, by go_num, (fun j hj => ?_), b4⟩
            by_cases e : j = k
            · rw [e]; exact HL.out
            · exact HK.out j (by omega)
          case measure => simp [intOf]; omega
        | false =>
          have HL := Fk.hide hls
          unfold Fk.less at hls
          go_wp2_with fail
          refine wp_region_quiet_below (by kernel_rfl) (by kernel_rfl) ?_
          repeat (go_big_quiet_step (fail))
          refine wpQuiet_nil ?_
          intro w4 hw'
          obtain ⟨⟨dq, osq⟩, hw''⟩ := hw'
          have b4 : Below W.heap.size W w4 := by rw [hw'']; exact bel.trans ((below_regrown wr dq osq).mono bel.size)
          clear hw'' r0 r1 s0 c0 hls
          have B4 := Fk.hide (b0.trans (b4.mono b0.size))
          have hz4 : W.heap.size ≤ w4.heap.size := b4.size
          have e0 : w4.cell? ⟨w.heap.size, 0, none⟩ = some (.string x.1) := (b4.cell (by show w.heap.size < _; omega)).trans q0
          have e1 : w4.cell? ⟨w.heap.size, 1, none⟩ = some (.string x.2.1) := (b4.cell (by show w.heap.size < _; omega)).trans q1
          have e2 : w4.cell? ⟨w.heap.size, 2, none⟩ = some (.int .i64 x.2.2) := (b4.cell (by show w.heap.size < _; omega)).trans q2
          have b5 : Below w4.heap.size w4 (w4.alloc (.cells #[] 75)) := (Below.refl _ _).alloc (Nat.le_refl _) _
          have B5 : Hid (Below w.heap.size w (w4.alloc (.cells #[] 75))) := B4.out.trans (b5.mono B4.out.size)
          have hM := Fk.hide (Fk.own_empty w4 75 (w.heap.size + 1) (by omega))
          have hV : Hid (Fk.View (w4.alloc (.cells #[] 75)) (.slice (some ⟨g, 0, none⟩) k cap) (L.take k)) := Fk.view_of (Fk.sees_take (hsee.below hg B5.out) k) (by have := B5.out.size; omega) (by simp; omega)
          have hS : Hid (Fk.Shut (.slice (some ⟨g, 0, none⟩) k cap)) := Fk.shut_put _ _ _
          have hS1 : Hid (∀ a, Fk.Shut (.slice (some a) 1 1)) := fun a => Fk.shut_put a _ _
          have hb5 : Hid (w.heap.size + 1 ≤ (w4.alloc (.cells #[] 75)).heap.size) := by show _ ≤ _; simp <;> omega
          have hl1 : Hid (([] : List Fk.Fl).length + (L.take k).length ≤ 1000000000) := by show _ ≤ _; simp <;> omega
          have hl2 : Hid (([] ++ (L.take k)).length + [x].length ≤ 1000000000) := by show _ ≤ _; simp <;> omega
          have NX : Hid (∀ (w1 : World) (u1 : Value), Fk.Own w1 (w.heap.size + 1) 75 u1 ([] ++ (L.take k)) → (w4.alloc (.cells #[] 75)).grownBy w1 (Value.slice (some ⟨w4.heap.size, 0, none⟩) 0 0).ownBlock → Below w.heap.size w w1 ∧ w.heap.size < w1.heap.size ∧ w1.cell? ⟨w.heap.size, 0, none⟩ = some (.string x.1) ∧ w1.cell? ⟨w.heap.size, 1, none⟩ = some (.string x.2.1) ∧ w1.cell? ⟨w.heap.size, 2, none⟩ = some (.int .i64 x.2.2) ∧ Fk.Own (w1.alloc (.cells #[.string x.1, .string x.2.1, .int .i64 x.2.2] 75)) (w.heap.size + 1) 75 u1 ([] ++ (L.take k)) ∧ Below w.heap.size w (w1.alloc (.cells #[.string x.1, .string x.2.1, .int .i64 x.2.2] 75)) ∧ w.heap.size + 1 ≤ (w1.alloc (.cells #[.string x.1, .string x.2.1, .int .i64 x.2.2] 75)).heap.size) := by
            intro w1 u1 o1 g1
            have b1 : Below w.heap.size w w1 := B5.out.grown g1 B5.out.size (fun k hk => by simp [Value.ownBlock] at hk; omega)
            have hz : (w4.alloc (.cells #[] 75)).heap.size ≤ w1.heap.size := g1.size
            simp at hz
            have f0 := g1.cell ((b5.cell (by show w.heap.size < _; omega)).trans e0) (by simp [Value.ownBlock]; omega)
            have f1 := g1.cell ((b5.cell (by show w.heap.size < _; omega)).trans e1) (by simp [Value.ownBlock]; omega)
            have f2 := g1.cell ((b5.cell (by show w.heap.size < _; omega)).trans e2) (by simp [Value.ownBlock]; omega)
            exact ⟨b1, by omega, f0, f1, f2, o1.below ((Below.refl _ _).alloc (Nat.le_refl _) _), b1.alloc b1.size _, by simp; omega⟩
          go_wp2_with (first
            | (at_builtin; refine Fk.wpList_append_view _ rfl (.tmp 23) (.tmp 26) 23 rfl (w.heap.size + 1) 75 i0 _ Tryz.underlying23 hi hz0 hz1 hz2 hzs (.slice (some ⟨w4.heap.size, 0, none⟩) 0 0) (.slice (some ⟨g, 0, none⟩) k cap) [] (L.take k) rfl rfl hM.out hV.out hS.out hl1.out hb5.out ?_; intro u1 w1 o1 g1; obtain ⟨k1, k2, k3, k4, k5, k6, k7, k8⟩ := NX.out w1 u1 o1 g1; obtain ⟨a1, n1, c1, rfl⟩ := o1.slice'; clear g1)
            | (at_builtin; refine Fk.wpList_append_view _ rfl (.tmp 28) (.tmp 30) 23 rfl (w.heap.size + 1) 75 i0 _ Tryz.underlying23 hi hz0 hz1 hz2 hzs (.slice a1 n1 c1) (.slice (some ⟨w1.heap.size, 0, none⟩) 1 1) ([] ++ (L.take k)) [x] rfl rfl k6 (Fk.view_lit w1 x _) (hS1.out _) hl2.out k8 ?_; intro u2 w2 o2 g2; have B2 := k7.grown g2 k7.size (fun j hj => by have := (World.ownsRow.lt k6 j hj).1; omega); have y0 : w2.cell? ⟨w.heap.size, 0, none⟩ = some (.string x.1) := Fk.kept_cell k3 k2 k6 g2; have hzz : w.heap.size + 1 ≤ w2.heap.size := Nat.le_trans k8 g2.size; have O2 := Fk.hide o2; obtain ⟨a2, n2, c2, rfl⟩ := o2.slice'))
          have BW2 := Fk.hide B2
          clear B2 o2 g2 k1 k3 k4 k5 k6 k7 k8 e0 e1 e2
          have t0 := cell_regrown y0
          have z0 := (hsee.below hg BW2.out).c0 k hlt
          rw [Nat.zero_add] at z0
          have t1 := cell_regrown z0
          have he := Fk.list_eq (Fk.nm L k) x.1
          by_cases hn : Fk.nm L k = x.1
          · rw [decide_eq_true hn] at he
            have HN := Fk.hide hn
            clear hn
            have n3 : IntKind.i64.wrap ((k : Int) + 1) = (k : Int) + 1 := by rw [IntKind.wrap_i64]; omega
            have n4 : ((k : Int) + 1).toNat = k + 1 := by omega
            have n5 : (0 : Int) ≤ (k : Int) + 1 := by omega
            have n6 : (k : Int) + 1 ≤ (L.length : Int) := by omega
            refine wp_region_quiet_below (by kernel_rfl) (by kernel_rfl) ?_
            repeat (go_big_quiet_step (fail))
            refine wpQuiet_nil ?_
            intro w6 hw'
            obtain ⟨⟨dq6, osq6⟩, hw''⟩ := hw'
            have b6 : Below w2.heap.size w2 w6 := by rw [hw'']; exact below_regrown w2 dq6 osq6
            have B6 := Fk.hide (BW2.out.trans (b6.mono BW2.out.size))
            have O6 := Fk.hide (O2.out.below b6)
            have hb6 : Hid (w.heap.size + 1 ≤ w6.heap.size) := Nat.le_trans hzz b6.size
            clear hw'' b6 t0 y0 t1 z0
            have HP : Hid (Fk.Place L x k true) := ⟨hk, HK.out, fun _ => HL.out, ⟨fun _ => ⟨hlt, HN.out⟩, fun _ => rfl⟩⟩
            by_cases hc : cap = k + 1
            · skip
              have hLk : L.length = k + 1 := by omega
              have hdr : Hid (L.drop (k + 1) = []) := List.drop_eq_nil_of_le (by omega)
              have hV6 : Hid (Fk.View w6 (.slice (some ⟨g, 0, none⟩) 0 0) []) := Fk.view_of (Fk.sees_nil _ _ _) (by have := B6.out.size; omega) rfl
              have hS6 : Hid (Fk.Shut (.slice (some ⟨g, 0, none⟩) 0 0)) := Fk.shut_put _ _ _
              have hl6 : Hid (([] ++ (L.take k) ++ [x]).length + ([] : List Fk.Fl).length ≤ 1000000000) := by show _ ≤ _; simp <;> omega
              go_wp2_with (first
                | (at_builtin; (refine Fk.wpList_append_view _ rfl (.tmp 48) (.tmp 51) 23 rfl (w.heap.size + 1) 75 i0 _ Tryz.underlying23 hi hz0 hz1 hz2 hzs (.slice a2 n2 c2) (.slice (some ⟨g, 0, none⟩) 0 0) ([] ++ (L.take k) ++ [x]) [] rfl rfl O6.out hV6.out hS6.out hl6.out hb6.out ?_; intro u3 w3 o3 g3; have B3 := Fk.hide (B6.out.grown g3 B6.out.size (fun j hj => by have := (World.ownsRow.lt O6.out j hj).1; omega)); have O3 := Fk.hide o3; obtain ⟨a3, n3, c3, rfl⟩ := o3.slice'; clear g3 o3)))
              go_ret
              refine ⟨⟨_, k, true, rfl, HP.out, ?_⟩, B3.out⟩
              have := O3.out.mono (Nat.le_succ _)
              have hdr' := hdr.out
              simpa [Fk.put, hdr'] using this
            · skip
              have hV6 : Hid (Fk.View w6 (.slice (some ⟨g, (k + 1) * 3, none⟩) (L.length - (k + 1)) (cap - (k + 1))) (L.drop (k + 1))) := Fk.view_of (by have := Fk.sees_drop (hsee.below hg B6.out) (k + 1); rwa [Nat.zero_add] at this) (by have := B6.out.size; omega) (by simp)
              have hS6 : Hid (Fk.Shut (.slice (some ⟨g, (k + 1) * 3, none⟩) (L.length - (k + 1)) (cap - (k + 1)))) := Fk.shut_put _ _ _
              have hl6 : Hid (([] ++ (L.take k) ++ [x]).length + (L.drop (k + 1)).length ≤ 1000000000) := by show _ ≤ _; simp <;> omega
              go_wp2_with (first
                | (at_builtin; (refine Fk.wpList_append_view _ rfl (.tmp 48) (.tmp 51) 23 rfl (w.heap.size + 1) 75 i0 _ Tryz.underlying23 hi hz0 hz1 hz2 hzs (.slice a2 n2 c2) (.slice (some ⟨g, (k + 1) * 3, none⟩) (L.length - (k + 1)) (cap - (k + 1))) ([] ++ (L.take k) ++ [x]) (L.drop (k + 1)) rfl rfl O6.out hV6.out hS6.out hl6.out hb6.out ?_; intro u3 w3 o3 g3; have B3 := Fk.hide (B6.out.grown g3 B6.out.size (fun j hj => by have := (World.ownsRow.lt O6.out j hj).1; omega)); have O3 := Fk.hide o3; obtain ⟨a3, n3, c3, rfl⟩ := o3.slice'; clear g3 o3)))
              go_ret
              refine ⟨⟨_, k, true, rfl, HP.out, ?_⟩, B3.out⟩
              have := O3.out.mono (Nat.le_succ _)
              simpa [Fk.put] using this
          · rw [decide_eq_false hn] at he
            have HN := Fk.hide hn
            clear hn
            refine wp_region_quiet_below (by kernel_rfl) (by kernel_rfl) ?_
            repeat (go_big_quiet_step (fail))
            refine wpQuiet_nil ?_
            intro w6 hw'
            obtain ⟨⟨dq6, osq6⟩, hw''⟩ := hw'
            have b6 : Below w2.heap.size w2 w6 := by rw [hw'']; exact below_regrown w2 dq6 osq6
            have B6 := Fk.hide (BW2.out.trans (b6.mono BW2.out.size))
            have O6 := Fk.hide (O2.out.below b6)
            have hb6 : Hid (w.heap.size + 1 ≤ w6.heap.size) := Nat.le_trans hzz b6.size
            clear hw'' b6 t0 y0 t1 z0
            have HP : Hid (Fk.Place L x k false) := ⟨hk, HK.out, fun _ => HL.out, ⟨fun h => (by cases h), fun h => absurd h.2 HN.out⟩⟩
            by_cases hc : cap = k
            · omega
            · skip
              have hV6 : Hid (Fk.View w6 (.slice (some ⟨g, (k) * 3, none⟩) (L.length - (k)) (cap - (k))) (L.drop (k))) := Fk.view_of (by have := Fk.sees_drop (hsee.below hg B6.out) (k); rwa [Nat.zero_add] at this) (by have := B6.out.size; omega) (by simp)
              have hS6 : Hid (Fk.Shut (.slice (some ⟨g, (k) * 3, none⟩) (L.length - (k)) (cap - (k)))) := Fk.shut_put _ _ _
              have hl6 : Hid (([] ++ (L.take k) ++ [x]).length + (L.drop (k)).length ≤ 1000000000) := by show _ ≤ _; simp <;> omega
              go_wp2_with (first
                | (at_builtin; (refine Fk.wpList_append_view _ rfl (.tmp 48) (.tmp 51) 23 rfl (w.heap.size + 1) 75 i0 _ Tryz.underlying23 hi hz0 hz1 hz2 hzs (.slice a2 n2 c2) (.slice (some ⟨g, (k) * 3, none⟩) (L.length - (k)) (cap - (k))) ([] ++ (L.take k) ++ [x]) (L.drop (k)) rfl rfl O6.out hV6.out hS6.out hl6.out hb6.out ?_; intro u3 w3 o3 g3; have B3 := Fk.hide (B6.out.grown g3 B6.out.size (fun j hj => by have := (World.ownsRow.lt O6.out j hj).1; omega)); have O3 := Fk.hide o3; obtain ⟨a3, n3, c3, rfl⟩ := o3.slice'; clear g3 o3)))
              go_ret
              refine ⟨⟨_, k, false, rfl, HP.out, ?_⟩, B3.out⟩
              have := O3.out.mono (Nat.le_succ _)
              simpa [Fk.put] using this
      · have ek : k = L.length := by omega
        have hd1 : decide ((k : Int) < (L.length : Int)) = false := decide_eq_false (by omega)
        have hd2 : decide (k < L.length) = false := decide_eq_false hlt
        have EK := Fk.hide ek
        clear ek
        go_wp2_with fail
        refine wp_region_quiet_below (by kernel_rfl) (by kernel_rfl) ?_
        repeat (go_big_quiet_step (fail))
        refine wpQuiet_nil ?_
        intro w4 hw'
        obtain ⟨⟨dq, osq⟩, hw''⟩ := hw'
        have b4 : Below W.heap.size W w4 := by rw [hw'']; exact bel.trans ((below_regrown wr dq osq).mono bel.size)
        clear hw'' r0 c0
        have B4 := Fk.hide (b0.trans (b4.mono b0.size))
        have hz4 : W.heap.size ≤ w4.heap.size := b4.size
        have e0 : w4.cell? ⟨w.heap.size, 0, none⟩ = some (.string x.1) := (b4.cell (by show w.heap.size < _; omega)).trans q0
        have e1 : w4.cell? ⟨w.heap.size, 1, none⟩ = some (.string x.2.1) := (b4.cell (by show w.heap.size < _; omega)).trans q1
        have e2 : w4.cell? ⟨w.heap.size, 2, none⟩ = some (.int .i64 x.2.2) := (b4.cell (by show w.heap.size < _; omega)).trans q2
        have b5 : Below w4.heap.size w4 (w4.alloc (.cells #[] 75)) := (Below.refl _ _).alloc (Nat.le_refl _) _
        have B5 : Hid (Below w.heap.size w (w4.alloc (.cells #[] 75))) := B4.out.trans (b5.mono B4.out.size)
        have hM := Fk.hide (Fk.own_empty w4 75 (w.heap.size + 1) (by omega))
        have hV : Hid (Fk.View (w4.alloc (.cells #[] 75)) (.slice (some ⟨g, 0, none⟩) k cap) (L.take k)) := Fk.view_of (Fk.sees_take (hsee.below hg B5.out) k) (by have := B5.out.size; omega) (by simp; omega)
        have hS : Hid (Fk.Shut (.slice (some ⟨g, 0, none⟩) k cap)) := Fk.shut_put _ _ _
        have hS1 : Hid (∀ a, Fk.Shut (.slice (some a) 1 1)) := fun a => Fk.shut_put a _ _
        have hb5 : Hid (w.heap.size + 1 ≤ (w4.alloc (.cells #[] 75)).heap.size) := by show _ ≤ _; simp <;> omega
        have hl1 : Hid (([] : List Fk.Fl).length + (L.take k).length ≤ 1000000000) := by show _ ≤ _; simp <;> omega
        have hl2 : Hid (([] ++ (L.take k)).length + [x].length ≤ 1000000000) := by show _ ≤ _; simp <;> omega
        have NX : Hid (∀ (w1 : World) (u1 : Value), Fk.Own w1 (w.heap.size + 1) 75 u1 ([] ++ (L.take k)) → (w4.alloc (.cells #[] 75)).grownBy w1 (Value.slice (some ⟨w4.heap.size, 0, none⟩) 0 0).ownBlock → Below w.heap.size w w1 ∧ w.heap.size < w1.heap.size ∧ w1.cell? ⟨w.heap.size, 0, none⟩ = some (.string x.1) ∧ w1.cell? ⟨w.heap.size, 1, none⟩ = some (.string x.2.1) ∧ w1.cell? ⟨w.heap.size, 2, none⟩ = some (.int .i64 x.2.2) ∧ Fk.Own (w1.alloc (.cells #[.string x.1, .string x.2.1, .int .i64 x.2.2] 75)) (w.heap.size + 1) 75 u1 ([] ++ (L.take k)) ∧ Below w.heap.size w (w1.alloc (.cells #[.string x.1, .string x.2.1, .int .i64 x.2.2] 75)) ∧ w.heap.size + 1 ≤ (w1.alloc (.cells #[.string x.1, .string x.2.1, .int .i64 x.2.2] 75)).heap.size) := by
          intro w1 u1 o1 g1
          have b1 : Below w.heap.size w w1 := B5.out.grown g1 B5.out.size (fun k hk => by simp [Value.ownBlock] at hk; omega)
          have hz : (w4.alloc (.cells #[] 75)).heap.size ≤ w1.heap.size := g1.size
          simp at hz
          have f0 := g1.cell ((b5.cell (by show w.heap.size < _; omega)).trans e0) (by simp [Value.ownBlock]; omega)
          have f1 := g1.cell ((b5.cell (by show w.heap.size < _; omega)).trans e1) (by simp [Value.ownBlock]; omega)
          have f2 := g1.cell ((b5.cell (by show w.heap.size < _; omega)).trans e2) (by simp [Value.ownBlock]; omega)
          exact ⟨b1, by omega, f0, f1, f2, o1.below ((Below.refl _ _).alloc (Nat.le_refl _) _), b1.alloc b1.size _, by simp; omega⟩
        go_wp2_with (first
          | (at_builtin; refine Fk.wpList_append_view _ rfl (.tmp 23) (.tmp 26) 23 rfl (w.heap.size + 1) 75 i0 _ Tryz.underlying23 hi hz0 hz1 hz2 hzs (.slice (some ⟨w4.heap.size, 0, none⟩) 0 0) (.slice (some ⟨g, 0, none⟩) k cap) [] (L.take k) rfl rfl hM.out hV.out hS.out hl1.out hb5.out ?_; intro u1 w1 o1 g1; obtain ⟨k1, k2, k3, k4, k5, k6, k7, k8⟩ := NX.out w1 u1 o1 g1; obtain ⟨a1, n1, c1, rfl⟩ := o1.slice'; clear g1)
          | (at_builtin; refine Fk.wpList_append_view _ rfl (.tmp 28) (.tmp 30) 23 rfl (w.heap.size + 1) 75 i0 _ Tryz.underlying23 hi hz0 hz1 hz2 hzs (.slice a1 n1 c1) (.slice (some ⟨w1.heap.size, 0, none⟩) 1 1) ([] ++ (L.take k)) [x] rfl rfl k6 (Fk.view_lit w1 x _) (hS1.out _) hl2.out k8 ?_; intro u2 w2 o2 g2; have B2 := k7.grown g2 k7.size (fun j hj => by have := (World.ownsRow.lt k6 j hj).1; omega); have y0 : w2.cell? ⟨w.heap.size, 0, none⟩ = some (.string x.1) := Fk.kept_cell k3 k2 k6 g2; have hzz : w.heap.size + 1 ≤ w2.heap.size := Nat.le_trans k8 g2.size; have O2 := Fk.hide o2; obtain ⟨a2, n2, c2, rfl⟩ := o2.slice'))
        have BW2 := Fk.hide B2
        clear B2 o2 g2 k1 k3 k4 k5 k6 k7 k8 e0 e1 e2
        have t0 := cell_regrown y0
        refine wp_region_quiet_below (by kernel_rfl) (by kernel_rfl) ?_
        repeat (go_big_quiet_step (fail))
        refine wpQuiet_nil ?_
        intro w6 hw'
        obtain ⟨⟨dq6, osq6⟩, hw''⟩ := hw'
        have b6 : Below w2.heap.size w2 w6 := by rw [hw'']; exact below_regrown w2 dq6 osq6
        have B6 := Fk.hide (BW2.out.trans (b6.mono BW2.out.size))
        have O6 := Fk.hide (O2.out.below b6)
        have hb6 : Hid (w.heap.size + 1 ≤ w6.heap.size) := Nat.le_trans hzz b6.size
        clear hw'' b6 t0 y0
        have HP : Hid (Fk.Place L x k false) := ⟨hk, HK.out, fun h => absurd h hlt, ⟨fun h => (by cases h), fun h => absurd h.1 hlt⟩⟩
        by_cases hc : cap = k
        · skip
          have hLk : L.length = k := by omega
          have hdr : Hid (L.drop (k) = []) := List.drop_eq_nil_of_le (by omega)
          have hV6 : Hid (Fk.View w6 (.slice (some ⟨g, 0, none⟩) 0 0) []) := Fk.view_of (Fk.sees_nil _ _ _) (by have := B6.out.size; omega) rfl
          have hS6 : Hid (Fk.Shut (.slice (some ⟨g, 0, none⟩) 0 0)) := Fk.shut_put _ _ _
          have hl6 : Hid (([] ++ (L.take k) ++ [x]).length + ([] : List Fk.Fl).length ≤ 1000000000) := by show _ ≤ _; simp <;> omega
          go_wp2_with (first
            | (at_builtin; (refine Fk.wpList_append_view _ rfl (.tmp 48) (.tmp 51) 23 rfl (w.heap.size + 1) 75 i0 _ Tryz.underlying23 hi hz0 hz1 hz2 hzs (.slice a2 n2 c2) (.slice (some ⟨g, 0, none⟩) 0 0) ([] ++ (L.take k) ++ [x]) [] rfl rfl O6.out hV6.out hS6.out hl6.out hb6.out ?_; intro u3 w3 o3 g3; have B3 := Fk.hide (B6.out.grown g3 B6.out.size (fun j hj => by have := (World.ownsRow.lt O6.out j hj).1; omega)); have O3 := Fk.hide o3; obtain ⟨a3, n3, c3, rfl⟩ := o3.slice'; clear g3 o3)))
          go_ret
          refine ⟨⟨_, k, false, rfl, HP.out, ?_⟩, B3.out⟩
          have := O3.out.mono (Nat.le_succ _)
          have hdr' := hdr.out
          simpa [Fk.put, hdr'] using this
        · skip
          have hV6 : Hid (Fk.View w6 (.slice (some ⟨g, (k) * 3, none⟩) (L.length - (k)) (cap - (k))) (L.drop (k))) := Fk.view_of (by have := Fk.sees_drop (hsee.below hg B6.out) (k); rwa [Nat.zero_add] at this) (by have := B6.out.size; omega) (by simp)
          have hS6 : Hid (Fk.Shut (.slice (some ⟨g, (k) * 3, none⟩) (L.length - (k)) (cap - (k)))) := Fk.shut_put _ _ _
          have hl6 : Hid (([] ++ (L.take k) ++ [x]).length + (L.drop (k)).length ≤ 1000000000) := by show _ ≤ _; simp <;> omega
          go_wp2_with (first
            | (at_builtin; (refine Fk.wpList_append_view _ rfl (.tmp 48) (.tmp 51) 23 rfl (w.heap.size + 1) 75 i0 _ Tryz.underlying23 hi hz0 hz1 hz2 hzs (.slice a2 n2 c2) (.slice (some ⟨g, (k) * 3, none⟩) (L.length - (k)) (cap - (k))) ([] ++ (L.take k) ++ [x]) (L.drop (k)) rfl rfl O6.out hV6.out hS6.out hl6.out hb6.out ?_; intro u3 w3 o3 g3; have B3 := Fk.hide (B6.out.grown g3 B6.out.size (fun j hj => by have := (World.ownsRow.lt O6.out j hj).1; omega)); have O3 := Fk.hide o3; obtain ⟨a3, n3, c3, rfl⟩ := o3.slice'; clear g3 o3)))
          go_ret
          refine ⟨⟨_, k, false, rfl, HP.out, ?_⟩, B3.out⟩
          have := O3.out.mono (Nat.le_succ _)
          simpa [Fk.put] using this
end Go.Proofs.YtojdfdlbdpdlkaaGreatDoor
