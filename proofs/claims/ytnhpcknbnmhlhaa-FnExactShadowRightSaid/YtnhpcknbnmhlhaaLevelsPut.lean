/- The walks of the program's manyOfOnePrice and inLevels: orders laid into levels. -/
import Derived.Test.YtnhpcknbnmhlhaaLevelsMath
import Derived.Test.YtnhpcknbnmhlhaaLevelGrow
import Derived.Test.YtnhpcknbnmhlhaaOldRightImpl
import Derived.Test.YtnhpcknbnmhlhaaRowsWhere
import Derived.Test.YtnhpcknbnmhlhaaRowsCopy
import Derived.Test.YtnhpcknbnmhlhaaNewLaw
namespace Go.Proofs.Ytnhpcknbnmhlhaa
open Go.RowKit
set_option linter.unusedVariables false
set_option linter.unusedSimpArgs false
/-- so many at the front have the price of the first, and no more -/
def Nb.run (L : List Or.E) (m : Nat) : Prop := 1 ≤ m ∧ m ≤ L.length ∧ (∀ i, i < m → (Ob.at' L i).2.2.1 = (Ob.at' L 0).2.2.1) ∧ (m < L.length → (Ob.at' L m).2.2.1 ≠ (Ob.at' L 0).2.2.1)
theorem Ob.at_drop (L : List Or.E) (k i : Nat) : Ob.at' (L.drop k) i = Ob.at' L (k + i) := by simp [Ob.at', Rk.at_, List.getD]
theorem Nb.run_same {L : List Or.E} {k m : Nat} (h : Nb.run (L.drop k) m) : ∀ o ∈ (L.drop k).take m, o.2.2.1 = (Ob.at' L k).2.2.1 := by
  intro o ho
  obtain ⟨i, hi, e⟩ := List.getElem_of_mem ho
  have hi2 : i < m := by simp at hi; omega
  have hi3 : i < (L.drop k).length := by simp at hi ⊢; omega
  have := h.2.2.1 i hi2
  rw [Ob.at_drop L k 0, Nat.add_zero] at this
  rw [← this, ← e, List.getElem_take]
  simp only [Ob.at']
  rw [Rk.at_get _ _ hi3]
/-- one level more -/
theorem Nb.levels_run (L : List Or.E) (k m : Nat) (h : Nb.run (L.drop k) m) (hk : k < L.length) (hn : ¬ Nb.ends (Nb.levels (L.take k)) (Ob.at' L k).2.2.1) :
    Nb.levels (L.take (k + m)) = Nb.levels (L.take k) ++ [((Ob.at' L k).2.2.1, (L.drop k).take m)] := by
  have e : L.take (k + m) = L.take k ++ (L.drop k).take m := by rw [List.take_add]
  have hne : (L.drop k).take m ≠ [] := by
    intro e0
    have h1 := congrArg List.length e0
    have h2 := h.1
    have h3 := h.2.1
    simp at h1 h3
    omega
  unfold Nb.levels at *
  rw [e, List.foldl_append]
  exact Nb.fold_run _ _ _ (Nb.run_same h) hne hn
theorem Nb.run_ends (L : List Or.E) (k m : Nat) (h : Nb.run (L.drop k) m) (hk : k < L.length) (hn : ¬ Nb.ends (Nb.levels (L.take k)) (Ob.at' L k).2.2.1) (hm : k + m < L.length) : ¬ Nb.ends (Nb.levels (L.take (k + m))) (Ob.at' L (k + m)).2.2.1 := by
  rw [Nb.levels_run L k m h hk hn, Nb.ends_last]
  have := h.2.2.2 (by simp; omega)
  rw [Ob.at_drop, Ob.at_drop, Nat.add_zero] at this
  exact fun e => this e.symm
set_option maxRecDepth 100000 in
set_option maxHeartbeats 4000000 in
theorem manyOf_any (v : Value) (L : List Or.E) (w : World) (hv : Rk.View Or.S w v L) (h0 : 0 < L.length) (hl : L.length ≤ 1048576) :
    Calls Try.prog 58 #[v] w fun e w' => (∃ m : Nat, e = .returned (.int .i64 m) ∧ Nb.run L m) ∧ Below w.heap.size w w' := by
  obtain ⟨a, cap, rfl, hs⟩ := hv
  obtain ⟨b, o, rfl, hb, hs1⟩ := hs h0
  go_enter Try.func58, Try.ntmps58
  go_wp2_with fail
  go_loopw [3] (fun m wr => ∃ k : Nat, 1 ≤ k ∧ k ≤ L.length ∧ m = .int .i64 k ∧ Hid (∀ i, i < k → (Ob.at' L i).2.2.1 = (Ob.at' L 0).2.2.1) ∧ Hid (Below w.heap.size w wr)) (fun m _ => L.length - (intOf m).toNat)
  case atStart => exact ⟨1, Nat.le_refl _, by omega, rfl, (fun i hi => by rw [show i = 0 by omega]), Below.refl _ _⟩
  case round =>
    obtain ⟨k, hk1, hk, rfl, HS, HB⟩ := hrel
    have hs' := hs1.below hb HB.out
    have q0 := Or.c2 hs' (k := 0) h0
    obtain ⟨p0, hp0⟩ : ∃ x, x = (Ob.at' L 0).2.2.1 := ⟨_, rfl⟩
    have HP0 := Fk.hide hp0
    rw [show (Rk.at_ Or.S L 0).2.2.1 = p0 from hp0.symm, show o + 0 * 8 + 2 = o + 2 by omega] at q0
    clear hp0
    have y4 : (0 : Int) < (L.length : Int) := by omega
    have r0 := cell_regrown q0
    by_cases hlt : k < L.length
    · have q1 := Or.c2 hs' hlt
      obtain ⟨p1, hp1⟩ : ∃ x, x = (Ob.at' L k).2.2.1 := ⟨_, rfl⟩
      have HP1 := Fk.hide hp1
      rw [show (Rk.at_ Or.S L k).2.2.1 = p1 from hp1.symm] at q1
      clear hp1 hs'
      have r1 := cell_regrown q1
      have d0 : decide ((k : Int) < (L.length : Int)) = true := decide_eq_true (by omega)
      have x1 : (k : Int) < (L.length : Int) := by omega
      by_cases hpe : p1 = p0
      · have d1 : decide (p1 = p0) = true := decide_eq_true hpe
        have d2 : (p1 == p0) = true := by simpa using hpe
        have HPE := Fk.hide hpe
        clear hpe
        go_wp2_with fail
        refine wp_region_quiet_below (by kernel_rfl) (by kernel_rfl) ?_
        repeat (go_big_quiet_step (fail))
        refine wpQuiet_nil ?_
        intro w4 hw'
        obtain ⟨⟨dq, osq⟩, hw''⟩ := hw'
        have k4 : Below wr.heap.size wr w4 := by rw [hw'']; exact below_regrown wr dq osq
        have B4 : Hid (Below w.heap.size w w4) := HB.out.trans (k4.mono HB.out.size)
        clear hw'' k4 q0 q1 r0 r1
        have HS2 : Hid (∀ i, i < k + 1 → (Ob.at' L i).2.2.1 = (Ob.at' L 0).2.2.1) := fun i hi => by
          by_cases c : i < k
          · exact HS.out i c
          · have : i = k := by omega
            subst this
            rw [← HP1.out, ← HP0.out]; exact HPE.out
        go_wp2_with fail
        go_roundw
        case rel => exact ⟨k + 1, by omega, by omega, by go_num, HS2, B4⟩
        case measure => simp [intOf]; omega
      · have d1 : decide (p1 = p0) = false := decide_eq_false hpe
        have d2 : (p1 == p0) = false := by simpa using hpe
        have HPE := Fk.hide hpe
        clear hpe
        go_wp2_with fail
        refine wp_region_quiet_below (by kernel_rfl) (by kernel_rfl) ?_
        repeat (go_big_quiet_step (fail))
        refine wpQuiet_nil ?_
        intro w4 hw'
        obtain ⟨⟨dq, osq⟩, hw''⟩ := hw'
        have k4 : Below wr.heap.size wr w4 := by rw [hw'']; exact below_regrown wr dq osq
        have B4 : Hid (Below w.heap.size w w4) := HB.out.trans (k4.mono HB.out.size)
        clear hw'' k4 q0 q1 r0 r1
        go_wp2_with fail
        go_ret
        refine ⟨⟨k, rfl, hk1, hk, HS.out, fun _ => ?_⟩, B4.out⟩
        rw [← HP1.out, ← HP0.out]; exact HPE.out
    · have e : k = L.length := by omega
      subst e
      have d0 : decide ((L.length : Int) < (L.length : Int)) = false := decide_eq_false (by omega)
      clear hs'
      go_wp2_with fail
      refine wp_region_quiet_below (by kernel_rfl) (by kernel_rfl) ?_
      repeat (go_big_quiet_step (fail))
      refine wpQuiet_nil ?_
      intro w4 hw'
      obtain ⟨⟨dq, osq⟩, hw''⟩ := hw'
      have k4 : Below wr.heap.size wr w4 := by rw [hw'']; exact below_regrown wr dq osq
      have B4 : Hid (Below w.heap.size w w4) := HB.out.trans (k4.mono HB.out.size)
      clear hw'' k4 q0 r0
      go_wp2_with fail
      go_ret
      exact ⟨⟨_, rfl, hk1, Nat.le_refl _, HS.out, fun h => absurd h (Nat.lt_irrefl _)⟩, B4.out⟩
/-- the block of orders that 'make' lays -/
def Or.zeros (m : Nat) : Obj := .cells (madeCells #[.int .i64 0, .int .i64 0, .int .i64 0, .int .i64 0, .bool false, .int .i64 0, .int .i64 0, .bool false] (m * 8)) 87
theorem make_orders (X : World) (m : Nat) (hm : m ≤ 1048576) : (Instr.makeSlice 32 (.int .i64 (m : Int)) (.int .i64 (m : Int))).run Try.prog X = .ok (.slice (some ⟨X.heap.size, 0, none⟩) m m) (X.alloc (Or.zeros m)) := by
  obtain ⟨i0, hi, hz0, hz1, hz2⟩ := info_parts infoOrd
  have hrun := run_make (P := Try.prog) X 32 87 i0 _ Try.underlying32 hi hz0 .i64 .i64 m m (by omega) (Int.le_refl _) (by rw [hz2]; omega) (by omega)
  rw [hz1, Int.toNat_natCast] at hrun
  exact hrun
theorem own_orders (X : World) (m base : Nat) (hb : base ≤ X.heap.size) (hm : m ≤ 1048576) : Rk.Own Or.S (X.alloc (Or.zeros m)) base 87 (.slice (some ⟨X.heap.size, 0, none⟩) m m) (List.replicate m Or.S.z) := by
  have := World.ownsRow_lit (e := 87) (size := 8) X (madeCells #[.int .i64 0, .int .i64 0, .int .i64 0, .int .i64 0, .bool false, .int .i64 0, .int .i64 0, .bool false] (m * 8)) m hb (by unfold maxLen; omega) (by simp [size_madeCells])
  unfold Rk.Own
  rw [← Rk.flat_made (S := Or.S) m #[.int .i64 0, .int .i64 0, .int .i64 0, .int .i64 0, .bool false, .int .i64 0, .int .i64 0, .bool false] rfl, List.length_replicate]
  exact this
/-- a slice has room for what it holds -/
def Rk.Fit (v : Value) : Prop := ∀ a n c, v = .slice a n c → n ≤ c
theorem Rk.Own.fit {α : Type} {S : Rk.Shape α} {w : World} {base : Nat} {e : TypeId} {v : Value} {L : List α} (h : Rk.Own S w base e v L) : Rk.Fit v := by
  intro a n c e
  obtain ⟨_, h1 | ⟨g', cap', cur, hv, _, _, hc, _⟩⟩ := h
  · rw [h1.1] at e; simp only [Value.slice.injEq] at e; omega
  · rw [hv] at e; simp only [Value.slice.injEq] at e; omega
/-- a level's box and its orders' row are made -/
structure Lv.Made (wr z : World) (x y m : Nat) (pr : Int) (R : List Or.E) : Prop where
  run : Nb.run R m
  small : m ≤ 1048576
  c0 : z.cell? ⟨x, 0, none⟩ = some (.int .i64 pr)
  c1 : z.cell? ⟨x, 1, none⟩ = some (.slice (some ⟨y, 0, none⟩) m m)
  own : Rk.Own Or.S z wr.heap.size 87 (.slice (some ⟨y, 0, none⟩) m m) (List.replicate m Or.S.z)
  ne : x ≠ y
  x0 : wr.heap.size ≤ x
  bel : Below wr.heap.size wr z
theorem Lv.then_normal {K : Act → World → Prop} {e : Exit} {a : Act} {z : World} (h : Exit.then K (fun _ _ _ => False) e a z) : e = .normal ∧ K a z := by
  cases e <;> first | exact ⟨rfl, h⟩ | exact h.elim
theorem Lv.made1 {wr w3 : World} {m : Nat} {pr : Int} {R : List Or.E} (hC : Below wr.heap.size wr w3) (hr : Nb.run R m) (hm : m ≤ 1048576) : Lv.Made wr ((w3.alloc (Or.zeros m)).alloc (.cells #[.int .i64 pr, .slice (some ⟨w3.heap.size, 0, none⟩) m m] 76)) (w3.heap.size + 1) w3.heap.size m pr R :=
  ⟨hr, hm, (Fk.cellTop _ _ _ _ _ (by simp)).trans rfl, (Fk.cellTop _ _ _ _ _ (by simp)).trans rfl, (own_orders w3 m _ hC.size hm).below ((Below.refl _ _).alloc (Nat.le_refl _) _), by omega, by have := hC.size; omega, (hC.alloc hC.size _).alloc (by have := hC.size; simp; omega) _⟩
theorem Lv.made2 {wr w3 : World} {m : Nat} {pr : Int} {R : List Or.E} (hC : Below wr.heap.size wr w3) (hr : Nb.run R m) (hm : m ≤ 1048576) : Lv.Made wr ((w3.alloc (.cells #[.int .i64 pr, .slice (some ⟨w3.heap.size + 1, 0, none⟩) m m] 76)).alloc (Or.zeros m)) w3.heap.size (w3.heap.size + 1) m pr R := by
  have ho := own_orders (w3.alloc (.cells #[.int .i64 pr, .slice (some ⟨w3.heap.size + 1, 0, none⟩) m m] 76)) m wr.heap.size (by have := hC.size; simp; omega) hm
  rw [show (w3.alloc (.cells #[.int .i64 pr, .slice (some ⟨w3.heap.size + 1, 0, none⟩) m m] 76)).heap.size = w3.heap.size + 1 by simp] at ho
  exact ⟨hr, hm, (Fk.cellOld _ _ _ _ (by simp)).trans ((Fk.cellTop _ _ _ _ _ rfl).trans rfl), (Fk.cellOld _ _ _ _ (by simp)).trans ((Fk.cellTop _ _ _ _ _ rfl).trans rfl), ho, by omega, hC.size, (hC.alloc hC.size _).alloc (by have := hC.size; simp; omega) _⟩
theorem Lv.made3 {wr w3 : World} {m : Nat} {pr : Int} {u v : Value} {R : List Or.E} (hC : Below wr.heap.size wr w3) (hr : Nb.run R m) (hm : m ≤ 1048576) (hx : wr.heap.size < w3.heap.size) (h0 : (w3.alloc (Or.zeros m)).cell? ⟨wr.heap.size, 0, none⟩ = some u) (h1 : (w3.alloc (Or.zeros m)).cell? ⟨wr.heap.size, 1, none⟩ = some v) : Lv.Made wr (((w3.alloc (Or.zeros m)).setCell ⟨wr.heap.size, 0, none⟩ (.int .i64 pr)).setCell ⟨wr.heap.size, 1, none⟩ (.slice (some ⟨w3.heap.size, 0, none⟩) m m)) wr.heap.size w3.heap.size m pr R := by
  have n01 : (⟨wr.heap.size, 0, none⟩ : Addr) ≠ ⟨wr.heap.size, 1, none⟩ := fun e => by simp at e
  have hg : ∀ (p : Addr), p.block ≠ w3.heap.size → ∀ k, (Value.slice (some ⟨w3.heap.size, 0, none⟩) m m).ownBlock = some k → some k ≠ some p.block := fun p hp k hk e => by
    have h1 : w3.heap.size = k := by simpa [Value.ownBlock] using hk
    have h2 : k = p.block := by simpa using e
    omega
  have ho := ((own_orders w3 m _ hC.size hm).kept (Lv.grown_set _ ⟨wr.heap.size, 0, none⟩ (.int .i64 pr)) (hg ⟨wr.heap.size, 0, none⟩ (by show wr.heap.size ≠ _; omega))).kept (Lv.grown_set _ ⟨wr.heap.size, 1, none⟩ (.slice (some ⟨w3.heap.size, 0, none⟩) m m)) (hg ⟨wr.heap.size, 1, none⟩ (by show wr.heap.size ≠ _; omega))
  refine ⟨hr, hm, ?_, ?_, ho, by omega, Nat.le_refl _, ((hC.alloc hC.size _).setCell (Nat.le_refl _) _).setCell (Nat.le_refl _) _⟩
  · rw [World.cell?_setCell_other _ _ _ _ (by first | exact n01 | exact n01.symm)]
    exact World.cell?_setCell_same _ _ _ h0
  · have h2 : ((w3.alloc (Or.zeros m)).setCell ⟨wr.heap.size, 0, none⟩ (.int .i64 pr)).cell? ⟨wr.heap.size, 1, none⟩ = some v := by
      rw [World.cell?_setCell_other _ _ _ _ (by first | exact n01 | exact n01.symm)]
      exact h1
    exact World.cell?_setCell_same _ _ _ h2
set_option maxRecDepth 100000 in
set_option maxHeartbeats 16000000 in
theorem inLevels_any (v : Value) (L : List Or.E) (w : World) (hv : Rk.View Or.S w v L) (hft : Rk.Fit v) (hl : L.length ≤ 1048576) :
    Calls Try.prog 48 #[v] w fun e w' => (∃ u Hs, e = .returned u ∧ Lv.Own w' w.heap.size 76 87 u (Nb.levels L) Hs) ∧ Below w.heap.size w w' := by
  obtain ⟨i0, hi, hz0, hz1, hz2⟩ := info_parts infoOrd
  have HI : Hid ((Try.prog.info? 87).map (·.size) = some 8) := by show _ = _; rw [hi]; exact congrArg some hz1
  obtain ⟨i1, hi1, hy0, hy1, hy2⟩ := info_parts infoLevel
  have HV := Fk.hide hv
  obtain ⟨a, cap, rfl, _⟩ := hv
  have hft2 : L.length ≤ cap := hft _ _ _ rfl
  clear hft
  go_enter Try.func48, Try.ntmps48
  go_wp2_with fail
  go_loopw [0, 3] (fun ord lev wr => ∃ (k : Nat) (oa ua : Option Addr) (on oc un uc : Nat) (Hs : List Lv.H), k ≤ L.length ∧ ord = .slice oa on oc ∧ lev = .slice ua un uc ∧ on = L.length - k ∧ on ≤ oc ∧ Hid (Rk.View Or.S w (.slice oa on oc) (L.drop k)) ∧ Hid (k < L.length → ¬ Nb.ends (Nb.levels (L.take k)) (Ob.at' L k).2.2.1) ∧ Hid (Lv.Own wr w.heap.size 76 87 (.slice ua un uc) (Nb.levels (L.take k)) Hs) ∧ Hid (Below w.heap.size w wr)) (fun ord _ _ => match ord with | .slice _ n _ => n | _ => 0)
  case atStart => exact ⟨0, _, _, _, _, _, _, [], Nat.zero_le _, rfl, rfl, by omega, hft2, HV, (fun _ => Nb.not_ends_none _), (Lv.own_nil _ _ _ _), Below.refl _ _⟩
  case round =>
    obtain ⟨k, oa, ua, on, oc, un, uc, Hs, hk, rfl, rfl, hon, hfit, HVR, HE, HO, HB⟩ := hrel
    by_cases hlt : k < L.length
    · have hpos : 0 < (L.drop k).length := by simp; omega
      have hgt : (0 : Int) < (on : Int) := by omega
      have hgn : 0 < on := by omega
      have HON := Fk.hide hon
      have hbd : on ≤ 1048576 := by omega
      obtain ⟨_, _, ev, hsv⟩ := HVR.out
      obtain ⟨b, o, rfl, hb, hs1⟩ := hsv hpos
      simp only [Value.slice.injEq] at ev
      obtain rfl := ev.1
      clear ev hsv hon
      obtain ⟨pr, hpr⟩ : ∃ x, x = (Ob.at' L k).2.2.1 := ⟨_, rfl⟩
      have q2 : wr.cell? ⟨b, o + 2, none⟩ = some (.int .i64 pr) := by have := Or.c2 (hs1.below hb HB.out) (k := 0) hpos; rw [show (Rk.at_ Or.S (L.drop k) 0).2.2.1 = pr by rw [hpr]; exact congrArg (fun x : Or.E => x.2.2.1) (Ob.at_drop L k 0), show o + 0 * 8 + 2 = o + 2 by omega] at this; exact this
      have HPR := Fk.hide hpr
      have HS1 := Fk.hide hs1
      clear hpr hs1 hpos
      have HBW0 : Hid (b < w.heap.size) := hb
      have HBW : Hid (b < wr.heap.size) := Nat.lt_of_lt_of_le hb HB.out.size
      have q2a : (wr.alloc (.cells #[.int .i64 0, .slice none 0 0] 76)).cell? ⟨b, o + 2, none⟩ = some (.int .i64 pr) := (Fk.cellOld _ _ _ _ HBW.out).trans q2
      have bZ : Below wr.heap.size wr (wr.alloc (.cells #[.int .i64 0, .slice none 0 0] 76)) := (Below.refl _ _).alloc (Nat.le_refl _) _
      have HMa : Hid (Calls Try.prog 58 #[.slice (some ⟨b, o, none⟩) on oc] (wr.alloc (.cells #[.int .i64 0, .slice none 0 0] 76)).drew fun e w' => (∃ m : Nat, e = .returned (.int .i64 m) ∧ Nb.run (L.drop k) m) ∧ Below (wr.alloc (.cells #[.int .i64 0, .slice none 0 0] 76)).drew.heap.size (wr.alloc (.cells #[.int .i64 0, .slice none 0 0] 76)).drew w') := manyOf_any _ (L.drop k) _ ((HVR.out.below HB.out).below (Below.drew bZ)) (by simp; omega) (by simp; omega)
      have HMb : Hid (Calls Try.prog 58 #[.slice (some ⟨b, o, none⟩) on oc] wr.drew fun e w' => (∃ m : Nat, e = .returned (.int .i64 m) ∧ Nb.run (L.drop k) m) ∧ Below wr.drew.heap.size wr.drew w') := manyOf_any _ (L.drop k) _ ((HVR.out.below HB.out).below (Below.drew (Below.refl _ _))) (by simp; omega) (by simp; omega)
      have HCa : Hid (Below wr.heap.size wr (wr.alloc (.cells #[.int .i64 0, .slice none 0 0] 76)).drew ∧ (wr.alloc (.cells #[.int .i64 0, .slice none 0 0] 76)).drew.heap.size = wr.heap.size + 1 ∧ (∀ j, (wr.alloc (.cells #[.int .i64 0, .slice none 0 0] 76)).drew.frozen? ⟨wr.heap.size, j, none⟩ = false) ∧ (wr.alloc (.cells #[.int .i64 0, .slice none 0 0] 76)).drew.cell? ⟨wr.heap.size, 0, none⟩ = some (.int .i64 0) ∧ (wr.alloc (.cells #[.int .i64 0, .slice none 0 0] 76)).drew.cell? ⟨wr.heap.size, 1, none⟩ = some (.slice none 0 0)) := ⟨Below.drew bZ, by simp, fun j => Fk.frozTop _ _ _ _ _ rfl, (Fk.cellTop _ _ _ _ _ rfl).trans rfl, (Fk.cellTop _ _ _ _ _ rfl).trans rfl⟩
      clear bZ hb
      go_wp2_with fail
      obtain ⟨KK, hKK⟩ : ∃ KK : Act → World → Prop, KK = fun a z => ∃ (x y m : Nat), a = ⟨(Value.slice (some ⟨b, o, none⟩) on oc :: undef :: Value.slice none 0 0 :: Value.slice ua un uc :: Value.pointer (some ⟨x, 0, none⟩) :: Value.slice (some ⟨b, o, none⟩) on oc :: Value.int .i64 on :: Value.bool true :: Value.slice (some ⟨b, o, none⟩) on oc :: Value.pointer (some ⟨b, o, none⟩) :: Value.pointer (some ⟨b, o + 2, none⟩) :: Value.int .i64 pr :: Value.slice (some ⟨b, o, none⟩) on oc :: Value.int .i64 m :: Value.slice (some ⟨y, 0, none⟩) m m :: Value.agg #[Value.int .i64 pr, Value.slice (some ⟨y, 0, none⟩) m m] :: u16 :: u17 :: u18 :: u19 :: u20 :: u21 :: u22 :: u23 :: u24 :: u25 :: undef :: []).toArray, []⟩ ∧ Hid (Lv.Made wr z x y m pr (L.drop k)) := ⟨_, rfl⟩
      have HKK := Fk.hide hKK
      refine Code.wp_mono (Q := Exit.then KK (fun _ _ _ => False)) ?_ ?_
      · intro e a z hh
        rw [hKK] at hh
        obtain ⟨rfl, x, y, m, rfl, HM⟩ := Lv.then_normal hh
        clear hKK HKK hh
        clear HMa HMb HCa q2 q2a
        have c0 := HM.out.c0
        have c1 := HM.out.c1
        have hm0 : 1 ≤ m := HM.out.run.1
        have hmn : m ≤ on := by have := HM.out.run.2.1; simp at this; have := HON.out; omega
        have HVZ := Fk.hide ((HVR.out.below HB.out).below HM.out.bel)
        obtain ⟨z2, hc2, ho2, hg2⟩ := Rk.copy_front (P := Try.prog) 32 32 3 87 8 rfl Try.underlying32 HI.out wr.heap.size y m m m m (some ⟨b, o, none⟩) on oc _ (L.drop k) HM.out.own HVZ.out (by simp) (by have := HM.out.run.2.1; exact this)
        have HO2 := Fk.hide ho2
        have hyx : some x ≠ some y := fun e => HM.out.ne (by simpa using e)
        have D2 : Hid (Below wr.heap.size wr z2) := HM.out.bel.grown hg2 HM.out.bel.size (fun j hj => by obtain rfl := Option.some.inj hj; exact (HM.out.own.lt y rfl).1)
        have d0 : z2.cell? ⟨x, 0, none⟩ = some (.int .i64 pr) := hg2.cell c0 hyx
        have d1 : z2.cell? ⟨x, 1, none⟩ = some (.slice (some ⟨y, 0, none⟩) m m) := hg2.cell c1 hyx
        have HSM : Hid (m ≤ 1048576) := HM.out.small
        have bH : Below z2.heap.size z2 (z2.alloc (.cells #[.int .i64 pr, .slice (some ⟨y, 0, none⟩) m m] 76)) := (Below.refl _ _).alloc (Nat.le_refl _) _
        have HBH : Hid (Below wr.heap.size wr (z2.alloc (.cells #[.int .i64 pr, .slice (some ⟨y, 0, none⟩) m m] 76))) := D2.out.trans (bH.mono D2.out.size)
        have HWH : Hid (Below w.heap.size w (z2.alloc (.cells #[.int .i64 pr, .slice (some ⟨y, 0, none⟩) m m] 76))) := HB.out.trans (HBH.out.mono HB.out.size)
        have HOH := Fk.hide (HO2.out.below bH)
        have HLH := Fk.hide (HO.out.below HBH.out)
        have HV5 := Fk.hide (Rk.view_lit1 (S := Lv.S) z2 76 #[.int .i64 pr, .slice (some ⟨y, 0, none⟩) m m] (pr, some ⟨y, 0, none⟩, m, m) rfl)
        have HLM : Hid (Hs.length + [((pr, some ⟨y, 0, none⟩, m, m) : Lv.H)].length ≤ 1000000000) := by show _ ≤ _; rw [HO.out.len]; have := Nb.levels_length (L.take k); simp at this ⊢; omega
        have HEQ : Hid (Nb.levels (L.take (k + m)) = Nb.levels (L.take k) ++ [(pr, (L.drop k).take m)]) := by show _ = _; rw [HPR.out]; exact Nb.levels_run L k m HM.out.run hlt (HE.out hlt)
        have HEN : Hid (k + m < L.length → ¬ Nb.ends (Nb.levels (L.take (k + m))) (Ob.at' L (k + m)).2.2.1) := fun h => Nb.run_ends L k m HM.out.run hlt (HE.out hlt) h
        have HVD : Hid (∀ q, q = o + m * 8 ∨ m = on → Rk.View Or.S w (.slice (some ⟨b, q, none⟩) (on - m) (oc - m)) (L.drop (k + m))) := fun q hq => by
          have hlen : on - m = (L.drop (k + m)).length := by have := HON.out; simp; omega
          rcases hq with rfl | rfl
          · refine Rk.view_of ?_ HBW0.out hlen
            have := Rk.sees_drop HS1.out m
            rw [List.drop_drop] at this
            exact this
          · refine Rk.view_of (fun i hi => absurd hi (by rw [← hlen]; omega)) HBW0.out hlen
        clear hg2 ho2 bH c0 hyx
        by_cases hcap : oc = m
        · have hcap2 := hcap.symm
          subst hcap2
          go_wp2_with (at_builtin; refine Rk.wpList_append_where _ rfl _ _ 35 rfl w.heap.size 76 i1 _ 2 32 rfl Try.underlying35 hi1 hy0 hy1 hy2 rfl (by decide) _ (.slice (some ⟨z2.heap.size, 0, none⟩) 1 1) Hs [((pr, some ⟨y, 0, none⟩, m, m) : Lv.H)] rfl rfl HLH.out.row HV5.out (Rk.shut_some _ _ _) HLM.out HWH.out.size ?_; intro u6 w6 o6 g6 n6; have HB6 : Hid (Below w.heap.size w w6) := HWH.out.grown g6 HWH.out.size (fun j hj => (HLH.out.row.lt j hj).1); have HT0 : Hid (Lv.Own w6 w.heap.size 76 87 u6 (Nb.levels (L.take (k + m))) (Hs ++ [((pr, some ⟨y, 0, none⟩, m, m) : Lv.H)])) := (by show Lv.Own _ _ _ _ _ _ _; rw [HEQ.out]; exact HO.out.push_new HBH.out HB.out.size (pr, some ⟨y, 0, none⟩, m, m) _ HOH.out o6 g6 n6); have HV6 : Hid (Rk.View Or.S w (.slice (some ⟨b, o, none⟩) (on - m) (m - m)) (L.drop (k + m))) := HVD.out _ (.inr (by omega)); obtain ⟨x6, n6', c6, rfl⟩ := o6.slice'; clear g6 o6 n6)
          go_roundw
          case rel => exact ⟨k + m, _, _, _, _, _, _, _, by have := HON.out; omega, rfl, rfl, by have := HON.out; omega, by omega, (by have h9 := HV6.out; rw [show on - m = 0 by omega, Nat.sub_self] at h9; exact h9), HEN, HT0, HB6⟩
          case measure => simp; omega
        · skip
          go_wp2_with (at_builtin; refine Rk.wpList_append_where _ rfl _ _ 35 rfl w.heap.size 76 i1 _ 2 32 rfl Try.underlying35 hi1 hy0 hy1 hy2 rfl (by decide) _ (.slice (some ⟨z2.heap.size, 0, none⟩) 1 1) Hs [((pr, some ⟨y, 0, none⟩, m, m) : Lv.H)] rfl rfl HLH.out.row HV5.out (Rk.shut_some _ _ _) HLM.out HWH.out.size ?_; intro u6 w6 o6 g6 n6; have HB6 : Hid (Below w.heap.size w w6) := HWH.out.grown g6 HWH.out.size (fun j hj => (HLH.out.row.lt j hj).1); have HT0 : Hid (Lv.Own w6 w.heap.size 76 87 u6 (Nb.levels (L.take (k + m))) (Hs ++ [((pr, some ⟨y, 0, none⟩, m, m) : Lv.H)])) := (by show Lv.Own _ _ _ _ _ _ _; rw [HEQ.out]; exact HO.out.push_new HBH.out HB.out.size (pr, some ⟨y, 0, none⟩, m, m) _ HOH.out o6 g6 n6); have HV6 : Hid (Rk.View Or.S w (.slice (some ⟨b, o + m * 8, none⟩) (on - m) (oc - m)) (L.drop (k + m))) := HVD.out _ (.inl rfl); obtain ⟨x6, n6', c6, rfl⟩ := o6.slice'; clear g6 o6 n6)
          go_roundw
          case rel => exact ⟨k + m, _, _, _, _, _, _, _, by have := HON.out; omega, rfl, rfl, by have := HON.out; omega, by omega, HV6, HEN, HT0, HB6⟩
          case measure => simp; omega
      · clear hKK
        go_region_with (first | (go_at_call 58; refine HMa.out.mono ?_; rintro e w3 ⟨⟨m, rfl, hrun⟩, b3⟩; have C3 : Hid (Below wr.heap.size wr w3) := HCa.out.1.trans (b3.mono HCa.out.1.size); have HR := Fk.hide hrun; have hm1 : m ≤ 1048576 := (by have := hrun.2.1; simp at this; omega); have mk3 := make_orders w3 m hm1; have t0 : w3.cell? ⟨b, o + 2, none⟩ = some (.int .i64 pr) := (C3.out.cell (by exact HBW.out)).trans q2; have HB3 : Hid (b < w3.heap.size) := Nat.lt_of_lt_of_le HBW.out C3.out.size; have t1 : (w3.alloc (Or.zeros m)).cell? ⟨b, o + 2, none⟩ = some (.int .i64 pr) := (Fk.cellOld _ _ _ _ HB3.out).trans t0; have y0 : w3.cell? ⟨wr.heap.size, 0, none⟩ = some (.int .i64 0) := (b3.cell (by show wr.heap.size < _; rw [HCa.out.2.1]; omega)).trans HCa.out.2.2.2.1; have y1 : w3.cell? ⟨wr.heap.size, 1, none⟩ = some (.slice none 0 0) := (b3.cell (by show wr.heap.size < _; rw [HCa.out.2.1]; omega)).trans HCa.out.2.2.2.2; have yf : ∀ j, w3.frozen? ⟨wr.heap.size, j, none⟩ = false := (fun j => (b3.frozen (by show wr.heap.size < _; rw [HCa.out.2.1]; omega)).trans (HCa.out.2.2.1 j)); have HYL : Hid (wr.heap.size < w3.heap.size) := (by have h1 := b3.size; have h2 := HCa.out.2.1; show _ < _; omega); have z0 : (w3.alloc (Or.zeros m)).cell? ⟨wr.heap.size, 0, none⟩ = some (.int .i64 0) := (Fk.cellOld _ _ _ _ HYL.out).trans y0; have z1 : (w3.alloc (Or.zeros m)).cell? ⟨wr.heap.size, 1, none⟩ = some (.slice none 0 0) := (Fk.cellOld _ _ _ _ HYL.out).trans y1; have zf0 : (w3.alloc (Or.zeros m)).frozen? ⟨wr.heap.size, 0, none⟩ = false := (Fk.frozOld _ _ _ _ HYL.out).trans (yf 0); have zf1 : (w3.alloc (Or.zeros m)).frozen? ⟨wr.heap.size, 1, none⟩ = false := (Fk.frozOld _ _ _ _ HYL.out).trans (yf 1); clear hrun b3 y0 y1 yf) | (go_at_call 58; refine HMb.out.mono ?_; rintro e w3 ⟨⟨m, rfl, hrun⟩, b3⟩; have C3 : Hid (Below wr.heap.size wr w3) := (Below.drew (Below.refl _ _)).trans (b3.mono (Nat.le_refl _)); have HR := Fk.hide hrun; have hm1 : m ≤ 1048576 := (by have := hrun.2.1; simp at this; omega); have mk3 := make_orders w3 m hm1; have t0 : w3.cell? ⟨b, o + 2, none⟩ = some (.int .i64 pr) := (C3.out.cell (by exact HBW.out)).trans q2; have HB3 : Hid (b < w3.heap.size) := Nat.lt_of_lt_of_le HBW.out C3.out.size; have t1 : (w3.alloc (Or.zeros m)).cell? ⟨b, o + 2, none⟩ = some (.int .i64 pr) := (Fk.cellOld _ _ _ _ HB3.out).trans t0; have mk4 := make_orders (w3.alloc (.cells #[.int .i64 0, .slice none 0 0] 76)) m hm1; rw [show (w3.alloc (.cells #[.int .i64 0, .slice none 0 0] 76)).heap.size = w3.heap.size + 1 by simp] at mk4; have t2 : (w3.alloc (.cells #[.int .i64 0, .slice none 0 0] 76)).cell? ⟨b, o + 2, none⟩ = some (.int .i64 pr) := (Fk.cellOld _ _ _ _ HB3.out).trans t0; have t3 : ((w3.alloc (.cells #[.int .i64 0, .slice none 0 0] 76)).alloc (Or.zeros m)).cell? ⟨b, o + 2, none⟩ = some (.int .i64 pr) := (Fk.cellOld _ _ _ _ (by have := HB3.out; simp; omega)).trans t2; have t4 : ((w3.alloc (Or.zeros m)).alloc (.cells #[.int .i64 0, .slice none 0 0] 76)).cell? ⟨b, o + 2, none⟩ = some (.int .i64 pr) := (Fk.cellOld _ _ _ _ (by have := HB3.out; simp; omega)).trans t1; have z0 : ((w3.alloc (.cells #[.int .i64 0, .slice none 0 0] 76)).alloc (Or.zeros m)).cell? ⟨w3.heap.size, 0, none⟩ = some (.int .i64 0) := (Fk.cellOld _ _ _ _ (by simp)).trans ((Fk.cellTop _ _ _ _ _ rfl).trans rfl); have z1 : ((w3.alloc (.cells #[.int .i64 0, .slice none 0 0] 76)).alloc (Or.zeros m)).cell? ⟨w3.heap.size, 1, none⟩ = some (.slice none 0 0) := (Fk.cellOld _ _ _ _ (by simp)).trans ((Fk.cellTop _ _ _ _ _ rfl).trans rfl); have zf0 : ((w3.alloc (.cells #[.int .i64 0, .slice none 0 0] 76)).alloc (Or.zeros m)).frozen? ⟨w3.heap.size, 0, none⟩ = false := (Fk.frozOld _ _ _ _ (by simp)).trans (Fk.frozTop _ _ _ _ _ rfl); have zf1 : ((w3.alloc (.cells #[.int .i64 0, .slice none 0 0] 76)).alloc (Or.zeros m)).frozen? ⟨w3.heap.size, 1, none⟩ = false := (Fk.frozOld _ _ _ _ (by simp)).trans (Fk.frozTop _ _ _ _ _ rfl); clear hrun b3))
        all_goals (rw [HKK.out]; first | exact ⟨_, _, _, rfl, Lv.made1 C3.out HR.out hm1⟩ | exact ⟨_, _, _, rfl, Lv.made2 C3.out HR.out hm1⟩ | exact ⟨_, _, _, rfl, Lv.made3 C3.out HR.out hm1 HYL.out z0 z1⟩)
    · have e : k = L.length := by omega
      subst e
      rw [Nb.levels_all] at HO
      have h0 : on = 0 := by omega
      clear hon hfit
      subst h0
      go_wp2_with fail
      go_ret
      exact ⟨⟨_, _, rfl, HO.out⟩, HB.out⟩
end Go.Proofs.Ytnhpcknbnmhlhaa
