/- The walks of the specification's bar of trades, and of what asks it. -/
import Derived.Test.YtficlppngnnpoaaProg
import Derived.Test.YtficlppngnnpoaaTapeMath
import Derived.Test.YtficlppngnnpoaaTapeRight
import Derived.WalkKit
import Derived.WalkSpells
import Derived.WalkLawsBesides
import Derived.BigRegion
import Derived.BigQuiet
import Derived.Deep.RegionWith
import Derived.Deep.RegionHeld3
import Derived.Lib.QuietBelow
namespace Go.Proofs.Ytficlppngnnpoaa
open Go.RowKit
set_option linter.unusedVariables false
set_option linter.unusedSimpArgs false
set_option maxHeartbeats 1000000 in
theorem l01Min_tp (a b : Int) (w : World) :
    Calls Try.prog 51 #[.int .i64 a, .int .i64 b] w fun e w' => e = .returned (.int .i64 (Tp.mn a b)) ∧ w' = w := by
  by_cases h : a < b
  · have HM : Hid (Tp.mn a b = a) := by show _ = _; simp [Tp.mn, h]
    go_enter Try.func51, Try.ntmps51
    go_wp2_with fail
    go_ret
    exact ⟨by rw [HM.out]; rfl, rfl⟩
  · have HM : Hid (Tp.mn a b = b) := by show _ = _; simp [Tp.mn, h]
    go_enter Try.func51, Try.ntmps51
    go_wp2_with fail
    go_ret
    exact ⟨by rw [HM.out]; rfl, rfl⟩
set_option maxHeartbeats 1000000 in
theorem l01Max_tp (a b : Int) (w : World) :
    Calls Try.prog 64 #[.int .i64 a, .int .i64 b] w fun e w' => e = .returned (.int .i64 (Tp.mx a b)) ∧ w' = w := by
  by_cases h : a > b
  · have HM : Hid (Tp.mx a b = a) := by show _ = _; simp [Tp.mx, h]
    go_enter Try.func64, Try.ntmps64
    go_wp2_with fail
    go_ret
    exact ⟨by rw [HM.out]; rfl, rfl⟩
  · have HM : Hid (Tp.mx a b = b) := by show _ = _; simp [Tp.mx, h]
    go_enter Try.func64, Try.ntmps64
    go_wp2_with fail
    go_ret
    exact ⟨by rw [HM.out]; rfl, rfl⟩
/-- a bar as a value -/
abbrev Tp.vs (b : Ba.E) : Value := .agg #[.int .i64 b.1, .int .i64 b.2.1, .int .i64 b.2.2.1, .int .i64 b.2.2.2.1, .int .i64 b.2.2.2.2]
/-- a bar in a box -/
structure Tp.Box (X : World) (b : Nat) (p : Ba.E) : Prop where
  c0 : X.cell? ⟨b, 0, none⟩ = some (.int .i64 p.1)
  c1 : X.cell? ⟨b, 1, none⟩ = some (.int .i64 p.2.1)
  c2 : X.cell? ⟨b, 2, none⟩ = some (.int .i64 p.2.2.1)
  c3 : X.cell? ⟨b, 3, none⟩ = some (.int .i64 p.2.2.2.1)
  c4 : X.cell? ⟨b, 4, none⟩ = some (.int .i64 p.2.2.2.2)
  fr : ∀ j, X.frozen? ⟨b, j, none⟩ = false
theorem Tp.Box.hi {X : World} {b : Nat} {p : Ba.E} (h : Tp.Box X b p) (u : Int) : Tp.Box (X.setCell ⟨b, 1, none⟩ (.int .i64 u)).drew b (p.1, u, p.2.2) := by
  obtain ⟨h0, h1, h2, h3, h4, hf⟩ := h
  exact ⟨by simp [go_sem, h0, h1, h2, h3, h4], by simp [go_sem, h0, h1, h2, h3, h4], by simp [go_sem, h0, h1, h2, h3, h4], by simp [go_sem, h0, h1, h2, h3, h4], by simp [go_sem, h0, h1, h2, h3, h4], fun j => by simp [go_sem, hf]⟩
theorem Tp.Box.lo {X : World} {b : Nat} {p : Ba.E} (h : Tp.Box X b p) (u : Int) : Tp.Box (X.setCell ⟨b, 2, none⟩ (.int .i64 u)).drew b (p.1, p.2.1, u, p.2.2.2) := by
  obtain ⟨h0, h1, h2, h3, h4, hf⟩ := h
  exact ⟨by simp [go_sem, h0, h1, h2, h3, h4], by simp [go_sem, h0, h1, h2, h3, h4], by simp [go_sem, h0, h1, h2, h3, h4], by simp [go_sem, h0, h1, h2, h3, h4], by simp [go_sem, h0, h1, h2, h3, h4], fun j => by simp [go_sem, hf]⟩
theorem Tp.Box.am {X : World} {b : Nat} {p : Ba.E} (h : Tp.Box X b p) (u : Int) : Tp.Box (X.setCell ⟨b, 4, none⟩ (.int .i64 u)).drew b (p.1, p.2.1, p.2.2.1, p.2.2.2.1, u) := by
  obtain ⟨h0, h1, h2, h3, h4, hf⟩ := h
  exact ⟨by simp [go_sem, h0, h1, h2, h3, h4], by simp [go_sem, h0, h1, h2, h3, h4], by simp [go_sem, h0, h1, h2, h3, h4], by simp [go_sem, h0, h1, h2, h3, h4], by simp [go_sem, h0, h1, h2, h3, h4], fun j => by simp [go_sem, hf]⟩
theorem Tp.Box.cl {X : World} {b : Nat} {p : Ba.E} (h : Tp.Box X b p) (u : Int) : Tp.Box (X.setCell ⟨b, 3, none⟩ (.int .i64 u)) b (p.1, p.2.1, p.2.2.1, u, p.2.2.2.2) := by
  obtain ⟨h0, h1, h2, h3, h4, hf⟩ := h
  exact ⟨by simp [go_sem, h0, h1, h2, h3, h4], by simp [go_sem, h0, h1, h2, h3, h4], by simp [go_sem, h0, h1, h2, h3, h4], by simp [go_sem, h0, h1, h2, h3, h4], by simp [go_sem, h0, h1, h2, h3, h4], fun j => by simp [go_sem, hf]⟩
/-- what the specification's bar has ahead of the k-th round -/
def Tp.pre (L : List Td.E) (k : Nat) : Ba.E := if k = 0 then ((Rk.at_ Td.S L 0).1, (Rk.at_ Td.S L 0).1, (Rk.at_ Td.S L 0).1, 0, 0) else Tp.bar (L.take k)
theorem Tp.pre_step (L : List Td.E) (k : Nat) (h : k < L.length) (hf : Tp.Fine k (Tp.bar (L.take k))) : Tp.pre L (k + 1) = ((Tp.pre L k).1, Tp.mx (Tp.pre L k).2.1 (Tp.at' L k).1, Tp.mn (Tp.pre L k).2.2.1 (Tp.at' L k).1, (Tp.at' L k).1, (Tp.pre L k).2.2.2.2 + (Tp.at' L k).2) := by
  unfold Tp.pre
  rw [if_neg (Nat.succ_ne_zero k), Tp.bar_take L k h]
  by_cases h0 : k = 0
  · subst h0
    simp [Tp.step, Tp.bar, Tp.mx, Tp.mn]
  · rw [if_neg h0]
    have h1 := hf.2.1
    unfold Tp.step
    rw [if_neg (by omega)]
theorem Tp.pre_fine {L : List Td.E} {k : Nat} (hk : k ≤ 400) (hf : Tp.Fine k (Tp.bar (L.take k))) : 0 ≤ (Tp.pre L k).2.2.2.2 ∧ (Tp.pre L k).2.2.2.2 ≤ 1000000 := by
  unfold Tp.pre
  by_cases h0 : k = 0
  · rw [if_pos h0]; simp
  · rw [if_neg h0]
    have h1 := hf.2.1
    have h2 := hf.2.2.1
    exact ⟨by omega, by omega⟩
set_option maxRecDepth 100000 in
set_option maxHeartbeats 4000000 in
theorem l12Bar_any (v : Value) (L : List Td.E) (w : World) (hv : Rk.View Td.S w v L) (hr : Tp.right L = true) (hne : 0 < L.length) :
    Calls Try.prog 50 #[v] w fun e w' => e = .returned (Tp.vs (Tp.bar L)) ∧ Below w.heap.size w w' := by
  obtain ⟨a, cap, rfl, hs⟩ := hv
  have hl4 : L.length ≤ 400 := (Tp.right_inv hr).1
  have HOK := Fk.hide (Tp.right_inv hr).2
  have HFI := Fk.hide (Tp.fine_take hr)
  clear hr
  obtain ⟨b, o, rfl, hb, hs1⟩ := hs hne
  have HS := Fk.hide hs1
  obtain ⟨W, hW⟩ : ∃ W, W = w.alloc (.cells #[.int .i64 0, .int .i64 0, .int .i64 0, .int .i64 0, .int .i64 0] 35) := ⟨_, rfl⟩
  have b0 : Below w.heap.size w W := by rw [hW]; exact (Below.refl _ _).alloc (Nat.le_refl _) _
  have hz : W.heap.size = w.heap.size + 1 := by rw [hW]; simp
  have c0 : W.cell? ⟨w.heap.size, 0, none⟩ = some (.int .i64 0) := by rw [hW, Fk.cellTop _ _ _ _ _ rfl]; rfl
  have c1 : W.cell? ⟨w.heap.size, 1, none⟩ = some (.int .i64 0) := by rw [hW, Fk.cellTop _ _ _ _ _ rfl]; rfl
  have c2 : W.cell? ⟨w.heap.size, 2, none⟩ = some (.int .i64 0) := by rw [hW, Fk.cellTop _ _ _ _ _ rfl]; rfl
  have c3 : W.cell? ⟨w.heap.size, 3, none⟩ = some (.int .i64 0) := by rw [hW, Fk.cellTop _ _ _ _ _ rfl]; rfl
  have c4 : W.cell? ⟨w.heap.size, 4, none⟩ = some (.int .i64 0) := by rw [hW, Fk.cellTop _ _ _ _ _ rfl]; rfl
  have HZ : Hid (Tp.Box W w.heap.size (0, 0, 0, 0, 0)) := ⟨c0, c1, c2, c3, c4, fun j => by rw [hW, Fk.frozTop _ _ _ _ _ rfl]⟩
  have hs0 := hs1.below hb b0
  have q0 := Td.c0 hs0 hne
  obtain ⟨f, hf⟩ : ∃ f, f = Rk.at_ Td.S L 0 := ⟨_, rfl⟩
  have HF := Fk.hide hf
  rw [← hf] at q0
  simp only [Nat.zero_mul, Nat.add_zero] at q0
  clear c0 c1 c2 c3 c4 hs0 hs1 hf
  have HW := Fk.hide hW
  have HB0 := Fk.hide b0
  clear hW b0
  go_enter Try.func50, Try.ntmps50
  go_wp2_with fail
  rw [← HW.out]
  go_region
  obtain ⟨W1, hW1⟩ : ∃ X, X = (W.alloc (.cells #[.int .i64 f.1, .int .i64 f.1, .int .i64 f.1, .int .i64 0, .int .i64 0] 35)).drew := ⟨_, rfl⟩
  rw [← hW1]
  have k1 : Below W.heap.size W W1 := by rw [hW1]; exact ((Below.refl _ _).alloc (Nat.le_refl _) _).drew
  have hz1 : W1.heap.size = w.heap.size + 2 := by rw [hW1]; simp [hz]
  have HB1 : Hid (Below w.heap.size w W1) := HB0.out.trans (k1.mono HB0.out.size)
  have HZ1 : Hid (Tp.Box W1 w.heap.size (0, 0, 0, 0, 0)) := ⟨(k1.cell (by show w.heap.size < _; omega)).trans HZ.out.c0, (k1.cell (by show w.heap.size < _; omega)).trans HZ.out.c1, (k1.cell (by show w.heap.size < _; omega)).trans HZ.out.c2, (k1.cell (by show w.heap.size < _; omega)).trans HZ.out.c3, (k1.cell (by show w.heap.size < _; omega)).trans HZ.out.c4, fun j => (k1.frozen (by show w.heap.size < _; omega)).trans (HZ.out.fr j)⟩
  have HX1 : Hid (Tp.Box W1 (w.heap.size + 1) (f.1, f.1, f.1, 0, 0)) := by
    have e : ∀ j, W1.cell? ⟨w.heap.size + 1, j, none⟩ = (W.alloc (.cells #[.int .i64 f.1, .int .i64 f.1, .int .i64 f.1, .int .i64 0, .int .i64 0] 35)).cell? ⟨w.heap.size + 1, j, none⟩ := fun j => by rw [hW1]; rfl
    have e2 : ∀ j, W1.frozen? ⟨w.heap.size + 1, j, none⟩ = (W.alloc (.cells #[.int .i64 f.1, .int .i64 f.1, .int .i64 f.1, .int .i64 0, .int .i64 0] 35)).frozen? ⟨w.heap.size + 1, j, none⟩ := fun j => by rw [hW1]; rfl
    refine ⟨?_, ?_, ?_, ?_, ?_, fun j => ?_⟩
    · rw [e, Fk.cellTop _ _ _ _ _ hz.symm]; rfl
    · rw [e, Fk.cellTop _ _ _ _ _ hz.symm]; rfl
    · rw [e, Fk.cellTop _ _ _ _ _ hz.symm]; rfl
    · rw [e, Fk.cellTop _ _ _ _ _ hz.symm]; rfl
    · rw [e, Fk.cellTop _ _ _ _ _ hz.symm]; rfl
    · rw [e2, Fk.frozTop _ _ _ _ _ hz.symm]
  have hzz : w.heap.size + 2 ≤ W1.heap.size := by omega
  clear hW1 k1 hz1 HZ HB0 HW hz q0
  go_wp2_with fail
  go_loopw [4] (fun i wr => ∃ (k : Nat) (p : Ba.E), k ≤ L.length ∧ i = .int .i64 k ∧ Hid (p = Tp.pre L k) ∧ Hid (Tp.Box wr (w.heap.size + 1) p) ∧ Hid (Below (w.heap.size + 1) W1 wr)) (fun i _ => L.length - (intOf i).toNat)
  case atStart => exact ⟨0, _, Nat.zero_le _, rfl, by show _ = _; rw [HF.out]; rfl, HX1.out, Below.refl _ _⟩
  case round =>
    obtain ⟨k, p, hk, rfl, HPK, HX, BEL⟩ := hrel
    have hz3 : w.heap.size + 2 ≤ wr.heap.size := Nat.le_trans hzz BEL.out.size
    by_cases hlt : k < L.length
    · have B3 : Below w.heap.size w wr := HB1.out.trans (BEL.out.mono (Nat.le_succ _))
      have hs' := HS.out.below hb B3
      have q0 := Td.c0 hs' hlt
      have q1 := Td.c1 hs' hlt
      have hok := Tp.ok_inv (HOK.out k hlt)
      have hfi := HFI.out k hk
      have hst := Tp.pre_step L k hlt hfi
      rw [← HPK.out] at hst
      unfold Tp.at' at hok hst
      have ham : 0 ≤ p.2.2.2.2 ∧ p.2.2.2.2 ≤ 1000000 := by rw [HPK.out]; exact Tp.pre_fine (by omega) hfi
      obtain ⟨g, hg⟩ : ∃ g, g = Rk.at_ Td.S L k := ⟨_, rfl⟩
      rw [← hg] at q0 q1 hok hst
      have HGG : Hid (Rk.at_ Td.S L k = g) := hg.symm
      clear hg hs' HPK hfi B3
      have HST := Fk.hide hst
      have HOK2 := Fk.hide hok
      clear hst
      obtain ⟨p0, p1, p2, p3, p4, pf⟩ := HX.out
      obtain ⟨y0, y1, y2, y3, y4⟩ := p
      obtain ⟨g0, g1⟩ := g
      simp only at q0 q1 hok ham p0 p1 p2 p3 p4
      go_wp2_with fail
      go_region_with (go_at_call 64; refine (l01Max_tp _ _ _).mono ?_; rintro e w' ⟨rfl, rfl⟩)
      all_goals
        obtain ⟨X2, hX2⟩ : ∃ X, X = (wr.setCell ⟨w.heap.size + 1, 1, none⟩ (.int .i64 (Tp.mx y1 g0))).drew := ⟨_, rfl⟩
        rw [← hX2]
        have HBE2 : Hid (Below (w.heap.size + 1) W1 X2) := by show Below _ _ _; rw [hX2]; exact (BEL.out.setCell (Nat.le_refl _) _).drew
        have HX2 : Hid (Tp.Box X2 (w.heap.size + 1) (y0, Tp.mx y1 g0, y2, y3, y4)) := by show Tp.Box _ _ _; rw [hX2]; exact HX.out.hi _
        clear q0 q1 p0 p1 p2 p3 p4 pf
        have B3 : Below w.heap.size w X2 := HB1.out.trans (HBE2.out.mono (Nat.le_succ _))
        have hs' := HS.out.below hb B3
        have q0 := Td.c0 hs' hlt
        have q1 := Td.c1 hs' hlt
        rw [HGG.out] at q0 q1
        obtain ⟨p0, p1, p2, p3, p4, pf⟩ := HX2.out
        clear hX2 HX BEL B3 hs'
        go_wp2_with fail
        go_region_with (go_at_call 51; refine (l01Min_tp _ _ _).mono ?_; rintro e w' ⟨rfl, rfl⟩)
        all_goals
          obtain ⟨X3, hX3⟩ : ∃ X, X = (X2.setCell ⟨w.heap.size + 1, 2, none⟩ (.int .i64 (Tp.mn y2 g0))).drew := ⟨_, rfl⟩
          rw [← hX3]
          have HBE3 : Hid (Below (w.heap.size + 1) W1 X3) := by show Below _ _ _; rw [hX3]; exact (HBE2.out.setCell (Nat.le_refl _) _).drew
          have HX3 : Hid (Tp.Box X3 (w.heap.size + 1) (y0, Tp.mx y1 g0, Tp.mn y2 g0, y3, y4)) := by show Tp.Box _ _ _; rw [hX3]; exact HX2.out.lo _
          clear q0 q1 p0 p1 p2 p3 p4 pf
          have B3 : Below w.heap.size w X3 := HB1.out.trans (HBE3.out.mono (Nat.le_succ _))
          have hs' := HS.out.below hb B3
          have q0 := Td.c0 hs' hlt
          have q1 := Td.c1 hs' hlt
          rw [HGG.out] at q0 q1
          obtain ⟨p0, p1, p2, p3, p4, pf⟩ := HX3.out
          clear hX3 HX2 HBE2 B3 hs'
          go_wp2_with fail
          obtain ⟨X4, hX4⟩ : ∃ X, X = X3.setCell ⟨w.heap.size + 1, 3, none⟩ (.int .i64 g0) := ⟨_, rfl⟩
          rw [← hX4]
          have HBE4 : Hid (Below (w.heap.size + 1) W1 X4) := by show Below _ _ _; rw [hX4]; exact HBE3.out.setCell (Nat.le_refl _) _
          have HX4 : Hid (Tp.Box X4 (w.heap.size + 1) (y0, Tp.mx y1 g0, Tp.mn y2 g0, g0, y4)) := by show Tp.Box _ _ _; rw [hX4]; exact HX3.out.cl _
          clear q0 q1 p0 p1 p2 p3 p4 pf
          have B3 : Below w.heap.size w X4 := HB1.out.trans (HBE4.out.mono (Nat.le_succ _))
          have hs' := HS.out.below hb B3
          have q0 := Td.c0 hs' hlt
          have q1 := Td.c1 hs' hlt
          rw [HGG.out] at q0 q1
          obtain ⟨p0, p1, p2, p3, p4, pf⟩ := HX4.out
          clear hX4 HX3 HBE3 B3 hs'
          go_region
          all_goals
            obtain ⟨X5, hX5⟩ : ∃ X, X = (X4.setCell ⟨w.heap.size + 1, 4, none⟩ (.int .i64 (y4 + g1))).drew := ⟨_, rfl⟩
            rw [← hX5]
            have HBE5 : Hid (Below (w.heap.size + 1) W1 X5) := by show Below _ _ _; rw [hX5]; exact (HBE4.out.setCell (Nat.le_refl _) _).drew
            have HX5 : Hid (Tp.Box X5 (w.heap.size + 1) (y0, Tp.mx y1 g0, Tp.mn y2 g0, g0, y4 + g1)) := by show Tp.Box _ _ _; rw [hX5]; exact HX4.out.am _
            clear q0 q1 p0 p1 p2 p3 p4 pf hX5 HX4 HBE4
            go_wp2_with fail
            go_roundw
            case rel => exact ⟨k + 1, _, by omega, by go_num, HST.out.symm, HX5.out, HBE5.out⟩
            case measure => simp [intOf]; omega
    · have e : k = L.length := by omega
      have HG : Hid (p = Tp.bar L) := by show _ = _; rw [HPK.out, e]; unfold Tp.pre; rw [if_neg (by omega), List.take_length]
      have HB3 : Hid (Below w.heap.size w wr) := HB1.out.trans (BEL.out.mono (Nat.le_succ _))
      have z0 := (BEL.out.cell (p := ⟨w.heap.size, 0, none⟩) (by show w.heap.size < _; omega)).trans HZ1.out.c0
      have z1 := (BEL.out.cell (p := ⟨w.heap.size, 1, none⟩) (by show w.heap.size < _; omega)).trans HZ1.out.c1
      have z2 := (BEL.out.cell (p := ⟨w.heap.size, 2, none⟩) (by show w.heap.size < _; omega)).trans HZ1.out.c2
      have z3 := (BEL.out.cell (p := ⟨w.heap.size, 3, none⟩) (by show w.heap.size < _; omega)).trans HZ1.out.c3
      have z4 := (BEL.out.cell (p := ⟨w.heap.size, 4, none⟩) (by show w.heap.size < _; omega)).trans HZ1.out.c4
      have zf : ∀ j, wr.frozen? ⟨w.heap.size, j, none⟩ = false := fun j => (BEL.out.frozen (by show w.heap.size < _; omega)).trans (HZ1.out.fr j)
      obtain ⟨p0, p1, p2, p3, p4, pf⟩ := HX.out
      clear HPK HZ1 HX1
      go_wp2_with fail
      refine bodyPost_ret (v := Tp.vs p) (by simp [results, Try.results50, go_sem, z0, z1, z2, z3, z4]) rfl ⟨by rw [HG.out], ?_⟩
      exact (((((HB3.out.setCell (Nat.le_refl _) _).setCell (Nat.le_refl _) _).setCell (Nat.le_refl _) _).setCell (Nat.le_refl _) _).setCell (Nat.le_refl _) _)
end Go.Proofs.Ytficlppngnnpoaa
