/- Proved: for every argument the exact law of Alike returns true: impl.Alike answers as the specification's Alike, writes into no argument, and the arguments read as before. No condition. -/
import Derived.Test.YtjagohadeegghaaRows
import Derived.Test.YtjagohadeegghaaAnsKit
import Derived.Test.YtjagohadeegghaaOldOpen
import Derived.Test.YtjagohadeegghaaOldLaw
import Derived.Test.YtjagohadeegghaaNewOpen
import Derived.Test.YtjagohadeegghaaNewTo
import Derived.Test.YtjagohadeegghaaNewEq
import Derived.Test.YtjagohadeegghaaAlikeSpec
import Derived.Test.YtjagohadeegghaaAlikeImpl
import Derived.WalkKit
import Derived.ProofKit
import Derived.OpenShut
import Derived.ShutString
import Derived.Below
import Derived.ChangeSame
namespace Go.Proofs.Ytjagohadeegghaa.fnExactAlike
open Go.ChangeShapes Go.WideShapes Go.ChangeAt Go.RowKit
open Go.ChangeMaps (open_string shut_string)
set_option linter.unusedVariables false

theorem own : ownKnob Try.prog.godebug = none := by kernel_rfl
theorem laidOut : laidOutB Try.prog = true := by kernel_rfl

set_option maxHeartbeats 16000000 in
theorem walk (a0 b0 : Value) (K0 : Int) (B0 A0 : List Or.E) (w0 : (Lit.int .i64 K0).wf = true) (x0 : (∀ f ∈ B0, Or.Fit f) ∧ (∀ f ∈ A0, Or.Fit f)) (n0 : B0.length ≤ maxLen ∧ A0.length ≤ maxLen) (s0 : Rk.Shut a0 ∧ Rk.Shut b0) (a1 b1 : Value) (K1 : Int) (B1 A1 : List Lv.E) (w1 : (Lit.int .i64 K1).wf = true) (n1 : B1.length ≤ maxLen ∧ A1.length ≤ maxLen) (x1 : (∀ i, i < B1.length → (Lv.at' B1 i).2.length ≤ maxLen) ∧ (∀ i, i < A1.length → (Lv.at' A1 i).2.length ≤ maxLen)) (w : World) (g0 : Rk.View Or.S w a0 B0 ∧ Rk.View Or.S w b0 A0) (g1 : Lv.View w a1 B1 ∧ Lv.View w b1 A1) :
    Calls Try.prog 5 #[.agg #[a0, b0, .int .i64 K0], .agg #[a1, b1, .int .i64 K1]] w fun e w' => e = .returned (.bool true) ∧ Below w.heap.size w w' := by
  have HG0 := Fk.hide g0.1
  have HG1 := Fk.hide g0.2
  have HG2 := Fk.hide g1.1
  have HG3 := Fk.hide g1.2
  have HX1 := Fk.hide x1
  obtain ⟨sa, sc, rfl, _⟩ := g0.1
  obtain ⟨ta, tc, rfl, _⟩ := g0.2
  obtain ⟨ua, uc, rfl⟩ := g1.1.slice
  obtain ⟨va, vc, rfl⟩ := g1.2.slice
  clear x1
  obtain ⟨W0, hW⟩ : ∃ W, W = (w.alloc (.cells #[.slice sa B0.length sc, .slice ta A0.length tc, .int .i64 K0] 24)).alloc (.cells #[.slice ua B1.length uc, .slice va A1.length vc, .int .i64 K1] 41) := ⟨_, rfl⟩
  have B_0 : Below w.heap.size w W0 := by
    rw [hW]
    repeat (first | exact Below.refl _ _ | refine Below.alloc ?_ (by simp <;> omega) _)
  have hz0 : w.heap.size + 1 < W0.heap.size := by rw [hW]; simp
  have cAa_0 : W0.cell? ⟨w.heap.size, 0, none⟩ = some (.slice sa B0.length sc) := by rw [hW, Fk.cellOld _ _ _ _ (by simp), Fk.cellTop _ _ _ _ _ rfl]; rfl
  have cAb_0 : W0.cell? ⟨w.heap.size, 1, none⟩ = some (.slice ta A0.length tc) := by rw [hW, Fk.cellOld _ _ _ _ (by simp), Fk.cellTop _ _ _ _ _ rfl]; rfl
  have cAc_0 : W0.cell? ⟨w.heap.size, 2, none⟩ = some (.int .i64 K0) := by rw [hW, Fk.cellOld _ _ _ _ (by simp), Fk.cellTop _ _ _ _ _ rfl]; rfl
  have cBa_0 : W0.cell? ⟨w.heap.size + 1, 0, none⟩ = some (.slice ua B1.length uc) := by rw [hW, Fk.cellTop _ _ _ _ _ (by simp)]; rfl
  have cBb_0 : W0.cell? ⟨w.heap.size + 1, 1, none⟩ = some (.slice va A1.length vc) := by rw [hW, Fk.cellTop _ _ _ _ _ (by simp)]; rfl
  have cBc_0 : W0.cell? ⟨w.heap.size + 1, 2, none⟩ = some (.int .i64 K1) := by rw [hW, Fk.cellTop _ _ _ _ _ (by simp)]; rfl
  have HW := Fk.hide hW
  have HB0 := Fk.hide B_0
  clear hW B_0 g0 g1
  go_enter Try.func5, Try.ntmps5
  go_wp2_with fail
  rw [← HW.out]
  refine (szOld_any _ _ _ _ _ _ _ (HG0.out.below HB0.out) (HG1.out.below HB0.out) n0.1 n0.2 (by decide) (by decide)).mono ?_
  rintro e W1 ⟨⟨r, rfl, hr⟩, k1⟩
  have HB1 : Hid (Below w.heap.size w W1) := HB0.out.trans (k1.mono HB0.out.size)
  have hz1 : W0.heap.size ≤ W1.heap.size := k1.size
  have cAa_1 : W1.cell? ⟨w.heap.size, 0, none⟩ = some (.slice sa B0.length sc) := (k1.cell (by show w.heap.size < _; omega)).trans cAa_0
  have cAb_1 : W1.cell? ⟨w.heap.size, 1, none⟩ = some (.slice ta A0.length tc) := (k1.cell (by show w.heap.size < _; omega)).trans cAb_0
  have cAc_1 : W1.cell? ⟨w.heap.size, 2, none⟩ = some (.int .i64 K0) := (k1.cell (by show w.heap.size < _; omega)).trans cAc_0
  have cBa_1 : W1.cell? ⟨w.heap.size + 1, 0, none⟩ = some (.slice ua B1.length uc) := (k1.cell (by show w.heap.size + 1 < _; omega)).trans cBa_0
  have cBb_1 : W1.cell? ⟨w.heap.size + 1, 1, none⟩ = some (.slice va A1.length vc) := (k1.cell (by show w.heap.size + 1 < _; omega)).trans cBb_0
  have cBc_1 : W1.cell? ⟨w.heap.size + 1, 2, none⟩ = some (.int .i64 K1) := (k1.cell (by show w.heap.size + 1 < _; omega)).trans cBc_0
  clear k1 cAa_0 cAb_0 cAc_0 cBa_0 cBb_0 cBc_0
  rcases hr with rfl | ⟨hr0, hr⟩
  · go_wp2_with fail
    go_ret
    exact ⟨rfl, HB1.out⟩
  have hl0 : B0.length ≤ 1048576 := by omega
  have hl1 : A0.length ≤ 1048576 := by omega
  have hrr : r ≤ 1048576 := by omega
  clear hr
  go_wp2_with fail
  refine (szNew_any _ _ _ _ _ r _ (HG2.out.below HB1.out) (HG3.out.below HB1.out) n1.1 n1.2 HX1.out.1 HX1.out.2 hr0 hrr).mono ?_
  rintro e W2 ⟨⟨r2, rfl, hr2⟩, k2⟩
  have HB2 : Hid (Below w.heap.size w W2) := HB1.out.trans (k2.mono HB1.out.size)
  have hz2 : W1.heap.size ≤ W2.heap.size := k2.size
  have cAa_2 : W2.cell? ⟨w.heap.size, 0, none⟩ = some (.slice sa B0.length sc) := (k2.cell (by show w.heap.size < _; omega)).trans cAa_1
  have cAb_2 : W2.cell? ⟨w.heap.size, 1, none⟩ = some (.slice ta A0.length tc) := (k2.cell (by show w.heap.size < _; omega)).trans cAb_1
  have cAc_2 : W2.cell? ⟨w.heap.size, 2, none⟩ = some (.int .i64 K0) := (k2.cell (by show w.heap.size < _; omega)).trans cAc_1
  have cBa_2 : W2.cell? ⟨w.heap.size + 1, 0, none⟩ = some (.slice ua B1.length uc) := (k2.cell (by show w.heap.size + 1 < _; omega)).trans cBa_1
  have cBb_2 : W2.cell? ⟨w.heap.size + 1, 1, none⟩ = some (.slice va A1.length vc) := (k2.cell (by show w.heap.size + 1 < _; omega)).trans cBb_1
  have cBc_2 : W2.cell? ⟨w.heap.size + 1, 2, none⟩ = some (.int .i64 K1) := (k2.cell (by show w.heap.size + 1 < _; omega)).trans cBc_1
  clear k2 cAa_1 cAb_1 cAc_1 cBa_1 cBb_1 cBc_1
  rcases hr2 with rfl | ⟨hr3, hr2⟩
  · go_wp2_with fail
    go_ret
    exact ⟨rfl, HB2.out⟩
  have hl2 : B1.length ≤ 1048576 := by omega
  have hl3 : A1.length ≤ 1048576 := by omega
  have HM0 : Hid ((Nb.flat B1).length ≤ 1048576) := by show _ ≤ _; omega
  have HM1 : Hid ((Nb.flat A1).length ≤ 1048576) := by show _ ≤ _; omega
  clear hr2
  have HE0 : Hid (∀ i, i < B1.length → (Lv.at' B1 i).2.length ≤ 1048576) := fun i hi => Nat.le_trans (Nb.each_le B1 i hi) HM0.out
  have HE1 : Hid (∀ i, i < A1.length → (Lv.at' A1 i).2.length ≤ 1048576) := fun i hi => Nat.le_trans (Nb.each_le A1 i hi) HM1.out
  obtain ⟨al, hal⟩ : ∃ z, z = Nb.alike B0 A0 K0 B1 A1 K1 := ⟨_, rfl⟩
  have FS : Hid (∀ w' a b a' b' u v x y, Aw.Ord w' 55 a b u v B0 A0 → Aw.Lev w' 103 55 a' b' x y B1 A1 → Calls Try.prog 31 #[.agg #[u, v, .int .i64 K0], .agg #[x, y, .int .i64 K1]] w' fun e w'' => e = .returned (.bool al) ∧ Below w'.heap.size w' w'') := fun w' a b a' b' u v x y h1 h2 => by rw [hal]; exact alike_spec' u v x y K0 K1 B0 A0 B1 A1 w' h1.1.b.view h1.1.a.view h1.1.b.shut h1.1.a.shut h2.views.1 h2.views.2 hl0 hl1 hl2 hl3 HM0.out HM1.out
  have FI : Hid (∀ w' a b a' b' u v x y, Aw.Ord w' 55 a b u v B0 A0 → Aw.Lev w' 103 55 a' b' x y B1 A1 → Calls Try.prog 32 #[.agg #[u, v, .int .i64 K0], .agg #[x, y, .int .i64 K1]] w' fun e w'' => e = .returned (.bool al) ∧ Below w'.heap.size w' w'') := fun w' a b a' b' u v x y h1 h2 => by rw [hal]; exact alike_impl' u v x y K0 K1 B0 A0 B1 A1 w' h1.1.b.view h1.1.a.view h1.1.b.shut h1.1.a.shut h1.1.b.fit h1.1.a.fit h2.views.1 h2.views.2 hl0 hl1 hl2 hl3 HM0.out HM1.out
  clear hal
  go_wp2_with fail
  have HD : Hid (Below W2.heap.size W2 W2.drew) := Below.drew (Below.refl _ _)
  have vd0 := Fk.hide ((HG0.out.below HB2.out).below HD.out)
  have vd1 := Fk.hide ((HG1.out.below HB2.out).below HD.out)
  have vd2 := Fk.hide ((HG2.out.below HB2.out).below HD.out)
  have vd3 := Fk.hide ((HG3.out.below HB2.out).below HD.out)
  have HZBdx : Hid (w.heap.size + 1 < W2.heap.size) := by show _ < _; omega
  go_region_held3 (fun w' => w'.cell? ⟨w.heap.size + 1, 0, none⟩ = some (.slice ua B1.length uc) ∧ w'.cell? ⟨w.heap.size + 1, 1, none⟩ = some (.slice va A1.length vc) ∧ w'.cell? ⟨w.heap.size + 1, 2, none⟩ = some (.int .i64 K1) ∧ w'.cell? ⟨w.heap.size, 0, none⟩ = some (.slice sa B0.length sc) ∧ w'.cell? ⟨w.heap.size, 1, none⟩ = some (.slice ta A0.length tc) ∧ w'.cell? ⟨w.heap.size, 2, none⟩ = some (.int .i64 K0))
    (first | go_keep | (go_split_ands; exact ⟨by assumption, by assumption, by assumption, by assumption, by assumption, by assumption⟩))
    (first
    | (go_at_call 31; refine (FS.out _ _ _ _ _ _ _ _ _ PO2.out PN.out).mono ?_; rintro e W3 ⟨rfl, m3⟩; have Y3 : Below W2.heap.size W2 W3 := Y2.trans (m3.mono Y2.size); have eza := (Y3.cell (p := ⟨w.heap.size + 1, 0, none⟩) (by exact HZBdx.out)).trans cBa_2; have ezb := (Y3.cell (p := ⟨w.heap.size + 1, 1, none⟩) (by exact HZBdx.out)).trans cBb_2; have ezc := (Y3.cell (p := ⟨w.heap.size + 1, 2, none⟩) (by exact HZBdx.out)).trans cBc_2; have ezp := (Y3.cell (p := ⟨w.heap.size, 0, none⟩) (by exact Nat.lt_of_succ_lt HZBdx.out)).trans cAa_2; have ezq := (Y3.cell (p := ⟨w.heap.size, 1, none⟩) (by exact Nat.lt_of_succ_lt HZBdx.out)).trans cAb_2; have ezr := (Y3.cell (p := ⟨w.heap.size, 2, none⟩) (by exact Nat.lt_of_succ_lt HZBdx.out)).trans cAc_2)
    | (go_at_call 26; refine (toNew_any _ _ _ B1 A1 _ (vd2.out.below m1) (vd3.out.below m1) hl2 hl3 HE0.out HE1.out).mono ?_; rintro e X2 ⟨⟨uq, vq, hbq, haq, midq, rfl, pq, qq, unq, hiq, hjq⟩, m2⟩; obtain ⟨aq, jq, rfl⟩ := pq.slice; obtain ⟨ar, jr, rfl⟩ := qq.slice; have PN : Hid (Aw.Lev X2 103 55 X1.heap.size X2.heap.size _ _ B1 A1) := ⟨hbq, haq, midq, pq, qq, unq, qq.under, hiq, hjq, Nat.le_refl _⟩; have PO2 := Fk.hide (PO.out.below m2); have Y2 : Below W2.heap.size W2 X2 := Y1.trans (m2.mono Y1.size); have eya := (Y2.cell (p := ⟨w.heap.size + 1, 0, none⟩) (by exact HZBdx.out)).trans cBa_2; have eyb := (Y2.cell (p := ⟨w.heap.size + 1, 1, none⟩) (by exact HZBdx.out)).trans cBb_2; have eyc := (Y2.cell (p := ⟨w.heap.size + 1, 2, none⟩) (by exact HZBdx.out)).trans cBc_2; have eyp := (Y2.cell (p := ⟨w.heap.size, 0, none⟩) (by exact Nat.lt_of_succ_lt HZBdx.out)).trans cAa_2; have eyq := (Y2.cell (p := ⟨w.heap.size, 1, none⟩) (by exact Nat.lt_of_succ_lt HZBdx.out)).trans cAb_2; have eyr := (Y2.cell (p := ⟨w.heap.size, 2, none⟩) (by exact Nat.lt_of_succ_lt HZBdx.out)).trans cAc_2; clear pq qq unq hiq hjq)
    | (go_at_call 17; refine (toOld_any _ _ _ B0 A0 _ vd0.out vd1.out hl0 hl1).mono ?_; rintro e X1 ⟨⟨uo, vo, rfl, oo⟩, m1⟩; obtain ⟨ao, jo, rfl⟩ := oo.b.slice; obtain ⟨bo, ko, rfl⟩ := oo.a.slice; have PO := Fk.hide (Aw.Ord.top oo); clear oo; have Y1 : Below W2.heap.size W2 X1 := HD.out.trans (m1.mono HD.out.size); have exa := (Y1.cell (p := ⟨w.heap.size + 1, 0, none⟩) (by exact HZBdx.out)).trans cBa_2; have exb := (Y1.cell (p := ⟨w.heap.size + 1, 1, none⟩) (by exact HZBdx.out)).trans cBb_2; have exc := (Y1.cell (p := ⟨w.heap.size + 1, 2, none⟩) (by exact HZBdx.out)).trans cBc_2; have exp := (Y1.cell (p := ⟨w.heap.size, 0, none⟩) (by exact Nat.lt_of_succ_lt HZBdx.out)).trans cAa_2; have exq := (Y1.cell (p := ⟨w.heap.size, 1, none⟩) (by exact Nat.lt_of_succ_lt HZBdx.out)).trans cAb_2; have exr := (Y1.cell (p := ⟨w.heap.size, 2, none⟩) (by exact Nat.lt_of_succ_lt HZBdx.out)).trans cAc_2))
  all_goals
    have k3 : Below W2.heap.size W2 W3 := Y3
    clear m1 m2 m3 Y1 Y2 Y3 vd0 vd1 vd2 vd3 PO PO2 PN exa exb exc eya eyb eyc eza ezb ezc exp exq exr eyp eyq eyr ezp ezq ezr HD HZBdx
    have HB3 : Hid (Below w.heap.size w W3) := HB2.out.trans (k3.mono HB2.out.size)
    have hz3 : W2.heap.size ≤ W3.heap.size := k3.size
    have cAa_3 : W3.cell? ⟨w.heap.size, 0, none⟩ = some (.slice sa B0.length sc) := (k3.cell (by show w.heap.size < _; omega)).trans cAa_2
    have cAb_3 : W3.cell? ⟨w.heap.size, 1, none⟩ = some (.slice ta A0.length tc) := (k3.cell (by show w.heap.size < _; omega)).trans cAb_2
    have cAc_3 : W3.cell? ⟨w.heap.size, 2, none⟩ = some (.int .i64 K0) := (k3.cell (by show w.heap.size < _; omega)).trans cAc_2
    have cBa_3 : W3.cell? ⟨w.heap.size + 1, 0, none⟩ = some (.slice ua B1.length uc) := (k3.cell (by show w.heap.size + 1 < _; omega)).trans cBa_2
    have cBb_3 : W3.cell? ⟨w.heap.size + 1, 1, none⟩ = some (.slice va A1.length vc) := (k3.cell (by show w.heap.size + 1 < _; omega)).trans cBb_2
    have cBc_3 : W3.cell? ⟨w.heap.size + 1, 2, none⟩ = some (.int .i64 K1) := (k3.cell (by show w.heap.size + 1 < _; omega)).trans cBc_2
    clear k3 cAa_2 cAb_2 cAc_2 cBa_2 cBb_2 cBc_2
    go_wp2_with fail
    refine (toOld_any _ _ _ B0 A0 _ (HG0.out.below HB3.out) (HG1.out.below HB3.out) hl0 hl1).mono ?_
    rintro e W4 ⟨⟨ux, vx, rfl, tx⟩, k4⟩
    obtain ⟨ax, cx, rfl⟩ := tx.b.slice
    obtain ⟨bx, dx, rfl⟩ := tx.a.slice
    have xo_4 : Hid (Aw.Ord W4 55 W3.heap.size W4.heap.size (.slice ax B0.length cx) (.slice bx A0.length dx) B0 A0) := Aw.Ord.top tx
    clear tx
    have HB4 : Hid (Below w.heap.size w W4) := HB3.out.trans (k4.mono HB3.out.size)
    have hz4 : W3.heap.size ≤ W4.heap.size := k4.size
    have cAa_4 : W4.cell? ⟨w.heap.size, 0, none⟩ = some (.slice sa B0.length sc) := (k4.cell (by show w.heap.size < _; omega)).trans cAa_3
    have cAb_4 : W4.cell? ⟨w.heap.size, 1, none⟩ = some (.slice ta A0.length tc) := (k4.cell (by show w.heap.size < _; omega)).trans cAb_3
    have cAc_4 : W4.cell? ⟨w.heap.size, 2, none⟩ = some (.int .i64 K0) := (k4.cell (by show w.heap.size < _; omega)).trans cAc_3
    have cBa_4 : W4.cell? ⟨w.heap.size + 1, 0, none⟩ = some (.slice ua B1.length uc) := (k4.cell (by show w.heap.size + 1 < _; omega)).trans cBa_3
    have cBb_4 : W4.cell? ⟨w.heap.size + 1, 1, none⟩ = some (.slice va A1.length vc) := (k4.cell (by show w.heap.size + 1 < _; omega)).trans cBb_3
    have cBc_4 : W4.cell? ⟨w.heap.size + 1, 2, none⟩ = some (.int .i64 K1) := (k4.cell (by show w.heap.size + 1 < _; omega)).trans cBc_3
    clear k4 cAa_3 cAb_3 cAc_3 cBa_3 cBb_3 cBc_3
    have lcAa_ : (W4.alloc (.cells #[.slice ax B0.length cx, .slice bx A0.length dx, .int .i64 K0] 32)).cell? ⟨w.heap.size, 0, none⟩ = some (.slice sa B0.length sc) := by rw [Fk.cellOld _ _ _ _ (by omega)]; exact cAa_4
    have lcAb_ : (W4.alloc (.cells #[.slice ax B0.length cx, .slice bx A0.length dx, .int .i64 K0] 32)).cell? ⟨w.heap.size, 1, none⟩ = some (.slice ta A0.length tc) := by rw [Fk.cellOld _ _ _ _ (by omega)]; exact cAb_4
    have lcAc_ : (W4.alloc (.cells #[.slice ax B0.length cx, .slice bx A0.length dx, .int .i64 K0] 32)).cell? ⟨w.heap.size, 2, none⟩ = some (.int .i64 K0) := by rw [Fk.cellOld _ _ _ _ (by omega)]; exact cAc_4
    have lcBa_ : (W4.alloc (.cells #[.slice ax B0.length cx, .slice bx A0.length dx, .int .i64 K0] 32)).cell? ⟨w.heap.size + 1, 0, none⟩ = some (.slice ua B1.length uc) := by rw [Fk.cellOld _ _ _ _ (by omega)]; exact cBa_4
    have lcBb_ : (W4.alloc (.cells #[.slice ax B0.length cx, .slice bx A0.length dx, .int .i64 K0] 32)).cell? ⟨w.heap.size + 1, 1, none⟩ = some (.slice va A1.length vc) := by rw [Fk.cellOld _ _ _ _ (by omega)]; exact cBb_4
    have lcBc_ : (W4.alloc (.cells #[.slice ax B0.length cx, .slice bx A0.length dx, .int .i64 K0] 32)).cell? ⟨w.heap.size + 1, 2, none⟩ = some (.int .i64 K1) := by rw [Fk.cellOld _ _ _ _ (by omega)]; exact cBc_4
    go_wp2_with fail
    clear lcAa_ lcAb_ lcAc_ lcBa_ lcBb_ lcBc_
    obtain ⟨W5, hW5⟩ : ∃ W, W = (W4.alloc (.cells #[.slice ax B0.length cx, .slice bx A0.length dx, .int .i64 K0] 32)) := ⟨_, rfl⟩
    have k5 : Below W4.heap.size W4 W5 := by rw [hW5]; exact (Below.refl _ _).alloc (Nat.le_refl _) _
    have hy5 : W4.heap.size < W5.heap.size := by rw [hW5]; simp
    have sxa_5 : W5.cell? ⟨W4.heap.size, 0, none⟩ = some (.slice ax B0.length cx) := by rw [hW5, Fk.cellTop _ _ _ _ _ rfl]; rfl
    have sxb_5 : W5.cell? ⟨W4.heap.size, 1, none⟩ = some (.slice bx A0.length dx) := by rw [hW5, Fk.cellTop _ _ _ _ _ rfl]; rfl
    have sxc_5 : W5.cell? ⟨W4.heap.size, 2, none⟩ = some (.int .i64 K0) := by rw [hW5, Fk.cellTop _ _ _ _ _ rfl]; rfl
    have HW5 := Fk.hide hW5
    clear hW5
    have HB5 : Hid (Below w.heap.size w W5) := HB4.out.trans (k5.mono HB4.out.size)
    have hz5 : W4.heap.size ≤ W5.heap.size := k5.size
    have cAa_5 : W5.cell? ⟨w.heap.size, 0, none⟩ = some (.slice sa B0.length sc) := (k5.cell (by show w.heap.size < _; omega)).trans cAa_4
    have cAb_5 : W5.cell? ⟨w.heap.size, 1, none⟩ = some (.slice ta A0.length tc) := (k5.cell (by show w.heap.size < _; omega)).trans cAb_4
    have cAc_5 : W5.cell? ⟨w.heap.size, 2, none⟩ = some (.int .i64 K0) := (k5.cell (by show w.heap.size < _; omega)).trans cAc_4
    have cBa_5 : W5.cell? ⟨w.heap.size + 1, 0, none⟩ = some (.slice ua B1.length uc) := (k5.cell (by show w.heap.size + 1 < _; omega)).trans cBa_4
    have cBb_5 : W5.cell? ⟨w.heap.size + 1, 1, none⟩ = some (.slice va A1.length vc) := (k5.cell (by show w.heap.size + 1 < _; omega)).trans cBb_4
    have cBc_5 : W5.cell? ⟨w.heap.size + 1, 2, none⟩ = some (.int .i64 K1) := (k5.cell (by show w.heap.size + 1 < _; omega)).trans cBc_4
    have xo_5 := Fk.hide (xo_4.out.below k5)
    clear k5 cAa_4 cAb_4 cAc_4 cBa_4 cBb_4 cBc_4 xo_4
    rw [← HW5.out]
    go_wp2_with fail
    refine (toNew_any _ _ _ B1 A1 _ (HG2.out.below HB5.out) (HG3.out.below HB5.out) hl2 hl3 HE0.out HE1.out).mono ?_
    rintro e W6 ⟨⟨uy, vy, hby, hay, midy, rfl, py, qy, uny, hiy, hjy⟩, k6⟩
    obtain ⟨ay, cy, rfl⟩ := py.slice
    obtain ⟨by', dy, rfl⟩ := qy.slice
    have xn_6 : Hid (Aw.Lev W6 103 55 W5.heap.size W6.heap.size (.slice ay B1.length cy) (.slice by' A1.length dy) B1 A1) := ⟨hby, hay, midy, py, qy, uny, qy.under, hiy, hjy, Nat.le_refl _⟩
    clear py qy uny hiy hjy
    have HB6 : Hid (Below w.heap.size w W6) := HB5.out.trans (k6.mono HB5.out.size)
    have hz6 : W5.heap.size ≤ W6.heap.size := k6.size
    have cAa_6 : W6.cell? ⟨w.heap.size, 0, none⟩ = some (.slice sa B0.length sc) := (k6.cell (by show w.heap.size < _; omega)).trans cAa_5
    have cAb_6 : W6.cell? ⟨w.heap.size, 1, none⟩ = some (.slice ta A0.length tc) := (k6.cell (by show w.heap.size < _; omega)).trans cAb_5
    have cAc_6 : W6.cell? ⟨w.heap.size, 2, none⟩ = some (.int .i64 K0) := (k6.cell (by show w.heap.size < _; omega)).trans cAc_5
    have cBa_6 : W6.cell? ⟨w.heap.size + 1, 0, none⟩ = some (.slice ua B1.length uc) := (k6.cell (by show w.heap.size + 1 < _; omega)).trans cBa_5
    have cBb_6 : W6.cell? ⟨w.heap.size + 1, 1, none⟩ = some (.slice va A1.length vc) := (k6.cell (by show w.heap.size + 1 < _; omega)).trans cBb_5
    have cBc_6 : W6.cell? ⟨w.heap.size + 1, 2, none⟩ = some (.int .i64 K1) := (k6.cell (by show w.heap.size + 1 < _; omega)).trans cBc_5
    have sxa_6 : W6.cell? ⟨W4.heap.size, 0, none⟩ = some (.slice ax B0.length cx) := (k6.cell (by show W4.heap.size < _; omega)).trans sxa_5
    have sxb_6 : W6.cell? ⟨W4.heap.size, 1, none⟩ = some (.slice bx A0.length dx) := (k6.cell (by show W4.heap.size < _; omega)).trans sxb_5
    have sxc_6 : W6.cell? ⟨W4.heap.size, 2, none⟩ = some (.int .i64 K0) := (k6.cell (by show W4.heap.size < _; omega)).trans sxc_5
    have xo_6 := Fk.hide (xo_5.out.below k6)
    clear k6 cAa_5 cAb_5 cAc_5 cBa_5 cBb_5 cBc_5 sxa_5 sxb_5 sxc_5 xo_5
    have lcAa_ : (W6.alloc (.cells #[.slice ay B1.length cy, .slice by' A1.length dy, .int .i64 K1] 28)).cell? ⟨w.heap.size, 0, none⟩ = some (.slice sa B0.length sc) := by rw [Fk.cellOld _ _ _ _ (by omega)]; exact cAa_6
    have lcAb_ : (W6.alloc (.cells #[.slice ay B1.length cy, .slice by' A1.length dy, .int .i64 K1] 28)).cell? ⟨w.heap.size, 1, none⟩ = some (.slice ta A0.length tc) := by rw [Fk.cellOld _ _ _ _ (by omega)]; exact cAb_6
    have lcAc_ : (W6.alloc (.cells #[.slice ay B1.length cy, .slice by' A1.length dy, .int .i64 K1] 28)).cell? ⟨w.heap.size, 2, none⟩ = some (.int .i64 K0) := by rw [Fk.cellOld _ _ _ _ (by omega)]; exact cAc_6
    have lcBa_ : (W6.alloc (.cells #[.slice ay B1.length cy, .slice by' A1.length dy, .int .i64 K1] 28)).cell? ⟨w.heap.size + 1, 0, none⟩ = some (.slice ua B1.length uc) := by rw [Fk.cellOld _ _ _ _ (by omega)]; exact cBa_6
    have lcBb_ : (W6.alloc (.cells #[.slice ay B1.length cy, .slice by' A1.length dy, .int .i64 K1] 28)).cell? ⟨w.heap.size + 1, 1, none⟩ = some (.slice va A1.length vc) := by rw [Fk.cellOld _ _ _ _ (by omega)]; exact cBb_6
    have lcBc_ : (W6.alloc (.cells #[.slice ay B1.length cy, .slice by' A1.length dy, .int .i64 K1] 28)).cell? ⟨w.heap.size + 1, 2, none⟩ = some (.int .i64 K1) := by rw [Fk.cellOld _ _ _ _ (by omega)]; exact cBc_6
    have lsxa_ : (W6.alloc (.cells #[.slice ay B1.length cy, .slice by' A1.length dy, .int .i64 K1] 28)).cell? ⟨W4.heap.size, 0, none⟩ = some (.slice ax B0.length cx) := by rw [Fk.cellOld _ _ _ _ (by omega)]; exact sxa_6
    have lsxb_ : (W6.alloc (.cells #[.slice ay B1.length cy, .slice by' A1.length dy, .int .i64 K1] 28)).cell? ⟨W4.heap.size, 1, none⟩ = some (.slice bx A0.length dx) := by rw [Fk.cellOld _ _ _ _ (by omega)]; exact sxb_6
    have lsxc_ : (W6.alloc (.cells #[.slice ay B1.length cy, .slice by' A1.length dy, .int .i64 K1] 28)).cell? ⟨W4.heap.size, 2, none⟩ = some (.int .i64 K0) := by rw [Fk.cellOld _ _ _ _ (by omega)]; exact sxc_6
    go_wp2_with fail
    clear lcAa_ lcAb_ lcAc_ lcBa_ lcBb_ lcBc_ lsxa_ lsxb_ lsxc_
    obtain ⟨W7, hW7⟩ : ∃ W, W = (W6.alloc (.cells #[.slice ay B1.length cy, .slice by' A1.length dy, .int .i64 K1] 28)) := ⟨_, rfl⟩
    have k7 : Below W6.heap.size W6 W7 := by rw [hW7]; exact (Below.refl _ _).alloc (Nat.le_refl _) _
    have hy7 : W6.heap.size < W7.heap.size := by rw [hW7]; simp
    have sya_7 : W7.cell? ⟨W6.heap.size, 0, none⟩ = some (.slice ay B1.length cy) := by rw [hW7, Fk.cellTop _ _ _ _ _ rfl]; rfl
    have syb_7 : W7.cell? ⟨W6.heap.size, 1, none⟩ = some (.slice by' A1.length dy) := by rw [hW7, Fk.cellTop _ _ _ _ _ rfl]; rfl
    have syc_7 : W7.cell? ⟨W6.heap.size, 2, none⟩ = some (.int .i64 K1) := by rw [hW7, Fk.cellTop _ _ _ _ _ rfl]; rfl
    have HW7 := Fk.hide hW7
    clear hW7
    have HB7 : Hid (Below w.heap.size w W7) := HB6.out.trans (k7.mono HB6.out.size)
    have hz7 : W6.heap.size ≤ W7.heap.size := k7.size
    have cAa_7 : W7.cell? ⟨w.heap.size, 0, none⟩ = some (.slice sa B0.length sc) := (k7.cell (by show w.heap.size < _; omega)).trans cAa_6
    have cAb_7 : W7.cell? ⟨w.heap.size, 1, none⟩ = some (.slice ta A0.length tc) := (k7.cell (by show w.heap.size < _; omega)).trans cAb_6
    have cAc_7 : W7.cell? ⟨w.heap.size, 2, none⟩ = some (.int .i64 K0) := (k7.cell (by show w.heap.size < _; omega)).trans cAc_6
    have cBa_7 : W7.cell? ⟨w.heap.size + 1, 0, none⟩ = some (.slice ua B1.length uc) := (k7.cell (by show w.heap.size + 1 < _; omega)).trans cBa_6
    have cBb_7 : W7.cell? ⟨w.heap.size + 1, 1, none⟩ = some (.slice va A1.length vc) := (k7.cell (by show w.heap.size + 1 < _; omega)).trans cBb_6
    have cBc_7 : W7.cell? ⟨w.heap.size + 1, 2, none⟩ = some (.int .i64 K1) := (k7.cell (by show w.heap.size + 1 < _; omega)).trans cBc_6
    have sxa_7 : W7.cell? ⟨W4.heap.size, 0, none⟩ = some (.slice ax B0.length cx) := (k7.cell (by show W4.heap.size < _; omega)).trans sxa_6
    have sxb_7 : W7.cell? ⟨W4.heap.size, 1, none⟩ = some (.slice bx A0.length dx) := (k7.cell (by show W4.heap.size < _; omega)).trans sxb_6
    have sxc_7 : W7.cell? ⟨W4.heap.size, 2, none⟩ = some (.int .i64 K0) := (k7.cell (by show W4.heap.size < _; omega)).trans sxc_6
    have xo_7 := Fk.hide (xo_6.out.below k7)
    have xn_7 := Fk.hide (xn_6.out.below k7)
    clear k7 cAa_6 cAb_6 cAc_6 cBa_6 cBb_6 cBc_6 sxa_6 sxb_6 sxc_6 xo_6 xn_6
    rw [← HW7.out]
    go_wp2_with fail
    refine (FI.out _ _ _ _ _ _ _ _ _ xo_7.out xn_7.out).mono ?_
    rintro e W8 ⟨rfl, k8⟩
    have HB8 : Hid (Below w.heap.size w W8) := HB7.out.trans (k8.mono HB7.out.size)
    have hz8 : W7.heap.size ≤ W8.heap.size := k8.size
    have cAa_8 : W8.cell? ⟨w.heap.size, 0, none⟩ = some (.slice sa B0.length sc) := (k8.cell (by show w.heap.size < _; omega)).trans cAa_7
    have cAb_8 : W8.cell? ⟨w.heap.size, 1, none⟩ = some (.slice ta A0.length tc) := (k8.cell (by show w.heap.size < _; omega)).trans cAb_7
    have cAc_8 : W8.cell? ⟨w.heap.size, 2, none⟩ = some (.int .i64 K0) := (k8.cell (by show w.heap.size < _; omega)).trans cAc_7
    have cBa_8 : W8.cell? ⟨w.heap.size + 1, 0, none⟩ = some (.slice ua B1.length uc) := (k8.cell (by show w.heap.size + 1 < _; omega)).trans cBa_7
    have cBb_8 : W8.cell? ⟨w.heap.size + 1, 1, none⟩ = some (.slice va A1.length vc) := (k8.cell (by show w.heap.size + 1 < _; omega)).trans cBb_7
    have cBc_8 : W8.cell? ⟨w.heap.size + 1, 2, none⟩ = some (.int .i64 K1) := (k8.cell (by show w.heap.size + 1 < _; omega)).trans cBc_7
    have sxa_8 : W8.cell? ⟨W4.heap.size, 0, none⟩ = some (.slice ax B0.length cx) := (k8.cell (by show W4.heap.size < _; omega)).trans sxa_7
    have sxb_8 : W8.cell? ⟨W4.heap.size, 1, none⟩ = some (.slice bx A0.length dx) := (k8.cell (by show W4.heap.size < _; omega)).trans sxb_7
    have sxc_8 : W8.cell? ⟨W4.heap.size, 2, none⟩ = some (.int .i64 K0) := (k8.cell (by show W4.heap.size < _; omega)).trans sxc_7
    have sya_8 : W8.cell? ⟨W6.heap.size, 0, none⟩ = some (.slice ay B1.length cy) := (k8.cell (by show W6.heap.size < _; omega)).trans sya_7
    have syb_8 : W8.cell? ⟨W6.heap.size, 1, none⟩ = some (.slice by' A1.length dy) := (k8.cell (by show W6.heap.size < _; omega)).trans syb_7
    have syc_8 : W8.cell? ⟨W6.heap.size, 2, none⟩ = some (.int .i64 K1) := (k8.cell (by show W6.heap.size < _; omega)).trans syc_7
    have xo_8 := Fk.hide (xo_7.out.below k8)
    have xn_8 := Fk.hide (xn_7.out.below k8)
    clear k8 cAa_7 cAb_7 cAc_7 cBa_7 cBb_7 cBc_7 sxa_7 sxb_7 sxc_7 sya_7 syb_7 syc_7 xo_7 xn_7
    have hb1 : (al == al) = true := by simp
    have hb2 : (al != al) = false := by simp
    go_wp2_with fail
    have vd0 := Fk.hide ((HG0.out.below HB8.out).below (Below.drew (Below.refl W8.heap.size W8)))
    have vd1 := Fk.hide ((HG1.out.below HB8.out).below (Below.drew (Below.refl W8.heap.size W8)))
    have ox := Fk.hide (xo_8.out.below (Below.drew (Below.refl W8.heap.size W8)))
    have HZX : Hid (W4.heap.size < W8.heap.size) := by show _ < _; omega
    have HZL : Hid (w.heap.size < W8.heap.size) := by show _ < _; omega
    go_region_held3 (fun w' => w'.cell? ⟨W4.heap.size, 0, none⟩ = some (.slice ax B0.length cx) ∧ w'.cell? ⟨W4.heap.size, 1, none⟩ = some (.slice bx A0.length dx) ∧ w'.cell? ⟨W4.heap.size, 2, none⟩ = some (.int .i64 K0) ∧ w'.cell? ⟨w.heap.size, 0, none⟩ = some (.slice sa B0.length sc) ∧ w'.cell? ⟨w.heap.size, 1, none⟩ = some (.slice ta A0.length tc) ∧ w'.cell? ⟨w.heap.size, 2, none⟩ = some (.int .i64 K0))
      (first | go_keep | (go_split_ands; exact ⟨by assumption, by assumption, by assumption, by assumption, by assumption, by assumption⟩))
      (first
      | (have hchk := PQ.out; clear hchk; go_at_call 20; refine (eqOld_same _ _ _ _ _ B0 A0 _ (ox.out.below m1).1.b.view (ox.out.below m1).1.a.view PQ.out QQ.out hl0 hl1).mono ?_; rintro e W9 ⟨rfl, m2⟩; have Y2 : Below W8.heap.size W8 W9 := Y1.trans (m2.mono Y1.size); have eya := (Y2.cell (p := ⟨W4.heap.size, 0, none⟩) (by exact HZX.out)).trans sxa_8; have eyb := (Y2.cell (p := ⟨W4.heap.size, 1, none⟩) (by exact HZX.out)).trans sxb_8; have eyc := (Y2.cell (p := ⟨W4.heap.size, 2, none⟩) (by exact HZX.out)).trans sxc_8; have eyp := (Y2.cell (p := ⟨w.heap.size, 0, none⟩) (by exact HZL.out)).trans cAa_8; have eyq := (Y2.cell (p := ⟨w.heap.size, 1, none⟩) (by exact HZL.out)).trans cAb_8; have eyr := (Y2.cell (p := ⟨w.heap.size, 2, none⟩) (by exact HZL.out)).trans cAc_8)
      | (go_at_call 17; refine (toOld_any _ _ _ B0 A0 _ vd0.out vd1.out hl0 hl1).mono ?_; rintro e X1 ⟨⟨uq, vq, rfl, oxx⟩, m1⟩; obtain ⟨aq, jq, rfl⟩ := oxx.b.slice; obtain ⟨ar, jr, rfl⟩ := oxx.a.slice; have PQ := Fk.hide oxx.b.view; have QQ := Fk.hide oxx.a.view; clear oxx; have Y1 : Below W8.heap.size W8 X1 := (Below.drew (Below.refl _ _)).trans m1; have exa := (Y1.cell (p := ⟨W4.heap.size, 0, none⟩) (by exact HZX.out)).trans sxa_8; have exb := (Y1.cell (p := ⟨W4.heap.size, 1, none⟩) (by exact HZX.out)).trans sxb_8; have exc := (Y1.cell (p := ⟨W4.heap.size, 2, none⟩) (by exact HZX.out)).trans sxc_8; have exp := (Y1.cell (p := ⟨w.heap.size, 0, none⟩) (by exact HZL.out)).trans cAa_8; have exq := (Y1.cell (p := ⟨w.heap.size, 1, none⟩) (by exact HZL.out)).trans cAb_8; have exr := (Y1.cell (p := ⟨w.heap.size, 2, none⟩) (by exact HZL.out)).trans cAc_8))
    all_goals
      have k9 : Below W8.heap.size W8 W9 := Y2
      clear m1 m2 Y1 Y2 vd0 vd1 ox PQ QQ exa exb exc eya eyb eyc exp exq exr eyp eyq eyr HZX HZL
      have HB9 : Hid (Below w.heap.size w W9) := HB8.out.trans (k9.mono HB8.out.size)
      have hz9 : W8.heap.size ≤ W9.heap.size := k9.size
      have cAa_9 : W9.cell? ⟨w.heap.size, 0, none⟩ = some (.slice sa B0.length sc) := (k9.cell (by show w.heap.size < _; omega)).trans cAa_8
      have cAb_9 : W9.cell? ⟨w.heap.size, 1, none⟩ = some (.slice ta A0.length tc) := (k9.cell (by show w.heap.size < _; omega)).trans cAb_8
      have cAc_9 : W9.cell? ⟨w.heap.size, 2, none⟩ = some (.int .i64 K0) := (k9.cell (by show w.heap.size < _; omega)).trans cAc_8
      have cBa_9 : W9.cell? ⟨w.heap.size + 1, 0, none⟩ = some (.slice ua B1.length uc) := (k9.cell (by show w.heap.size + 1 < _; omega)).trans cBa_8
      have cBb_9 : W9.cell? ⟨w.heap.size + 1, 1, none⟩ = some (.slice va A1.length vc) := (k9.cell (by show w.heap.size + 1 < _; omega)).trans cBb_8
      have cBc_9 : W9.cell? ⟨w.heap.size + 1, 2, none⟩ = some (.int .i64 K1) := (k9.cell (by show w.heap.size + 1 < _; omega)).trans cBc_8
      have sxa_9 : W9.cell? ⟨W4.heap.size, 0, none⟩ = some (.slice ax B0.length cx) := (k9.cell (by show W4.heap.size < _; omega)).trans sxa_8
      have sxb_9 : W9.cell? ⟨W4.heap.size, 1, none⟩ = some (.slice bx A0.length dx) := (k9.cell (by show W4.heap.size < _; omega)).trans sxb_8
      have sxc_9 : W9.cell? ⟨W4.heap.size, 2, none⟩ = some (.int .i64 K0) := (k9.cell (by show W4.heap.size < _; omega)).trans sxc_8
      have sya_9 : W9.cell? ⟨W6.heap.size, 0, none⟩ = some (.slice ay B1.length cy) := (k9.cell (by show W6.heap.size < _; omega)).trans sya_8
      have syb_9 : W9.cell? ⟨W6.heap.size, 1, none⟩ = some (.slice by' A1.length dy) := (k9.cell (by show W6.heap.size < _; omega)).trans syb_8
      have syc_9 : W9.cell? ⟨W6.heap.size, 2, none⟩ = some (.int .i64 K1) := (k9.cell (by show W6.heap.size < _; omega)).trans syc_8
      have xo_9 := Fk.hide (xo_8.out.below k9)
      have xn_9 := Fk.hide (xn_8.out.below k9)
      clear k9 cAa_8 cAb_8 cAc_8 cBa_8 cBb_8 cBc_8 sxa_8 sxb_8 sxc_8 sya_8 syb_8 syc_8 xo_8 xn_8
      go_wp2_with fail
      have vd0 := Fk.hide ((HG2.out.below HB9.out).below (Below.drew (Below.refl W9.heap.size W9)))
      have vd1 := Fk.hide ((HG3.out.below HB9.out).below (Below.drew (Below.refl W9.heap.size W9)))
      have ox := Fk.hide (xn_9.out.below (Below.drew (Below.refl W9.heap.size W9)))
      have HZX : Hid (W6.heap.size < W9.heap.size) := by show _ < _; omega
      have HZL : Hid (w.heap.size + 1 < W9.heap.size) := by show _ < _; omega
      go_region_held3 (fun w' => w'.cell? ⟨W6.heap.size, 0, none⟩ = some (.slice ay B1.length cy) ∧ w'.cell? ⟨W6.heap.size, 1, none⟩ = some (.slice by' A1.length dy) ∧ w'.cell? ⟨W6.heap.size, 2, none⟩ = some (.int .i64 K1) ∧ w'.cell? ⟨w.heap.size + 1, 0, none⟩ = some (.slice ua B1.length uc) ∧ w'.cell? ⟨w.heap.size + 1, 1, none⟩ = some (.slice va A1.length vc) ∧ w'.cell? ⟨w.heap.size + 1, 2, none⟩ = some (.int .i64 K1))
        (first | go_keep | (go_split_ands; exact ⟨by assumption, by assumption, by assumption, by assumption, by assumption, by assumption⟩))
        (first
        | (have hchk := PQ.out; clear hchk; go_at_call 19; refine (eqNew_same _ _ _ _ _ B1 A1 _ (ox.out.below m1).views.1 (ox.out.below m1).views.2 PQ.out QQ.out hl2 hl3 HE0.out HE1.out).mono ?_; rintro e W10 ⟨rfl, m2⟩; have Y2 : Below W9.heap.size W9 W10 := Y1.trans (m2.mono Y1.size); have eya := (Y2.cell (p := ⟨W6.heap.size, 0, none⟩) (by exact HZX.out)).trans sya_9; have eyb := (Y2.cell (p := ⟨W6.heap.size, 1, none⟩) (by exact HZX.out)).trans syb_9; have eyc := (Y2.cell (p := ⟨W6.heap.size, 2, none⟩) (by exact HZX.out)).trans syc_9; have eyp := (Y2.cell (p := ⟨w.heap.size + 1, 0, none⟩) (by exact HZL.out)).trans cBa_9; have eyq := (Y2.cell (p := ⟨w.heap.size + 1, 1, none⟩) (by exact HZL.out)).trans cBb_9; have eyr := (Y2.cell (p := ⟨w.heap.size + 1, 2, none⟩) (by exact HZL.out)).trans cBc_9)
        | (go_at_call 26; refine (toNew_any _ _ _ B1 A1 _ vd0.out vd1.out hl2 hl3 HE0.out HE1.out).mono ?_; rintro e X1 ⟨⟨uq, vq, hbq, haq, midq, rfl, pq, qq, _, _, _⟩, m1⟩; obtain ⟨aq, jq, rfl⟩ := pq.slice; obtain ⟨ar, jr, rfl⟩ := qq.slice; have PQ := Fk.hide pq.view; have QQ := Fk.hide qq.view; clear pq qq; have Y1 : Below W9.heap.size W9 X1 := (Below.drew (Below.refl _ _)).trans m1; have exa := (Y1.cell (p := ⟨W6.heap.size, 0, none⟩) (by exact HZX.out)).trans sya_9; have exb := (Y1.cell (p := ⟨W6.heap.size, 1, none⟩) (by exact HZX.out)).trans syb_9; have exc := (Y1.cell (p := ⟨W6.heap.size, 2, none⟩) (by exact HZX.out)).trans syc_9; have exp := (Y1.cell (p := ⟨w.heap.size + 1, 0, none⟩) (by exact HZL.out)).trans cBa_9; have exq := (Y1.cell (p := ⟨w.heap.size + 1, 1, none⟩) (by exact HZL.out)).trans cBb_9; have exr := (Y1.cell (p := ⟨w.heap.size + 1, 2, none⟩) (by exact HZL.out)).trans cBc_9))
      all_goals
        have k10 : Below W9.heap.size W9 W10 := Y2
        clear m1 m2 Y1 Y2 vd0 vd1 ox PQ QQ exa exb exc eya eyb eyc exp exq exr eyp eyq eyr HZX HZL
        have HB10 : Hid (Below w.heap.size w W10) := HB9.out.trans (k10.mono HB9.out.size)
        have hz10 : W9.heap.size ≤ W10.heap.size := k10.size
        have cAa_10 : W10.cell? ⟨w.heap.size, 0, none⟩ = some (.slice sa B0.length sc) := (k10.cell (by show w.heap.size < _; omega)).trans cAa_9
        have cAb_10 : W10.cell? ⟨w.heap.size, 1, none⟩ = some (.slice ta A0.length tc) := (k10.cell (by show w.heap.size < _; omega)).trans cAb_9
        have cAc_10 : W10.cell? ⟨w.heap.size, 2, none⟩ = some (.int .i64 K0) := (k10.cell (by show w.heap.size < _; omega)).trans cAc_9
        have cBa_10 : W10.cell? ⟨w.heap.size + 1, 0, none⟩ = some (.slice ua B1.length uc) := (k10.cell (by show w.heap.size + 1 < _; omega)).trans cBa_9
        have cBb_10 : W10.cell? ⟨w.heap.size + 1, 1, none⟩ = some (.slice va A1.length vc) := (k10.cell (by show w.heap.size + 1 < _; omega)).trans cBb_9
        have cBc_10 : W10.cell? ⟨w.heap.size + 1, 2, none⟩ = some (.int .i64 K1) := (k10.cell (by show w.heap.size + 1 < _; omega)).trans cBc_9
        have sxa_10 : W10.cell? ⟨W4.heap.size, 0, none⟩ = some (.slice ax B0.length cx) := (k10.cell (by show W4.heap.size < _; omega)).trans sxa_9
        have sxb_10 : W10.cell? ⟨W4.heap.size, 1, none⟩ = some (.slice bx A0.length dx) := (k10.cell (by show W4.heap.size < _; omega)).trans sxb_9
        have sxc_10 : W10.cell? ⟨W4.heap.size, 2, none⟩ = some (.int .i64 K0) := (k10.cell (by show W4.heap.size < _; omega)).trans sxc_9
        have sya_10 : W10.cell? ⟨W6.heap.size, 0, none⟩ = some (.slice ay B1.length cy) := (k10.cell (by show W6.heap.size < _; omega)).trans sya_9
        have syb_10 : W10.cell? ⟨W6.heap.size, 1, none⟩ = some (.slice by' A1.length dy) := (k10.cell (by show W6.heap.size < _; omega)).trans syb_9
        have syc_10 : W10.cell? ⟨W6.heap.size, 2, none⟩ = some (.int .i64 K1) := (k10.cell (by show W6.heap.size < _; omega)).trans syc_9
        have xo_10 := Fk.hide (xo_9.out.below k10)
        have xn_10 := Fk.hide (xn_9.out.below k10)
        clear k10 cAa_9 cAb_9 cAc_9 cBa_9 cBb_9 cBc_9 sxa_9 sxb_9 sxc_9 sya_9 syb_9 syc_9 xo_9 xn_9
        go_wp2_with fail
        go_ret
        exact ⟨rfl, HB10.out⟩

set_option maxRecDepth 100000 in
theorem lifted (os : Os) (started : os.Started) (H : Type) (enc : TypeId × Value → H) :
    ReturnsInHanded {} Try.checked os 5 .any (Rows.fnExactAlikeSpec.pre6 enc Try.prog Try.f5 Rows.fnExactAlikeRow.domain false) (Rows.fnExactAlikeSpec.post enc Try.prog Try.f5 false true false false) := by
  refine returnsInHanded_of_change (C := Try.checked) own started (by kernel_rfl) Try.func5
    (ChangeSpec.witness6 (enc := enc) (C := Try.checked) false ⟨#[], #[.agg #[.slice none 0 0, .slice none 0 0, .int .i64 0], .agg #[.slice none 0 0, .slice none 0 0, .int .i64 0]], []⟩ 8 (by kernel_rfl) (by kernel_rfl) (by kernel_rfl) (by kernel_rfl)) ?_
  intro W base args ds gs before hval0 hW hcnd _
  have hval : ∀ (j : Nat) t v, Try.f5.params[j]? = some t → args[j]? = some v → Value.okWide Try.prog W .any base t v := hval0
  have hW' := hW
  obtain ⟨p, q, hA0, hV, rfl, hfz, hnd⟩ := hW
  have hA : DataW.TrodAll enc Try.prog W 0 (fun _ => true) true Try.f5.params.toList args.toList ds p := hA0
  rw [Try.params5] at hA hval
  obtain ⟨v0, vs0, d0, ds0, p0, q0, hargs, rfl, rfl, h0, r0⟩ := trodAll_cons hA
  obtain ⟨v1, vs1, d1, ds1, p1, q1, rfl, rfl, rfl, h1, r1⟩ := trodAll_cons r0
  obtain ⟨rfl, rfl, rfl⟩ := trodAll_nil r1
  obtain rfl : args = #[v0, v1] := by cases args; simp_all
  obtain ⟨rfl, rfl⟩ := trodVars_none hV
  have hlt : ∀ x ∈ p0 ++ (p1 ++ ([])), x.block < W.heap.size := fun x hx => hW'.lt x (by simpa using hx)
  have k0 := h0
  obtain ⟨a0, b0, K0, B0, A0, rfl, w0, x0, n0, s0, g0⟩ := Ob.open_old (hval 0 24 v0 rfl rfl) h0
  have k1 := h1
  obtain ⟨a1, b1, K1, B1, A1, rfl, w1, n1, x1, g1⟩ := Nb.open_new (hval 1 41 v1 rfl rfl) h1
  clear hA0 hval0
  have e1 : Rows.fnExactAlikeSpec.fn H ([d0, d1] ++ []) = { results := [.lit (.bool true)], args := [d0, d1] } := by simp [Rows.fnExactAlikeSpec]
  refine (walk a0 b0 K0 B0 A0 w0 x0 n0 s0 a1 b1 K1 B1 A1 w1 n1 x1 W g0 g1).mono fun e W' ⟨he, bel⟩ => ?_
  subst he
  refine ⟨_, rfl, _, _, _, [], p0 ++ (p1 ++ ([])), [], hW', ?_, ?_, ?_, bel.frame _, fun h => by cases h⟩
  · rw [e1]; exact trodAll_mk1 (shut_bool Try.underlying4 true)
  · rw [e1]; exact (trodAll_cons_mk (Below.trod laidOut (by kernel_rfl) (of_decide_eq_true (by kernel_rfl)) k0 bel (fun x hx => hlt x (by simp [hx]))) (trodAll_cons_mk (Below.trod laidOut (by kernel_rfl) (of_decide_eq_true (by kernel_rfl)) k1 bel (fun x hx => hlt x (by simp [hx]))) trodAll_mk0))
  · rw [e1]; rfl

theorem over : Rows.fnExactAlikeRow.holds Try.pinned (OpenSpec.ofChange Rows.fnExactAlikeSpec) :=
  OpenClaim.holds_of_wide 5 Try.f5 rfl rfl rfl rfl rfl rfl rfl ⟨rfl, rfl, rfl, rfl, rfl⟩ rfl rfl rfl rfl rfl (by kernel_rfl) Try.func5 (by kernel_rfl)
    (of_decide_eq_true (by kernel_rfl)) (by unfold Func.isWrapper; rw [if_neg (of_decide_eq_false (by kernel_rfl))]; exact ⟨rfl, rfl⟩)
    (fun os started H enc _ => lifted os started H enc)

/-- the statement -/
theorem proved : Rows.FnExactAlikeSaid :=
  over
#print axioms proved
end Go.Proofs.Ytjagohadeegghaa.fnExactAlike
