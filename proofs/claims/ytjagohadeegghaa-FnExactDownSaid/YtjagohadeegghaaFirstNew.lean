/- The walks of FirstNew: the first order that has what only a newer book has. -/
import Derived.Test.YtjagohadeegghaaLevelsMath
import Derived.Test.YtjagohadeegghaaNewRightImpl2
import Derived.Test.YtjagohadeegghaaNewOpenSpec2
import Derived.Deep.RegionHeld3
namespace Go.Proofs.Ytjagohadeegghaa
open Go.RowKit
set_option linter.unusedVariables false
set_option linter.unusedSimpArgs false
namespace Nb
/-- as the specification asks it -/
def isPos (o : Or.E) : Bool := decide (0 < o.2.2.2.2.2.1) || o.2.2.2.2.2.2.2
def firstP : List Or.E → Int
  | [] => 0
  | o :: r => if isPos o = true then o.1 else firstP r
theorem firstP_first (L : List Or.E) (h : ∀ o ∈ L, 0 ≤ o.2.2.2.2.2.1) : firstP L = first L := by
  induction L with
  | nil => rfl
  | cons o r ih =>
    have h1 := h o (by simp)
    have e : isPos o = isNew o := by
      unfold isPos isNew
      by_cases c : o.2.2.2.2.2.1 = 0
      · rw [c]; rfl
      · rw [decide_eq_true (show 0 < o.2.2.2.2.2.1 by omega), decide_eq_false c]; rfl
    simp only [firstP, first, e, ih (fun x hx => h x (by simp [hx]))]
theorem firstP_drop (L : List Or.E) (k : Nat) (h : k < L.length) : firstP (L.drop k) = if isPos (Ob.at' L k) = true then (Ob.at' L k).1 else firstP (L.drop (k + 1)) := by
  rw [List.drop_eq_getElem_cons h]
  simp only [firstP, Ob.at', Rk.at_get L k h]
/-- what FirstNew answers -/
def firstNew (B A : List Lv.E) (n : Int) : Int := if right B A n = true then first (flat B ++ flat A) else 0
end Nb
set_option maxRecDepth 100000 in
set_option maxHeartbeats 8000000 in
theorem l09First_any (p : Nat) (x y : Value) (B A : List Or.E) (w : World) (hp : p < w.heap.size) (c0 : w.cell? ⟨p, 0, none⟩ = some x) (c1 : w.cell? ⟨p, 1, none⟩ = some y) (hx : Rk.View Or.S w x B) (hy : Rk.View Or.S w y A) (sx : Rk.Shut x) (sy : Rk.Shut y) (l0 : B.length ≤ 1048576) (l1 : A.length ≤ 1048576) :
    Calls Try.prog 76 #[.pointer (some ⟨p, 0, none⟩)] w fun e w' => e = .returned (.int .i64 (Nb.firstP (B ++ A))) ∧ Below w.heap.size w w' := by
  obtain ⟨i0, hi, hz0, hz1, hz2⟩ := info_parts infoOrdS
  have HX := Fk.hide hx
  have HY := Fk.hide hy
  have HSX := Fk.hide sx
  have HSY := Fk.hide sy
  have HP := Fk.hide hp
  have BE : Below w.heap.size w (w.alloc (.cells #[] 55)).drew := Below.drew ((Below.refl _ _).alloc (Nat.le_refl _) _)
  have HBE := Fk.hide BE
  have HM0 : Hid (Rk.Own Or.S (w.alloc (.cells #[] 55)).drew w.heap.size 55 (.slice (some ⟨w.heap.size, 0, none⟩) 0 0) []) := (Rk.own_empty w 55 _ (Nat.le_refl _)).below (Below.drew (Below.refl _ _))
  have e0 : (w.alloc (.cells #[] 55)).cell? ⟨p, 0, none⟩ = some x := (Fk.cellOld _ _ _ _ hp).trans c0
  have e1 : (w.alloc (.cells #[] 55)).cell? ⟨p, 1, none⟩ = some y := (Fk.cellOld _ _ _ _ hp).trans c1
  obtain ⟨a0, cap0, rfl, _⟩ := hx
  obtain ⟨a1, cap1, rfl, _⟩ := hy
  clear BE sx sy hp
  go_enter Try.func76, Try.ntmps76
  go_wp2_with fail
  go_region_held3 (fun w' => w'.cell? ⟨p, 0, none⟩ = some (.slice a0 B.length cap0) ∧ w'.cell? ⟨p, 1, none⟩ = some (.slice a1 A.length cap1))
    (first | go_keep | (go_split_ands; exact ⟨by assumption, by assumption⟩))
    (first
      | (have hchk := HB4.out; clear hchk; refine Rk.step_append_view _ (by rfl) _ _ 30 (by rfl) w.heap.size 55 i0 _ 8 64 rfl Try.underlying30 hi hz0 hz1 hz2 (by rfl) (by decide) (.slice a4 n4 c4') (.slice a1 A.length cap1) B A (by rfl) (by rfl) HO4.out (HY.out.below HB4.out) HSY.out (by omega) HB4.out.size ?_; intro u5 w5 o5 g5; obtain ⟨a5, n5, c5, rfl⟩ := o5.slice'; have HO5 := Fk.hide o5; have B5 : Below w.heap.size w w5 := HB4.out.grown g5 HB4.out.size (fun j hj => (HO4.out.lt j hj).1); have g0 := (B5.cell (p := ⟨p, 0, none⟩) (by exact HP.out)).trans c0; have g1 := (B5.cell (p := ⟨p, 1, none⟩) (by exact HP.out)).trans c1; have HB5 := Fk.hide B5; clear o5 g5 B5)
      | (refine Rk.step_append_view _ (by rfl) _ _ 30 (by rfl) w.heap.size 55 i0 _ 8 64 rfl Try.underlying30 hi hz0 hz1 hz2 (by rfl) (by decide) (.slice (some ⟨w.heap.size, 0, none⟩) 0 0) (.slice a0 B.length cap0) [] B (by rfl) (by rfl) HM0.out (HX.out.below HBE.out) HSX.out (by simp; omega) HBE.out.size ?_; intro u4 w4 o4 g4; rw [List.nil_append] at o4; obtain ⟨a4, n4, c4', rfl⟩ := o4.slice'; have HO4 := Fk.hide o4; have B4 : Below w.heap.size w w4 := HBE.out.grown g4 HBE.out.size (fun j hj => (HM0.out.lt j hj).1); have f0 := (B4.cell (p := ⟨p, 0, none⟩) (by exact HP.out)).trans c0; have f1 := (B4.cell (p := ⟨p, 1, none⟩) (by exact HP.out)).trans c1; have HB4 := Fk.hide B4; clear o4 g4 B4))
  all_goals
    obtain ⟨F, hF⟩ : ∃ F, F = B ++ A := ⟨_, rfl⟩
    have hFl : F.length ≤ 2097152 := by rw [hF, List.length_append]; omega
    rw [← hF] at HO5
    have HFF := Fk.hide hF
    have hn5 := Rk.view_len HO5.out.view
    subst hn5
    clear hF e0 e1 c0 c1 f0 f1 g0 g1
    go_wp2_with fail
    go_loopw [4] (fun i wr => ∃ k : Nat, k ≤ F.length ∧ i = .int .i64 k ∧ Hid (Nb.firstP F = Nb.firstP (F.drop k)) ∧ Hid (Below w5.heap.size w5 wr)) (fun i _ => F.length - (intOf i).toNat)
    case atStart => exact ⟨0, Nat.zero_le _, rfl, rfl, Below.refl _ _⟩
    case round =>
      obtain ⟨k, hk, rfl, HK, HB⟩ := hrel
      have HW : Hid (Below w.heap.size w wr) := HB5.out.trans (HB.out.mono HB5.out.size)
      by_cases hlt : k < F.length
      · obtain ⟨g, rfl⟩ : ∃ g, a5 = some ⟨g, 0, none⟩ := by
          rcases HO5.out.form with ⟨h1, h2⟩ | ⟨g, c, h1, _⟩
          · rw [h2] at hlt; simp at hlt
          · simp only [Value.slice.injEq] at h1; exact ⟨g, h1.1⟩
        have HOR := HO5.out.below HB.out
        have q0 := Or.o0 HOR hlt
        have q5 := Or.o5 HOR hlt
        have q7 := Or.o7 HOR hlt
        have hst := Nb.firstP_drop F k hlt
        obtain ⟨o, ho⟩ : ∃ o, o = Ob.at' F k := ⟨_, rfl⟩
        rw [← ho] at hst
        rw [show Rk.at_ Or.S F k = o from ho.symm] at q0 q5 q7
        obtain ⟨id, hid⟩ : ∃ x, x = o.1 := ⟨_, rfl⟩
        obtain ⟨pk, hpk⟩ : ∃ x, x = o.2.2.2.2.2.1 := ⟨_, rfl⟩
        obtain ⟨gd, hgd⟩ : ∃ x, x = o.2.2.2.2.2.2.2 := ⟨_, rfl⟩
        unfold Nb.isPos at hst
        rw [← hid, ← hpk, ← hgd] at hst
        rw [← hid] at q0
        rw [← hpk] at q5
        rw [← hgd] at q7
        have HST := Fk.hide hst
        clear hst ho hid hpk hgd HOR
        by_cases hp : 0 < pk
        · have hpd : decide (0 < pk) = true := decide_eq_true hp
          have HE : Hid (Nb.firstP F = id) := by show _ = _; rw [HK.out, HST.out, hpd]; rfl
          clear hpd
          go_wp2_with fail
          go_ret
          exact ⟨by rw [← HFF.out, HE.out]; rfl, HW.out⟩
        · have hpd : decide (0 < pk) = false := decide_eq_false hp
          cases gd with
          | true =>
            have HE : Hid (Nb.firstP F = id) := by show _ = _; rw [HK.out, HST.out, hpd]; rfl
            clear hpd
            go_wp2_with fail
            go_ret
            exact ⟨by rw [← HFF.out, HE.out]; rfl, HW.out⟩
          | false =>
            have HE : Hid (Nb.firstP F = Nb.firstP (F.drop (k + 1))) := by show _ = _; rw [HK.out, HST.out, hpd]; rfl
            clear hpd
            go_wp2_with fail
            go_roundw
            case rel => exact ⟨k + 1, by omega, by go_num, HE, HB⟩
            case measure => simp [intOf]; omega
      · have e : k = F.length := by omega
        subst e
        rw [List.drop_length] at HK
        go_wp2_with fail
        go_ret
        exact ⟨by rw [← HFF.out, HK.out]; rfl, HW.out⟩
set_option maxRecDepth 100000 in
set_option maxHeartbeats 8000000 in
theorem firstNew_spec (u v : Value) (n : Int) (B A : List Lv.E) (w : World) (hu : Lv.View w u B) (hv : Lv.View w v A) (l0 : B.length ≤ 1048576) (l1 : A.length ≤ 1048576) (m0 : (Nb.flat B).length ≤ 1048576) (m1 : (Nb.flat A).length ≤ 1048576) :
    Calls Try.prog 33 #[.agg #[u, v, .int .i64 n]] w fun e w' => e = .returned (.int .i64 (Nb.firstNew B A n)) ∧ Below w.heap.size w w' := by
  have b0 : Below w.heap.size w (w.alloc (.cells #[u, v, .int .i64 n] 28)) := (Below.refl _ _).alloc (Nat.le_refl _) _
  have HU := Fk.hide (hu.below b0)
  have HV := Fk.hide (hv.below b0)
  obtain ⟨a0, cap0, rfl⟩ := hu.slice
  obtain ⟨a1, cap1, rfl⟩ := hv.slice
  clear hu hv
  go_enter Try.func33, Try.ntmps33
  go_wp2_with fail
  refine (l07Open_any _ _ _ B A _ HU.out HV.out l0 l1 m0 m1).mono ?_
  rintro e w1 ⟨⟨x, y, b, FB, FA, rfl, ho⟩, k1⟩
  have HB1 : Hid (Below w.heap.size w w1) := b0.trans (k1.mono b0.size)
  obtain ⟨r, hr⟩ : ∃ r, r = Nb.right B A n := ⟨_, rfl⟩
  have HO := Fk.hide ho
  rw [← hr]
  have HR := Fk.hide hr
  clear hr k1 b0 ho
  cases r with
  | false =>
    have HE : Hid (Nb.firstNew B A n = 0) := by show _ = _; unfold Nb.firstNew; rw [← HR.out]; rfl
    go_wp2_with fail
    go_ret
    exact ⟨by rw [HE.out]; rfl, HB1.out⟩
  | true =>
    obtain ⟨t, h1, h2, ⟨c0, c1, c2, c3⟩, h3, h4, h5⟩ := HO.out
    obtain ⟨e1, e2⟩ := h3 HR.out.symm
    have HE : Hid (Nb.firstNew B A n = Nb.firstP (FB ++ FA)) := by
      show _ = _
      unfold Nb.firstNew
      rw [if_pos HR.out.symm, e1, e2]
      exact (Nb.firstP_first _ (Nb.right_peaks HR.out.symm)).symm
    have HT := Fk.hide t
    clear e1 e2 h3 t HO
    go_wp2_with fail
    refine (l09First_any b x y FB FA _ h2 c0 c1 HT.out.b.view HT.out.a.view HT.out.b.shut HT.out.a.shut h4 h5).mono ?_
    rintro e w2 ⟨rfl, k2⟩
    have HB2 : Hid (Below w.heap.size w w2) := HB1.out.trans (k2.mono HB1.out.size)
    clear k2 c0 c1 c2 c3
    go_wp2_with fail
    go_ret
    exact ⟨by rw [HE.out]; rfl, HB2.out⟩
end Go.Proofs.Ytjagohadeegghaa
