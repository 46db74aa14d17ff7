/- The walk of the specification's NewBytes. -/
import Derived.Test.YtjagohadeegghaaSnapRecSpec
import Derived.Test.YtjagohadeegghaaSnapMathNew
import Derived.Test.YtjagohadeegghaaNewOpenSpec2
namespace Go.Proofs.Ytjagohadeegghaa
open Go.RowKit
set_option linter.unusedVariables false
set_option linter.unusedSimpArgs false
set_option maxHeartbeats 4000000 in
theorem newBytes_spec (u v : Value) (n s : Int) (B A : List Lv.E) (w : World) (hu : Lv.View w u B) (hv : Lv.View w v A) (l0 : B.length ≤ 1048576) (l1 : A.length ≤ 1048576) (m0 : (Nb.flat B).length ≤ 1048576) (m1 : (Nb.flat A).length ≤ 1048576) :
    Calls Try.prog 54 #[.agg #[u, v, .int .i64 n], .int .i64 s] w fun e w' => e = .returned (.string (Sp.newBytes B A n s)) ∧ Below w.heap.size w w' := by
  obtain ⟨W, hW⟩ : ∃ W, W = w.alloc (.cells #[u, v, .int .i64 n] 28) := ⟨_, rfl⟩
  have b0 : Below w.heap.size w W := by rw [hW]; exact (Below.refl _ _).alloc (Nat.le_refl _) _
  have HU := Fk.hide (hu.below b0)
  have HV := Fk.hide (hv.below b0)
  obtain ⟨a0, cap0, rfl⟩ := hu.slice
  obtain ⟨a1, cap1, rfl⟩ := hv.slice
  have HW := Fk.hide hW
  clear hW hu hv
  go_enter Try.func54, Try.ntmps54
  go_wp2_with fail
  rw [← HW.out]
  refine (l07Open_any _ _ _ B A _ HU.out HV.out l0 l1 m0 m1).mono ?_
  rintro e w1 ⟨⟨x, y, b, FB, FA, rfl, hO⟩, k1⟩
  obtain ⟨hT, h1, h2, ⟨q0, q1, q2, q3⟩, hE, hL0, hL1⟩ := hO
  have B1 := Fk.hide (b0.trans (k1.mono b0.size))
  have HT := Fk.hide hT
  have HE := Fk.hide hE
  clear k1 HU HV b0 h1 q3 hT hE
  obtain ⟨r, hr⟩ : ∃ r, r = Nb.right B A n := ⟨_, rfl⟩
  rw [← hr]
  have HR := Fk.hide hr
  clear hr
  cases r with
  | false =>
    have HA : Hid (Sp.newBytes B A n s = ByteArray.empty) := by show _ = _; unfold Sp.newBytes; rw [← HR.out]; rfl
    go_wp2_with fail
    go_ret
    exact ⟨by rw [HA.out]; rfl, B1.out⟩
  | true =>
    have HFT := Fk.hide (Sp.fit_new HR.out.symm)
    obtain ⟨hFB, hFA⟩ := HE.out HR.out.symm
    subst hFB hFA
    go_wp2_with fail
    refine (l02Is_inn s 0 1000000 _).mono ?_
    rintro e w' ⟨rfl, rfl⟩
    obtain ⟨q, hq⟩ : ∃ q, q = Cm.inn s 0 1000000 := ⟨_, rfl⟩
    rw [← hq]
    have HQ : Hid (Sp.seqOk s = q) := hq.symm
    clear hq
    cases q with
    | false =>
      have HA : Hid (Sp.newBytes B A n s = ByteArray.empty) := by show _ = _; unfold Sp.newBytes; rw [HQ.out, Bool.and_false]; rfl
      go_wp2_with fail
      go_ret
      exact ⟨by rw [HA.out]; rfl, B1.out⟩
    | true =>
      have HA : Hid (Sp.newBytes B A n s = sealed (Rc.bytes 2 (Sp.fields true (Nb.flat B) (Nb.flat A) n s))) := by show _ = _; unfold Sp.newBytes; rw [HQ.out, ← HR.out]; rfl
      go_wp2_with fail
      refine (l08Rec_any 2 s n (.inr rfl) b x y (Nb.flat B) (Nb.flat A) _ h2 q0 q1 q2 HT.out.b.view HT.out.a.view m0 m1 HFT.out.1 HFT.out.2.1 (by have := HFT.out.2.2; omega) (by have := HQ.out; simp [Sp.seqOk] at this; omega)).mono ?_
      rintro e w4 ⟨⟨u4, rfl, v4⟩, k4⟩
      have V4 : Hid (Rk.View Fd.S w4 u4 (Sp.fields true (Nb.flat B) (Nb.flat A) n s)) := v4
      have B4 := Fk.hide (B1.out.trans (k4.mono B1.out.size))
      obtain ⟨a4, c4, rfl, _⟩ := v4
      clear k4 HT q0 q1 q2
      go_wp2_with fail
      refine (recBytes_spec 2 _ _ _ V4.out (Sp.fields_fit true _ _ n s m0 m1) (by rw [Sp.fields_length]; unfold maxLen; omega)).mono ?_
      rintro e w5 ⟨rfl, k5⟩
      have B5 := Fk.hide (B4.out.trans (k5.mono B4.out.size))
      clear k5
      obtain ⟨t5, ht5⟩ : ∃ t, t = Rc.bytes 2 (Sp.fields true (Nb.flat B) (Nb.flat A) n s) := ⟨_, rfl⟩
      have HZ : Hid (t5.size ≤ maxLen) := by show _ ≤ _; rw [ht5]; exact Sp.bytes_size _ _
      have HT5 := Fk.hide ht5
      rw [← ht5]
      clear ht5
      go_wp2_with fail
      refine (specSeal_any _ _ HZ.out).mono ?_
      rintro e w6 ⟨rfl, k6⟩
      have B6 := Fk.hide (B5.out.trans (k6.mono B5.out.size))
      clear k6
      go_wp2_with fail
      go_ret
      exact ⟨by rw [HA.out, ← HT5.out]; rfl, B6.out⟩
end Go.Proofs.Ytjagohadeegghaa
