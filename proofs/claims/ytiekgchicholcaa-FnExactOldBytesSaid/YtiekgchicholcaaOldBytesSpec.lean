/- The walk of the specification's OldBytes. -/
import Derived.Test.YtiekgchicholcaaSnapRecSpec
namespace Go.Proofs.Ytiekgchicholcaa
open Go.RowKit
set_option linter.unusedVariables false
set_option linter.unusedSimpArgs false
set_option maxHeartbeats 4000000 in
theorem oldBytes_spec (u v : Value) (n s : Int) (B A : List Or.E) (w : World) (hu : Rk.View Or.S w u B) (hv : Rk.View Or.S w v A) (su : Rk.Shut u) (sv : Rk.Shut v) (l0 : B.length ≤ 1048576) (l1 : A.length ≤ 1048576) :
    Calls Try.prog 7 #[.agg #[u, v, .int .i64 n], .int .i64 s] w fun e w' => e = .returned (.string (Sp.oldBytes B A n s)) ∧ Below w.heap.size w w' := by
  obtain ⟨W, hW⟩ : ∃ W, W = w.alloc (.cells #[u, v, .int .i64 n] 29) := ⟨_, rfl⟩
  have b0 : Below w.heap.size w W := by rw [hW]; exact (Below.refl _ _).alloc (Nat.le_refl _) _
  have c0 : W.cell? ⟨w.heap.size, 0, none⟩ = some u := by rw [hW, Fk.cellTop _ _ _ _ _ rfl]; rfl
  have c1 : W.cell? ⟨w.heap.size, 1, none⟩ = some v := by rw [hW, Fk.cellTop _ _ _ _ _ rfl]; rfl
  have c2 : W.cell? ⟨w.heap.size, 2, none⟩ = some (.int .i64 n) := by rw [hW, Fk.cellTop _ _ _ _ _ rfl]; rfl
  have hz : w.heap.size < W.heap.size := by rw [hW]; simp
  have HU := Fk.hide hu
  have HV := Fk.hide hv
  obtain ⟨a0, cap0, rfl, _⟩ := hu
  obtain ⟨a1, cap1, rfl, _⟩ := hv
  have HW := Fk.hide hW
  clear hW
  go_enter Try.func7, Try.ntmps7
  go_wp2_with fail
  rw [← HW.out]
  refine (oldRight_spec _ _ _ B A _ (HU.out.below b0) (HV.out.below b0) su sv l0 l1).mono ?_
  rintro e w1 ⟨rfl, k1⟩
  have B1 := Fk.hide (b0.trans (k1.mono b0.size))
  have d0 := (k1.cell (p := ⟨w.heap.size, 0, none⟩) (by show w.heap.size < _; omega)).trans c0
  have d1 := (k1.cell (p := ⟨w.heap.size, 1, none⟩) (by show w.heap.size < _; omega)).trans c1
  have d2 := (k1.cell (p := ⟨w.heap.size, 2, none⟩) (by show w.heap.size < _; omega)).trans c2
  have HU1 := Fk.hide ((HU.out.below b0).below k1)
  have HV1 := Fk.hide ((HV.out.below b0).below k1)
  clear k1 c0 c1 c2 HU HV b0
  obtain ⟨r, hr⟩ : ∃ r, r = Ob.right B A n := ⟨_, rfl⟩
  rw [← hr]
  have HR := Fk.hide hr
  clear hr
  cases r with
  | false =>
    have HA : Hid (Sp.oldBytes B A n s = ByteArray.empty) := by show _ = _; unfold Sp.oldBytes; rw [← HR.out]; rfl
    go_wp2_with fail
    go_ret
    exact ⟨by rw [HA.out]; rfl, B1.out⟩
  | true =>
    have HFT := Fk.hide (Sp.fit_old HR.out.symm)
    go_wp2_with fail
    refine (l02Is_inn s 0 1000000 _).mono ?_
    rintro e w' ⟨rfl, rfl⟩
    obtain ⟨q, hq⟩ : ∃ q, q = Cm.inn s 0 1000000 := ⟨_, rfl⟩
    rw [← hq]
    have HQ : Hid (Sp.seqOk s = q) := hq.symm
    clear hq
    cases q with
    | false =>
      have HA : Hid (Sp.oldBytes B A n s = ByteArray.empty) := by show _ = _; unfold Sp.oldBytes; rw [HQ.out, Bool.and_false]; rfl
      go_wp2_with fail
      go_ret
      exact ⟨by rw [HA.out]; rfl, B1.out⟩
    | true =>
      have HA : Hid (Sp.oldBytes B A n s = sealed (Rc.bytes 1 (Sp.fields false B A n s))) := by show _ = _; unfold Sp.oldBytes; rw [HQ.out, ← HR.out]; rfl
      go_wp2_with fail
      refine (l06Open_any _ _ _ B A _ HU1.out HV1.out su sv l0 l1).mono ?_
      rintro e w3 ⟨⟨x, y, b, rfl, hT, h1, h2, q0, q1, q2, q3⟩, k3⟩
      have B3 := Fk.hide (B1.out.trans (k3.mono B1.out.size))
      clear k3 q3 h1
      go_wp2_with fail
      refine (l08Rec_any 1 s n (.inl rfl) b x y B A _ h2 q0 q1 q2 hT.b.view hT.a.view l0 l1 HFT.out.1 HFT.out.2.1 (by have := HFT.out.2.2; omega) (by have := HQ.out; simp [Sp.seqOk] at this; omega)).mono ?_
      rintro e w4 ⟨⟨u4, rfl, v4⟩, k4⟩
      have V4 : Hid (Rk.View Fd.S w4 u4 (Sp.fields false B A n s)) := v4
      have B4 := Fk.hide (B3.out.trans (k4.mono B3.out.size))
      obtain ⟨a4, c4, rfl, _⟩ := v4
      clear k4 hT q0 q1 q2
      go_wp2_with fail
      refine (recBytes_spec 1 _ _ _ V4.out (Sp.fields_fit false B A n s l0 l1) (by rw [Sp.fields_length]; unfold maxLen; omega)).mono ?_
      rintro e w5 ⟨rfl, k5⟩
      have B5 := Fk.hide (B4.out.trans (k5.mono B4.out.size))
      clear k5
      obtain ⟨t5, ht5⟩ : ∃ t, t = Rc.bytes 1 (Sp.fields false B A n s) := ⟨_, rfl⟩
      have HZ : Hid (t5.size ≤ maxLen) := by show _ ≤ _; rw [ht5]; exact Sp.bytes_size _ _
      have HT5 := Fk.hide ht5
      rw [← ht5]
      clear ht5
      go_wp2_with fail
      refine (specSeal_any _ _ HZ.out).mono ?_
      rintro e w6 ⟨rfl, k6⟩
      have B6 := Fk.hide (B5.out.trans (k6.mono B5.out.size))
      clear k6
      go_wp2_with fail
      go_ret
      exact ⟨by rw [HA.out, ← HT5.out]; rfl, B6.out⟩
end Go.Proofs.Ytiekgchicholcaa
