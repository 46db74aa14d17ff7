/- The walk of the program's OldBytes. -/
import Derived.Test.YtiekgchicholcaaSnapBytesImpl
import Derived.Test.YtiekgchicholcaaCmdRightBase
namespace Go.Proofs.Ytiekgchicholcaa
open Go.RowKit
set_option linter.unusedVariables false
set_option linter.unusedSimpArgs false
set_option maxHeartbeats 1000000 in
theorem seqRight_any (s : Int) (w : World) :
    Calls Try.prog 32 #[.int .i64 s] w fun e w' => e = .returned (.bool (Sp.seqOk s)) ∧ Below w.heap.size w w' := by
  go_enter Try.func32, Try.ntmps32
  go_wp2_with (go_at_call 61; refine (within_any _ _ _ _).mono ?_; rintro e w' ⟨rfl, rfl⟩)
  go_ret
  exact ⟨rfl, Below.refl _ _⟩
set_option maxHeartbeats 4000000 in
theorem oldBytes_impl (u v : Value) (n s : Int) (B A : List Or.E) (w : World) (hu : Rk.View Or.S w u B) (hv : Rk.View Or.S w v A) (su : Rk.Shut u) (sv : Rk.Shut v) (l0 : B.length ≤ 1048576) (l1 : A.length ≤ 1048576) :
    Calls Try.prog 9 #[.agg #[u, v, .int .i64 n], .int .i64 s] w fun e w' => e = .returned (.string (Sp.oldBytes B A n s)) ∧ Below w.heap.size w w' := by
  obtain ⟨W, hW⟩ : ∃ W, W = w.alloc (.cells #[u, v, .int .i64 n] 29) := ⟨_, rfl⟩
  have b0 : Below w.heap.size w W := by rw [hW]; exact (Below.refl _ _).alloc (Nat.le_refl _) _
  have c0 : W.cell? ⟨w.heap.size, 0, none⟩ = some u := by rw [hW, Fk.cellTop _ _ _ _ _ rfl]; rfl
  have c1 : W.cell? ⟨w.heap.size, 1, none⟩ = some v := by rw [hW, Fk.cellTop _ _ _ _ _ rfl]; rfl
  have c2 : W.cell? ⟨w.heap.size, 2, none⟩ = some (.int .i64 n) := by rw [hW, Fk.cellTop _ _ _ _ _ rfl]; rfl
  have hz : w.heap.size < W.heap.size := by rw [hW]; simp
  have HU := Fk.hide hu
  have HV := Fk.hide hv
  obtain ⟨a0, cap0, rfl, _⟩ := hu
  obtain ⟨a1, cap1, rfl, _⟩ := hv
  have HW := Fk.hide hW
  clear hW
  go_enter Try.func9, Try.ntmps9
  go_wp2_with fail
  rw [← HW.out]
  refine (oldRight_impl _ _ _ B A _ (HU.out.below b0) (HV.out.below b0) su sv l0 l1).mono ?_
  rintro e w1 ⟨rfl, k1⟩
  have B1 := Fk.hide (b0.trans (k1.mono b0.size))
  have d0 := (k1.cell (p := ⟨w.heap.size, 0, none⟩) (by show w.heap.size < _; omega)).trans c0
  have d1 := (k1.cell (p := ⟨w.heap.size, 1, none⟩) (by show w.heap.size < _; omega)).trans c1
  have d2 := (k1.cell (p := ⟨w.heap.size, 2, none⟩) (by show w.heap.size < _; omega)).trans c2
  have HU1 := Fk.hide ((HU.out.below b0).below k1)
  have HV1 := Fk.hide ((HV.out.below b0).below k1)
  have HZ1 : Hid (w.heap.size < w1.heap.size) := Nat.lt_of_lt_of_le hz k1.size
  clear k1 c0 c1 c2 HU HV b0
  obtain ⟨r, hr⟩ : ∃ r, r = Ob.right B A n := ⟨_, rfl⟩
  rw [← hr]
  have HR := Fk.hide hr
  clear hr
  cases r with
  | false =>
    have HA : Hid (Sp.oldBytes B A n s = ByteArray.empty) := by show _ = _; unfold Sp.oldBytes; rw [← HR.out]; rfl
    go_wp2_with fail
    go_ret
    exact ⟨by rw [HA.out]; rfl, B1.out⟩
  | true =>
    have HFT := Fk.hide (Sp.fit_old HR.out.symm)
    go_wp2_with fail
    refine (seqRight_any s _).mono ?_
    rintro e w2 ⟨rfl, k2⟩
    have e0 := (k2.cell (p := ⟨w.heap.size, 0, none⟩) (by exact HZ1.out)).trans d0
    have e1 := (k2.cell (p := ⟨w.heap.size, 1, none⟩) (by exact HZ1.out)).trans d1
    have e2 := (k2.cell (p := ⟨w.heap.size, 2, none⟩) (by exact HZ1.out)).trans d2
    have HU2 := Fk.hide (HU1.out.below k2)
    have HV2 := Fk.hide (HV1.out.below k2)
    have B2 := Fk.hide (B1.out.trans (k2.mono B1.out.size))
    clear k2 d0 d1 d2 HU1 HV1
    obtain ⟨q, hq⟩ : ∃ q, q = Sp.seqOk s := ⟨_, rfl⟩
    rw [← hq]
    have HQ : Hid (Sp.seqOk s = q) := hq.symm
    clear hq
    cases q with
    | false =>
      have HA : Hid (Sp.oldBytes B A n s = ByteArray.empty) := by show _ = _; unfold Sp.oldBytes; rw [HQ.out, Bool.and_false]; rfl
      go_wp2_with fail
      go_ret
      exact ⟨by rw [HA.out]; rfl, B2.out⟩
    | true =>
      have HA : Hid (Sp.oldBytes B A n s = sealed (Rc.bytes 1 (Sp.fields false B A n s))) := by show _ = _; unfold Sp.oldBytes; rw [HQ.out, ← HR.out]; rfl
      have HD : Hid (Below w2.heap.size w2 w2.drew) := Below.drew (Below.refl _ _)
      have hn0 : Hid (-9223372036854775808 ≤ n ∧ n ≤ 9223372036854775807) := by have := HFT.out.2.2; show _ ∧ _; omega
      have hs0 : Hid (-9223372036854775808 ≤ s ∧ s ≤ 9223372036854775807) := by have := HQ.out; simp [Sp.seqOk] at this; show _ ∧ _; omega
      have hl0 : Hid (B.length ≤ 131072) := by have := HFT.out.2.2; show _ ≤ _; omega
      have hl1 : Hid (A.length ≤ 131072) := by have := HFT.out.2.2; show _ ≤ _; omega
      go_wp2_with fail
      refine (snapBytes_any 1 n s (.inl rfl) _ _ B A _ HU2.out HV2.out l0 l1 hl0.out hl1.out HFT.out.1 HFT.out.2.1 hn0.out hs0.out).mono ?_
      rintro e w3 ⟨rfl, k3⟩
      have B3 := Fk.hide (B2.out.trans (k3.mono B2.out.size))
      clear k3
      go_wp2_with fail
      go_ret
      exact ⟨by rw [HA.out]; rfl, B3.out⟩
end Go.Proofs.Ytiekgchicholcaa
