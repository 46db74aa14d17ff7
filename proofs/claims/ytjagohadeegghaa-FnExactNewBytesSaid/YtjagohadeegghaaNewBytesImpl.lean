/- The walk of the program's NewBytes. -/
import Derived.Test.YtjagohadeegghaaJoined5
import Derived.Test.YtjagohadeegghaaSnapMathNew
import Derived.Test.YtjagohadeegghaaJoined6
namespace Go.Proofs.Ytjagohadeegghaa
open Go.RowKit
set_option linter.unusedVariables false
set_option linter.unusedSimpArgs false
set_option maxRecDepth 100000 in
set_option maxHeartbeats 4000000 in
theorem newBytes_impl (u v : Value) (n s : Int) (B A : List Lv.E) (w : World) (hu : Lv.View w u B) (hv : Lv.View w v A) (l0 : B.length ≤ 1048576) (l1 : A.length ≤ 1048576) (m0 : (Nb.flat B).length ≤ 1048576) (m1 : (Nb.flat A).length ≤ 1048576) :
    Calls Try.prog 55 #[.agg #[u, v, .int .i64 n], .int .i64 s] w fun e w' => e = .returned (.string (Sp.newBytes B A n s)) ∧ Below w.heap.size w w' := by
  obtain ⟨W, hW⟩ : ∃ W, W = w.alloc (.cells #[u, v, .int .i64 n] 28) := ⟨_, rfl⟩
  have b0 : Below w.heap.size w W := by rw [hW]; exact (Below.refl _ _).alloc (Nat.le_refl _) _
  have c0 : W.cell? ⟨w.heap.size, 0, none⟩ = some u := by rw [hW, Fk.cellTop _ _ _ _ _ rfl]; rfl
  have c1 : W.cell? ⟨w.heap.size, 1, none⟩ = some v := by rw [hW, Fk.cellTop _ _ _ _ _ rfl]; rfl
  have c2 : W.cell? ⟨w.heap.size, 2, none⟩ = some (.int .i64 n) := by rw [hW, Fk.cellTop _ _ _ _ _ rfl]; rfl
  have hz : w.heap.size < W.heap.size := by rw [hW]; simp
  have HU := Fk.hide (hu.below b0)
  have HV := Fk.hide (hv.below b0)
  obtain ⟨a0, cap0, rfl⟩ := hu.slice
  obtain ⟨a1, cap1, rfl⟩ := hv.slice
  have HW := Fk.hide hW
  clear hW hu hv
  go_enter Try.func55, Try.ntmps55
  go_wp2_with fail
  rw [← HW.out]
  refine (newRight_impl _ _ _ B A _ HU.out HV.out l0 l1 m0 m1).mono ?_
  rintro e w1 ⟨rfl, k1⟩
  have B1 := Fk.hide (b0.trans (k1.mono b0.size))
  have d0 := (k1.cell (p := ⟨w.heap.size, 0, none⟩) (by show w.heap.size < _; omega)).trans c0
  have d1 := (k1.cell (p := ⟨w.heap.size, 1, none⟩) (by show w.heap.size < _; omega)).trans c1
  have d2 := (k1.cell (p := ⟨w.heap.size, 2, none⟩) (by show w.heap.size < _; omega)).trans c2
  have HU1 := Fk.hide (HU.out.below k1)
  have HV1 := Fk.hide (HV.out.below k1)
  have HZ1 : Hid (w.heap.size < w1.heap.size) := Nat.lt_of_lt_of_le hz k1.size
  clear k1 c0 c1 c2 HU HV b0
  obtain ⟨r, hr⟩ : ∃ r, r = Nb.right B A n := ⟨_, rfl⟩
  rw [← hr]
  have HR := Fk.hide hr
  clear hr
  cases r with
  | false =>
    have HA : Hid (Sp.newBytes B A n s = ByteArray.empty) := by show _ = _; unfold Sp.newBytes; rw [← HR.out]; rfl
    go_wp2_with fail
    go_ret
    exact ⟨by rw [HA.out]; rfl, B1.out⟩
  | true =>
    have HFT := Fk.hide (Sp.fit_new HR.out.symm)
    go_wp2_with fail
    refine (seqRight_any s _).mono ?_
    rintro e w2 ⟨rfl, k2⟩
    have e0 := (k2.cell (p := ⟨w.heap.size, 0, none⟩) (by exact HZ1.out)).trans d0
    have e1 := (k2.cell (p := ⟨w.heap.size, 1, none⟩) (by exact HZ1.out)).trans d1
    have e2 := (k2.cell (p := ⟨w.heap.size, 2, none⟩) (by exact HZ1.out)).trans d2
    have HU2 := Fk.hide (HU1.out.below k2)
    have HV2 := Fk.hide (HV1.out.below k2)
    have B2 := Fk.hide (B1.out.trans (k2.mono B1.out.size))
    have HZ2 : Hid (w.heap.size < w2.heap.size) := Nat.lt_of_lt_of_le HZ1.out k2.size
    clear k2 d0 d1 d2 HU1 HV1
    obtain ⟨q, hq⟩ : ∃ q, q = Sp.seqOk s := ⟨_, rfl⟩
    rw [← hq]
    have HQ : Hid (Sp.seqOk s = q) := hq.symm
    clear hq
    cases q with
    | false =>
      have HA : Hid (Sp.newBytes B A n s = ByteArray.empty) := by show _ = _; unfold Sp.newBytes; rw [HQ.out, Bool.and_false]; rfl
      go_wp2_with fail
      go_ret
      exact ⟨by rw [HA.out]; rfl, B2.out⟩
    | true =>
      have HA : Hid (Sp.newBytes B A n s = sealed (Rc.bytes 2 (Sp.fields true (Nb.flat B) (Nb.flat A) n s))) := by show _ = _; unfold Sp.newBytes; rw [HQ.out, ← HR.out]; rfl
      have HD : Hid (Below w2.heap.size w2 w2.drew) := Below.drew (Below.refl _ _)
      have hn0 : Hid (-9223372036854775808 ≤ n ∧ n ≤ 9223372036854775807) := by have := HFT.out.2.2; show _ ∧ _; omega
      have hs0 : Hid (-9223372036854775808 ≤ s ∧ s ≤ 9223372036854775807) := by have := HQ.out; simp [Sp.seqOk] at this; show _ ∧ _; omega
      have hl0 : Hid ((Nb.flat B).length ≤ 131072) := by have := HFT.out.2.2; show _ ≤ _; omega
      have hl1 : Hid ((Nb.flat A).length ≤ 131072) := by have := HFT.out.2.2; show _ ≤ _; omega
      have g0 : Hid (∀ w', Below w2.heap.size w2 w' → Calls Try.prog 78 #[.slice a0 B.length cap0] w' fun e w'' => (∃ u, e = .returned u ∧ Rk.Own Or.S w'' w'.heap.size 55 u (Nb.flat B)) ∧ Below w'.heap.size w' w'') := fun w' h => inRow_any _ B w' (HU2.out.below h) l0 m0
      have g1 : Hid (∀ w', Below w2.heap.size w2 w' → Calls Try.prog 78 #[.slice a1 A.length cap1] w' fun e w'' => (∃ u, e = .returned u ∧ Rk.Own Or.S w'' w'.heap.size 55 u (Nb.flat A)) ∧ Below w'.heap.size w' w'') := fun w' h => inRow_any _ A w' (HV2.out.below h) l1 m1
      go_wp2_with fail
      go_region_held3 (fun w' => w'.cell? ⟨w.heap.size, 0, none⟩ = some (.slice a0 B.length cap0) ∧ w'.cell? ⟨w.heap.size, 1, none⟩ = some (.slice a1 A.length cap1) ∧ w'.cell? ⟨w.heap.size, 2, none⟩ = some (.int .i64 n))
        (first | go_keep | (go_split_ands; exact ⟨by assumption, by assumption, by assumption⟩))
        (first
          | (have hchk := HB4.out; clear hchk; go_at_call 98; refine (snapBytes_any 2 n s (.inr rfl) _ _ (Nb.flat B) (Nb.flat A) _ HO4.out HP4.out m0 m1 hl0.out hl1.out HFT.out.1 HFT.out.2.1 hn0.out hs0.out).mono ?_; rintro e w5 ⟨rfl, b5⟩; have B5 : Below w2.heap.size w2 w5 := HB4.out.trans (b5.mono HB4.out.size); have vq0 := (B5.cell (p := ⟨w.heap.size, 0, none⟩) (by exact HZ2.out)).trans e0; have vq1 := (B5.cell (p := ⟨w.heap.size, 1, none⟩) (by exact HZ2.out)).trans e1; have vq2 := (B5.cell (p := ⟨w.heap.size, 2, none⟩) (by exact HZ2.out)).trans e2; have HB5 := Fk.hide B5; clear B5 b5)
          | (have hchk := HB3.out; clear hchk; go_at_call 78; refine (g1.out _ HB3.out).mono ?_; rintro e w4 ⟨⟨u4, rfl, o4⟩, b4⟩; have B4 : Below w2.heap.size w2 w4 := HB3.out.trans (b4.mono HB3.out.size); have uq0 := (B4.cell (p := ⟨w.heap.size, 0, none⟩) (by exact HZ2.out)).trans e0; have uq1 := (B4.cell (p := ⟨w.heap.size, 1, none⟩) (by exact HZ2.out)).trans e1; have uq2 := (B4.cell (p := ⟨w.heap.size, 2, none⟩) (by exact HZ2.out)).trans e2; have HB4 := Fk.hide B4; have HO4 := Fk.hide (HO3.out.below b4); have HP4 := Fk.hide o4.view; obtain ⟨a4, n4, c4, rfl⟩ := o4.slice'; clear B4 b4 o4)
          | (go_at_call 78; refine (g0.out _ HD.out).mono ?_; rintro e w3 ⟨⟨u3, rfl, o3⟩, b3⟩; have B3 : Below w2.heap.size w2 w3 := HD.out.trans (b3.mono HD.out.size); have tq0 := (B3.cell (p := ⟨w.heap.size, 0, none⟩) (by exact HZ2.out)).trans e0; have tq1 := (B3.cell (p := ⟨w.heap.size, 1, none⟩) (by exact HZ2.out)).trans e1; have tq2 := (B3.cell (p := ⟨w.heap.size, 2, none⟩) (by exact HZ2.out)).trans e2; have HB3 := Fk.hide B3; have HO3 := Fk.hide o3.view; obtain ⟨a3, n3, c3, rfl⟩ := o3.slice'; clear B3 b3 o3))
      have B9 := Fk.hide (B2.out.trans (HB5.out.mono B2.out.size))
      go_wp2_with fail
      go_ret
      exact ⟨by rw [HA.out]; rfl, B9.out⟩
end Go.Proofs.Ytjagohadeegghaa
