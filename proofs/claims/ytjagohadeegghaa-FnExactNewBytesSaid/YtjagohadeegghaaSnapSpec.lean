/- The walks of the specification's OldBytes: its orders as bytes. -/
import Derived.Test.YtjagohadeegghaaSnapMath
import Derived.Test.YtjagohadeegghaaRecBytesSpec
import Derived.Test.YtjagohadeegghaaOldBook
namespace Go.Proofs.Ytjagohadeegghaa
open Go.RowKit
set_option linter.unusedVariables false
set_option linter.unusedSimpArgs false

set_option maxHeartbeats 1000000 in
theorem l08Bool_any (b : Bool) (w : World) :
    Calls Try.prog 164 #[.bool b] w fun e w' => e = .returned (.string (Sp.flag b)) ∧ Below w.heap.size w w' := by
  cases b
  · go_enter Try.func164, Try.ntmps164
    go_wp2_with fail
    refine (specPut_any 0 _ (by decide) (by decide)).mono ?_
    rintro e w1 ⟨rfl, hb⟩
    go_wp2_with fail
    go_ret
    exact ⟨rfl, hb⟩
  · go_enter Try.func164, Try.ntmps164
    go_wp2_with fail
    refine (specPut_any 1 _ (by decide) (by decide)).mono ?_
    rintro e w1 ⟨rfl, hb⟩
    go_wp2_with fail
    go_ret
    exact ⟨rfl, hb⟩

set_option maxHeartbeats 4000000 in
theorem l08Orders_any (v : Value) (L : List Or.E) (wide : Bool) (w : World) (hv : Rk.View Or.S w v L) (hl : L.length ≤ 1048576) (hf : ∀ k, k < L.length → Or.Fit (Ob.at' L k)) :
    Calls Try.prog 130 #[v, .bool wide] w fun e w' => e = .returned (.string (Sp.row wide L L.length)) ∧ Below w.heap.size w w' := by
  obtain ⟨a, cap, rfl, hs⟩ := hv
  have HF := Fk.hide hf
  clear hf
  go_enter Try.func130, Try.ntmps130
  go_wp2_with fail
  go_loopw [5, 6] (fun u i wr => ∃ k : Nat, k ≤ L.length ∧ i = .int .i64 k ∧ (∃ s : ByteArray, u = .string s ∧ Hid (s = Sp.row wide L k) ∧ s.size ≤ 88 * k) ∧ Hid (Below w.heap.size w wr)) (fun _ i _ => L.length - (intOf i).toNat)
  case atStart => exact ⟨0, Nat.zero_le _, rfl, ⟨_, rfl, rfl, Nat.le_refl _⟩, Below.refl _ _⟩
  case round =>
    obtain ⟨k, hk, rfl, ⟨s, rfl, HS, hss⟩, bel⟩ := hrel
    by_cases hlt : k < L.length
    · obtain ⟨b, o, rfl, hb, hs1⟩ := hs (by omega)
      have hs' := hs1.below hb bel.out
      have x0 := Or.c0 hs' hlt
      have x1 := Or.c1 hs' hlt
      have x2 := Or.c2 hs' hlt
      have x3 := Or.c3 hs' hlt
      have x4 := Or.c4 hs' hlt
      have x5 := Or.c5 hs' hlt
      have x6 := Or.c6 hs' hlt
      have x7 := Or.c7 hs' hlt
      have hfit := HF.out k hlt
      have hnx : Sp.row wide L (k + 1) = (if wide then Sp.app3 (Sp.app5 (Sp.row wide L k) (Ob.at' L k)) (Ob.at' L k) else Sp.app5 (Sp.row wide L k) (Ob.at' L k)) := rfl
      rw [← HS.out] at hnx
      change Or.Fit (Rk.at_ Or.S L k) at hfit
      change _ = (if wide then Sp.app3 (Sp.app5 s (Rk.at_ Or.S L k)) (Rk.at_ Or.S L k) else Sp.app5 s (Rk.at_ Or.S L k)) at hnx
      obtain ⟨f, hf'⟩ : ∃ f, f = Rk.at_ Or.S L k := ⟨_, rfl⟩
      rw [← hf'] at x0 x1 x2 x3 x4 x5 x6 x7 hfit hnx
      clear hf' hs hs1 hs'
      obtain ⟨f0, f1, f2, f3, f4, f5, f6, f7⟩ := f
      obtain ⟨⟨g00, g01⟩, ⟨g10, g11⟩, ⟨g20, g21⟩, ⟨g30, g31⟩, _, ⟨g50, g51⟩, ⟨g60, g61⟩, _⟩ := hfit
      dsimp only at x0 x1 x2 x3 x4 x5 x6 x7 g00 g01 g10 g11 g20 g21 g30 g31 g50 g51 g60 g61
      have c0 : ∀ w', Calls Try.prog 129 #[.int .i64 f0] w' fun e w'' => e = .returned (.string (Pn.putNum f0)) ∧ Below w'.heap.size w' w'' := fun w' => specPut_any f0 w' g00 g01
      have c1 : ∀ w', Calls Try.prog 129 #[.int .i64 f1] w' fun e w'' => e = .returned (.string (Pn.putNum f1)) ∧ Below w'.heap.size w' w'' := fun w' => specPut_any f1 w' g10 g11
      have c2 : ∀ w', Calls Try.prog 129 #[.int .i64 f2] w' fun e w'' => e = .returned (.string (Pn.putNum f2)) ∧ Below w'.heap.size w' w'' := fun w' => specPut_any f2 w' g20 g21
      have c3 : ∀ w', Calls Try.prog 129 #[.int .i64 f3] w' fun e w'' => e = .returned (.string (Pn.putNum f3)) ∧ Below w'.heap.size w' w'' := fun w' => specPut_any f3 w' g30 g31
      have c4 : ∀ w', Calls Try.prog 164 #[.bool f4] w' fun e w'' => e = .returned (.string (Sp.flag f4)) ∧ Below w'.heap.size w' w'' := fun w' => l08Bool_any f4 w'
      have c5 : ∀ w', Calls Try.prog 129 #[.int .i64 f5] w' fun e w'' => e = .returned (.string (Pn.putNum f5)) ∧ Below w'.heap.size w' w'' := fun w' => specPut_any f5 w' g50 g51
      have c6 : ∀ w', Calls Try.prog 129 #[.int .i64 f6] w' fun e w'' => e = .returned (.string (Pn.putNum f6)) ∧ Below w'.heap.size w' w'' := fun w' => specPut_any f6 w' g60 g61
      have c7 : ∀ w', Calls Try.prog 164 #[.bool f7] w' fun e w'' => e = .returned (.string (Sp.flag f7)) ∧ Below w'.heap.size w' w'' := fun w' => l08Bool_any f7 w'
      have z0 := Pn.put_size f0
      have z1 := Pn.put_size f1
      have z2 := Pn.put_size f2
      have z3 := Pn.put_size f3
      have z4 := Sp.flag_size f4
      have z5 := Pn.put_size f5
      have z6 := Pn.put_size f6
      have z7 := Sp.flag_size f7
      unfold Sp.app3 Sp.app5 at hnx
      dsimp only at hnx
      generalize Pn.putNum f0 = s0 at *
      generalize Pn.putNum f1 = s1 at *
      generalize Pn.putNum f2 = s2 at *
      generalize Pn.putNum f3 = s3 at *
      generalize Sp.flag f4 = s4 at *
      generalize Pn.putNum f5 = s5 at *
      generalize Pn.putNum f6 = s6 at *
      generalize Sp.flag f7 = s7 at *
      clear g00 g01 g10 g11 g20 g21 g30 g31 g50 g51 g60 g61
      have HNX := Fk.hide hnx
      clear hnx
      have k0 : (0 : Int) ≤ (k : Int) := Int.natCast_nonneg _
      have k1 : (k : Int) < (L.length : Int) := by omega
      go_wp2_with fail
      obtain ⟨W1, hW1⟩ : ∃ W, W = wr.alloc (.cells #[.int .i64 f0, .int .i64 f1, .int .i64 f2, .int .i64 f3, .bool f4, .int .i64 f5, .int .i64 f6, .bool f7] 55) := ⟨_, rfl⟩
      have b1 : Below wr.heap.size wr W1 := by rw [hW1]; exact (Below.refl _ _).alloc (Nat.le_refl _) _
      have hz1 : wr.heap.size < W1.heap.size := by rw [hW1]; simp
      have y0 : W1.cell? ⟨wr.heap.size, 0, none⟩ = some (.int .i64 f0) := by rw [hW1, Fk.cellTop _ _ _ _ _ rfl]; rfl
      have y1 : W1.cell? ⟨wr.heap.size, 1, none⟩ = some (.int .i64 f1) := by rw [hW1, Fk.cellTop _ _ _ _ _ rfl]; rfl
      have y2 : W1.cell? ⟨wr.heap.size, 2, none⟩ = some (.int .i64 f2) := by rw [hW1, Fk.cellTop _ _ _ _ _ rfl]; rfl
      have y3 : W1.cell? ⟨wr.heap.size, 3, none⟩ = some (.int .i64 f3) := by rw [hW1, Fk.cellTop _ _ _ _ _ rfl]; rfl
      have y4 : W1.cell? ⟨wr.heap.size, 4, none⟩ = some (.bool f4) := by rw [hW1, Fk.cellTop _ _ _ _ _ rfl]; rfl
      have y5 : W1.cell? ⟨wr.heap.size, 5, none⟩ = some (.int .i64 f5) := by rw [hW1, Fk.cellTop _ _ _ _ _ rfl]; rfl
      have y6 : W1.cell? ⟨wr.heap.size, 6, none⟩ = some (.int .i64 f6) := by rw [hW1, Fk.cellTop _ _ _ _ _ rfl]; rfl
      have y7 : W1.cell? ⟨wr.heap.size, 7, none⟩ = some (.bool f7) := by rw [hW1, Fk.cellTop _ _ _ _ _ rfl]; rfl
      rw [← hW1]
      have HB1 := Fk.hide (bel.out.trans (b1.mono bel.out.size))
      clear hW1 b1 x0 x1 x2 x3 x4 x5 x6 x7
      have r0 := cell_regrown y0
      have r1 := cell_regrown y1
      have r2 := cell_regrown y2
      have r3 := cell_regrown y3
      have r4 := cell_regrown y4
      have hs0 : (s ++ s0).size = s.size + s0.size := ByteArray.size_append
      have hs1 : (s ++ s0 ++ s1).size = s.size + s0.size + s1.size := by rw [ByteArray.size_append, hs0]
      have hs2 : (s ++ s0 ++ s1 ++ s2).size = s.size + s0.size + s1.size + s2.size := by rw [ByteArray.size_append, hs1]
      have hs3 : (s ++ s0 ++ s1 ++ s2 ++ s3).size = s.size + s0.size + s1.size + s2.size + s3.size := by rw [ByteArray.size_append, hs2]
      have hs4 : (s ++ s0 ++ s1 ++ s2 ++ s3 ++ s4).size = s.size + s0.size + s1.size + s2.size + s3.size + s4.size := by rw [ByteArray.size_append, hs3]
      have HS4 := Fk.hide hs4
      clear hs0 hs1 hs2 hs3 hs4
      refine wp_region_quiet_below (by kernel_rfl) (by kernel_rfl) ?_
      repeat (go_big_quiet_step (first | (go_at_call_of 129 f0; exact Calls.regrown_of (c0 _)) | (go_at_call_of 129 f1; exact Calls.regrown_of (c1 _)) | (go_at_call_of 129 f2; exact Calls.regrown_of (c2 _)) | (go_at_call_of 129 f3; exact Calls.regrown_of (c3 _)) | (go_at_call 164; exact Calls.regrown_of (c4 _))))
      refine wpQuiet_nil ?_
      intro w4 hw'
      obtain ⟨⟨dq, osq⟩, hw''⟩ := hw'
      have b4 : Below W1.heap.size W1 w4 := by rw [hw'']; exact below_regrown W1 dq osq
      have q5 := (b4.cell (p := ⟨wr.heap.size, 5, none⟩) (by exact hz1)).trans y5
      have q6 := (b4.cell (p := ⟨wr.heap.size, 6, none⟩) (by exact hz1)).trans y6
      have q7 := (b4.cell (p := ⟨wr.heap.size, 7, none⟩) (by exact hz1)).trans y7
      have HB4 := Fk.hide (HB1.out.trans (b4.mono HB1.out.size))
      clear hw'' b4 r0 r1 r2 r3 r4 y0 y1 y2 y3 y4 y5 y6 y7 c0 c1 c2 c3 c4
      have hw4 : (s ++ s0 ++ s1 ++ s2 ++ s3 ++ s4).size ≤ 88 * k + 55 := by rw [HS4.out]; omega
      obtain ⟨u, hu⟩ : ∃ u, u = s ++ s0 ++ s1 ++ s2 ++ s3 ++ s4 := ⟨_, rfl⟩
      have HN : Hid (Sp.row wide L (k + 1) = (if wide then u ++ s5 ++ s6 ++ s7 else u)) := by rw [hu]; exact HNX
      rw [← hu] at hw4 ⊢
      clear hu HNX HS4 HS z0 z1 z2 z3 z4
      cases wide with
      | false =>
        go_wp2_with fail
        go_roundw
        case rel => exact ⟨k + 1, by omega, by go_num, ⟨_, rfl, HN.out.symm, by omega⟩, HB4.out⟩
        case measure => simp [intOf]; omega
      | true =>
        have r5 := cell_regrown q5
        have r6 := cell_regrown q6
        have r7 := cell_regrown q7
        have hs0 : (u ++ s5).size = u.size + s5.size := ByteArray.size_append
        have hs1 : (u ++ s5 ++ s6).size = u.size + s5.size + s6.size := by rw [ByteArray.size_append, hs0]
        have HS2 : Hid ((u ++ s5 ++ s6 ++ s7).size = u.size + s5.size + s6.size + s7.size) := by show _ = _; rw [ByteArray.size_append, hs1]
        clear hs0 hs1
        go_wp2_with fail
        refine wp_region_quiet_below (by kernel_rfl) (by kernel_rfl) ?_
        repeat (go_big_quiet_step (first | (go_at_call_of 129 f5; exact Calls.regrown_of (c5 _)) | (go_at_call_of 129 f6; exact Calls.regrown_of (c6 _)) | (go_at_call 164; exact Calls.regrown_of (c7 _))))
        refine wpQuiet_nil ?_
        intro w5 hw'
        obtain ⟨⟨dq2, osq2⟩, hw''⟩ := hw'
        have b5 : Below w4.heap.size w4 w5 := by rw [hw'']; exact below_regrown w4 dq2 osq2
        have HB5 := Fk.hide (HB4.out.trans (b5.mono HB4.out.size))
        clear hw'' b5 r5 r6 r7 q5 q6 q7 c5 c6 c7
        go_wp2_with fail
        go_roundw
        case rel => exact ⟨k + 1, by omega, by go_num, ⟨_, rfl, HN.out.symm, by rw [HS2.out]; omega⟩, HB5.out⟩
        case measure => simp [intOf]; omega
    · have e : k = L.length := by omega
      subst e
      clear hs
      go_wp2_with fail
      go_ret
      exact ⟨by rw [← HS.out]; rfl, bel.out⟩
end Go.Proofs.Ytjagohadeegghaa
