/- The walks of the program's FirstNew: a closure looks through each side. -/
import Derived.Test.YtjagohadeegghaaFirstNew
import Derived.Test.YtjagohadeegghaaLevelMark
namespace Go.Proofs.Ytjagohadeegghaa
open Go.RowKit
set_option linter.unusedVariables false
set_option linter.unusedSimpArgs false
theorem Nb.look_step (F : List Or.E) (k : Nat) (h : k < F.length) (f : Int) : (F.take (k + 1)).foldl Nb.look f = Nb.look ((F.take k).foldl Nb.look f) (Ob.at' F k) := by
  rw [Rk.take_at (S := Or.S) F k h, List.foldl_append]
  rfl
set_option maxRecDepth 100000 in
set_option maxHeartbeats 8000000 in
theorem look_any (v : Value) (L : List Lv.E) (q : Nat) (f : Int) (w : World) (hv : Lv.View w v L) (hl : L.length ≤ 1048576) (hm : (Nb.flat L).length ≤ 1048576) (hq : q < w.heap.size) (hc : w.cell? ⟨q, 0, none⟩ = some (.int .i64 f)) (hf : w.frozen? ⟨q, 0, none⟩ = false) :
    Calls Try.prog 83 #[v, .pointer (some ⟨q, 0, none⟩)] w fun e w' => (e = .returned (.tuple #[]) ∧ w'.cell? ⟨q, 0, none⟩ = some (.int .i64 ((Nb.flat L).foldl Nb.look f)) ∧ w'.frozen? ⟨q, 0, none⟩ = false) ∧ w.grownBy w' (some q) := by
  have HV := Fk.hide hv
  obtain ⟨a, cap, rfl⟩ := hv.slice
  have HQ := Fk.hide hq
  clear hv
  go_enter Try.func83, Try.ntmps83
  go_wp2_with fail
  refine (inRow_any _ L _ HV.out hl hm).mono ?_
  rintro e w1 ⟨⟨u, rfl, ho⟩, b1⟩
  have c1 := (b1.cell (p := ⟨q, 0, none⟩) (by exact hq)).trans hc
  have f1 := (b1.frozen (p := ⟨q, 0, none⟩) (by exact hq)).trans hf
  obtain ⟨F, hF⟩ : ∃ F, F = Nb.flat L := ⟨_, rfl⟩
  rw [← hF] at ho hm
  have HFF := Fk.hide hF
  obtain ⟨ua, uc, rfl⟩ := ho.slice
  have HO := Fk.hide ho
  have HG1 : Hid (w.grownBy w1 (some q)) := Fk.grownBy_below _ b1
  have HZ1 := Fk.hide b1.size
  clear hF ho b1 hc hf
  go_wp2_with fail
  go_loopw [8] (fun i wr => ∃ (k : Nat) (x : Int), k ≤ F.length ∧ i = .int .i64 k ∧ Hid (x = (F.take k).foldl Nb.look f) ∧ wr.cell? ⟨q, 0, none⟩ = some (.int .i64 x) ∧ wr.frozen? ⟨q, 0, none⟩ = false ∧ Hid (Rk.Own Or.S wr w.heap.size 55 (.slice ua F.length uc) F) ∧ Hid (w.grownBy wr (some q))) (fun i _ => F.length - (intOf i).toNat)
  case atStart => exact ⟨0, f, Nat.zero_le _, rfl, rfl, c1, f1, HO, HG1⟩
  case round =>
    obtain ⟨k, x, hk, rfl, HX, cq, fq, HP, HG⟩ := hrel
    clear c1 f1
    by_cases hlt : k < F.length
    · obtain ⟨g, rfl⟩ : ∃ g, ua = some ⟨g, 0, none⟩ := by
        rcases HP.out.form with ⟨h1, h2⟩ | ⟨g, c, h1, _⟩
        · rw [h2] at hlt; simp at hlt
        · simp only [Value.slice.injEq] at h1; exact ⟨g, h1.1⟩
      have HQR : Hid (q < wr.heap.size) := Nat.lt_of_lt_of_le HQ.out HG.out.size
      have q0 := Or.o0 HP.out hlt
      have q1 := Or.o1 HP.out hlt
      have q2 := Or.o2 HP.out hlt
      have q3 := Or.o3 HP.out hlt
      have q4 := Or.o4 HP.out hlt
      have q5 := Or.o5 HP.out hlt
      have q6 := Or.o6 HP.out hlt
      have q7 := Or.o7 HP.out hlt
      have hst := Nb.look_step F k hlt f
      rw [← HX.out] at hst
      obtain ⟨⟨i', ow, pr, am, dy, pk, hd, gd⟩, ho⟩ : ∃ o, o = Ob.at' F k := ⟨_, rfl⟩
      rw [← ho] at hst
      rw [show Rk.at_ Or.S F k = (i', ow, pr, am, dy, pk, hd, gd) from ho.symm] at q0 q1 q2 q3 q4 q5 q6 q7
      simp only at q0 q1 q2 q3 q4 q5 q6 q7
      have HST := Fk.hide hst
      have bA : Below wr.heap.size wr (wr.alloc (.cells #[.int .i64 i', .int .i64 ow, .int .i64 pr, .int .i64 am, .bool dy, .int .i64 pk, .int .i64 hd, .bool gd] 55)) := (Below.refl _ _).alloc (Nat.le_refl _) _
      have HGA : Hid (w.grownBy (wr.alloc (.cells #[.int .i64 i', .int .i64 ow, .int .i64 pr, .int .i64 am, .bool dy, .int .i64 pk, .int .i64 hd, .bool gd] 55)) (some q)) := Fk.grownBy_trans HG.out (Fk.grownBy_below _ bA)
      have HPA := Fk.hide (HP.out.below bA)
      have cqa := (bA.cell (p := ⟨q, 0, none⟩) (by exact HQR.out)).trans cq
      have fqa := (bA.frozen (p := ⟨q, 0, none⟩) (by exact HQR.out)).trans fq
      have HQG : Hid (∀ b, (Value.slice (some ⟨g, 0, none⟩) F.length uc).ownBlock = some b → some b ≠ some q) := fun b hb e => by
        have h1 := (HP.out.lt b hb).1
        have h2 := HQ.out
        have h3 : b = q := by simpa using e
        omega
      clear hst ho bA
      by_cases hx : x = 0
      · subst hx
        by_cases hp : pk = 0
        · subst hp
          cases gd with
          | true =>
            have HE : Hid (i' = (F.take (k + 1)).foldl Nb.look f) := by show _ = _; rw [HST.out]; simp [Nb.look, Nb.isNew]
            go_wp2_with fail
            go_roundw
            case rel => exact ⟨k + 1, i', by omega, by go_num, HE, World.cell?_setCell_same _ _ _ cqa, (World.frozen?_setCell _ _ _ _).trans fqa, HPA.out.kept (Lv.grown_set _ _ _) HQG.out, Fk.grownBy_trans HGA.out (Lv.grown_set _ _ _)⟩
            case measure => simp [intOf]; omega
          | false =>
            have HE : Hid ((0 : Int) = (F.take (k + 1)).foldl Nb.look f) := by show _ = _; rw [HST.out]; simp [Nb.look, Nb.isNew]
            go_wp2_with fail
            go_roundw
            case rel => exact ⟨k + 1, 0, by omega, by go_num, HE, cqa, fqa, HPA, HGA⟩
            case measure => simp [intOf]; omega
        · have HE : Hid (i' = (F.take (k + 1)).foldl Nb.look f) := by show _ = _; rw [HST.out]; simp [Nb.look, Nb.isNew, hp]
          have d1 : decide (pk = 0) = false := decide_eq_false hp
          have d2 : (pk == 0) = false := by simpa using hp
          go_wp2_with fail
          go_roundw
          case rel => exact ⟨k + 1, i', by omega, by go_num, HE, World.cell?_setCell_same _ _ _ cqa, (World.frozen?_setCell _ _ _ _).trans fqa, HPA.out.kept (Lv.grown_set _ _ _) HQG.out, Fk.grownBy_trans HGA.out (Lv.grown_set _ _ _)⟩
          case measure => simp [intOf]; omega
      · have HE : Hid (x = (F.take (k + 1)).foldl Nb.look f) := by show _ = _; rw [HST.out]; simp [Nb.look, hx]
        have d1 : decide (x = 0) = false := decide_eq_false hx
        have d2 : (x == 0) = false := by simpa using hx
        go_wp2_with fail
        go_roundw
        case rel => exact ⟨k + 1, x, by omega, by go_num, HE, cqa, fqa, HPA, HGA⟩
        case measure => simp [intOf]; omega
    · have e : k = F.length := by omega
      subst e
      rw [List.take_length] at HX
      have HE : Hid (x = (Nb.flat L).foldl Nb.look f) := by show _ = _; rw [← HFF.out]; exact HX.out
      have cq2 : wr.cell? ⟨q, 0, none⟩ = some (.int .i64 ((Nb.flat L).foldl Nb.look f)) := by rw [← HE.out]; exact cq
      go_wp2_with fail
      refine bodyPost_end (v := .tuple #[]) (by simp [results, Try.results83, go_sem] <;> rfl) rfl ⟨⟨rfl, cq2, fq⟩, HG.out⟩
set_option maxRecDepth 100000 in
set_option maxHeartbeats 8000000 in
theorem firstNew_impl (u v : Value) (n : Int) (B A : List Lv.E) (w : World) (hu : Lv.View w u B) (hv : Lv.View w v A) (l0 : B.length ≤ 1048576) (l1 : A.length ≤ 1048576) (m0 : (Nb.flat B).length ≤ 1048576) (m1 : (Nb.flat A).length ≤ 1048576) :
    Calls Try.prog 34 #[.agg #[u, v, .int .i64 n]] w fun e w' => e = .returned (.int .i64 (Nb.firstNew B A n)) ∧ Below w.heap.size w w' := by
  obtain ⟨W, hW⟩ : ∃ W, W = w.alloc (.cells #[u, v, .int .i64 n] 28) := ⟨_, rfl⟩
  have b0 : Below w.heap.size w W := by rw [hW]; exact (Below.refl _ _).alloc (Nat.le_refl _) _
  have c0 : W.cell? ⟨w.heap.size, 0, none⟩ = some u := by rw [hW, Fk.cellTop _ _ _ _ _ rfl]; rfl
  have c1 : W.cell? ⟨w.heap.size, 1, none⟩ = some v := by rw [hW, Fk.cellTop _ _ _ _ _ rfl]; rfl
  have c2 : W.cell? ⟨w.heap.size, 2, none⟩ = some (.int .i64 n) := by rw [hW, Fk.cellTop _ _ _ _ _ rfl]; rfl
  have HZ : Hid (w.heap.size < W.heap.size) := by show _ < _; rw [hW]; simp
  have HU := Fk.hide (hu.below b0)
  have HV := Fk.hide (hv.below b0)
  obtain ⟨a0, cap0, rfl⟩ := hu.slice
  obtain ⟨a1, cap1, rfl⟩ := hv.slice
  have HB0 := Fk.hide b0
  have HW := Fk.hide hW
  clear hu hv hW b0
  go_enter Try.func34, Try.ntmps34
  go_wp2_with fail
  rw [← HW.out]
  refine (newRight_impl _ _ _ B A _ HU.out HV.out l0 l1 m0 m1).mono ?_
  rintro e w1 ⟨rfl, k1⟩
  have HB1 : Hid (Below w.heap.size w w1) := HB0.out.trans (k1.mono HB0.out.size)
  have d0 := (k1.cell (p := ⟨w.heap.size, 0, none⟩) (by exact HZ.out)).trans c0
  have d1 := (k1.cell (p := ⟨w.heap.size, 1, none⟩) (by exact HZ.out)).trans c1
  have HU1 := Fk.hide (HU.out.below k1)
  have HV1 := Fk.hide (HV.out.below k1)
  have HZ1 : Hid (w.heap.size < w1.heap.size) := Nat.lt_of_lt_of_le HZ.out k1.size
  obtain ⟨r, hr⟩ : ∃ r, r = Nb.right B A n := ⟨_, rfl⟩
  rw [← hr]
  have HR := Fk.hide hr
  clear hr k1 c0 c1 c2 HU HV
  cases r with
  | false =>
    have HE : Hid (Nb.firstNew B A n = 0) := by show _ = _; unfold Nb.firstNew; rw [← HR.out]; rfl
    go_wp2_with fail
    go_ret
    exact ⟨by rw [HE.out]; rfl, HB1.out⟩
  | true =>
    have HE : Hid (Nb.firstNew B A n = (Nb.flat A).foldl Nb.look ((Nb.flat B).foldl Nb.look 0)) := by
      show _ = _
      unfold Nb.firstNew
      rw [if_pos HR.out.symm]
      exact (Nb.look_both HR.out.symm).symm
    obtain ⟨w2, hw2⟩ : ∃ w2, w2 = w1.alloc (.cells #[.int .i64 0] 2) := ⟨_, rfl⟩
    have b2 : Below w1.heap.size w1 w2 := by rw [hw2]; exact (Below.refl _ _).alloc (Nat.le_refl _) _
    have z2 : w2.cell? ⟨w1.heap.size, 0, none⟩ = some (.int .i64 0) := by rw [hw2, Fk.cellTop _ _ _ _ _ rfl]; rfl
    have zf : w2.frozen? ⟨w1.heap.size, 0, none⟩ = false := by rw [hw2, Fk.frozTop _ _ _ _ _ rfl]
    have HZ2 : Hid (w1.heap.size < w2.heap.size) := by show _ < _; rw [hw2]; simp
    have e0 := (b2.cell (p := ⟨w.heap.size, 0, none⟩) (by exact HZ1.out)).trans d0
    have e1 := (b2.cell (p := ⟨w.heap.size, 1, none⟩) (by exact HZ1.out)).trans d1
    have HU2 := Fk.hide (HU1.out.below b2)
    have HV2 := Fk.hide (HV1.out.below b2)
    have HB2 : Hid (Below w.heap.size w w2) := HB1.out.trans (b2.mono HB1.out.size)
    have HW2 := Fk.hide hw2
    have HB12 := Fk.hide b2
    have le0 : (w1.alloc (.cells #[.int .i64 0] 2)).cell? ⟨w.heap.size, 0, none⟩ = some (.slice a0 B.length cap0) := by rw [← hw2]; exact e0
    clear hw2 b2
    go_wp2_with fail
    rw [← HW2.out]
    obtain ⟨q, hq⟩ : ∃ q, q = w1.heap.size := ⟨_, rfl⟩
    rw [← hq] at z2 zf HZ2 ⊢
    have HQ : Hid (w.heap.size < q) := by show _ < _; rw [hq]; exact HZ1.out
    have HQE : Hid (w1.heap.size ≤ q) := by show _ ≤ _; rw [hq]; exact Nat.le_refl _
    clear hq le0
    refine (look_any _ B q 0 _ HU2.out l0 m0 HZ2.out z2 zf).mono ?_
    rintro e w3 ⟨⟨rfl, z3, zf3⟩, g3⟩
    have hne : ∀ j, (⟨w.heap.size, j, none⟩ : Addr).block < w2.heap.size := fun j => by show w.heap.size < _; have := HQ.out; have := HZ2.out; omega
    have hnq : some w.heap.size ≠ some q := fun e => by have h1 : w.heap.size = q := by simpa using e
                                                        have := HQ.out; omega
    have h1 := g3.cell e1 hnq
    have HB3 : Hid (Below w.heap.size w w3) := HB2.out.grown g3 HB2.out.size (fun j hj => by obtain rfl := Option.some.inj hj; exact Nat.le_of_lt HQ.out)
    have HQ3 : Hid (q < w3.heap.size) := Nat.lt_of_lt_of_le HZ2.out g3.size
    have HV3 : Hid (Lv.View w3 (.slice a1 A.length cap1) A) := HV1.out.below (HB12.out.grown g3 HB12.out.size (fun j hj => by obtain rfl := Option.some.inj hj; exact HQE.out))
    clear g3 z2 zf e0 e1 d0 d1 HU1 HV1 hne
    go_wp2_with fail
    refine (look_any _ A q _ _ HV3.out l1 m1 HQ3.out z3 zf3).mono ?_
    rintro e w4 ⟨⟨rfl, z4, zf4⟩, g4⟩
    have HB4 : Hid (Below w.heap.size w w4) := HB3.out.grown g4 HB3.out.size (fun j hj => by obtain rfl := Option.some.inj hj; exact Nat.le_of_lt HQ.out)
    clear g4 z3 zf3 h1
    go_wp2_with fail
    go_ret
    exact ⟨by rw [HE.out]; rfl, HB4.out⟩
end Go.Proofs.Ytjagohadeegghaa
