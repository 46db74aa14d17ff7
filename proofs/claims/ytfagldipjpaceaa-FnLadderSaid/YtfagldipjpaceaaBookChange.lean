/- The walk of the specification's change: a cancel, a replace. -/
import Derived.Test.YtfagldipjpaceaaJoined5
import Derived.Test.YtfagldipjpaceaaBookCome
import Derived.Test.YtfagldipjpaceaaDoOut
namespace Go.Proofs.Ytfagldipjpaceaa
open Go.RowKit
set_option linter.unusedVariables false
set_option linter.unusedSimpArgs false
theorem Bw.Fr.kind {w w' : World} (h : Bw.Fr w w') {q : Nat} {T : TypeId} (hk : Wq.Kind w q T) (h1 : T ≠ 102) (h2 : T ≠ 48) : Wq.Kind w' q T := by
  obtain ⟨cs, fr, hq⟩ := hk
  exact ⟨cs, fr, (h q cs T fr hq h1 h2).trans hq⟩
theorem Bw.Is.side {w : World} {base b : Nat} {x y z : Value} {X : Dm.Bk} (h : Bw.Is w base b x y z X) (buy : Bool) : Rk.Own Or.S w base 40 (Ob.pick buy x y) (X.side buy) := by cases buy; exact h.two.a; exact h.two.b
theorem Bw.Fr.setNew {w w1 : World} (h : Bw.Fr w w1) {q : Nat} (hq : w.heap.size ≤ q) (i : Nat) (u : Value) : Bw.Fr w (w1.setCell ⟨q, i, none⟩ u) := fun k cs T fr hk h1 h2 =>
  (Below.heap_setCell _ _ _ _ (fun e => by have : k = q := e; have := (Array.getElem?_eq_some_iff.1 hk).1; omega)).trans (h k cs T fr hk h1 h2)
theorem Rk.Own.kind {α : Type} {S : Rk.Shape α} {w : World} {base g n c : Nat} {e : TypeId} {L : List α} (h : Rk.Own S w base e (.slice (some ⟨g, 0, none⟩) n c) L) : Wq.Kind w g e := by
  obtain ⟨_, h1 | ⟨g', cap', cur, hv, _, hg, _⟩⟩ := h
  · cases h1.1
  · simp only [Value.slice.injEq, Option.some.injEq, Addr.mk.injEq] at hv
    obtain ⟨⟨rfl, _⟩, _⟩ := hv
    exact ⟨_, _, hg⟩
theorem Or.vals (o : Or.E) : ∃ x0 x1 x2 x3 x4 x5 x6 x7, o = ((x0, x1, x2, x3, x4, x5, x6, x7) : Or.E) := ⟨_, _, _, _, _, _, _, _, rfl⟩
set_option maxRecDepth 100000 in
set_option maxHeartbeats 16000000 in
theorem bookChange_cancel (base b : Nat) (x y z : Value) (X : Dm.Bk) (owner id : Int) (cbuy : Bool) (price amount life : Int) (post : Bool) (peak : Int) (guard : Bool) (w : World) (hI : Bw.Is w base b x y z X) (hw : base ≤ w.heap.size) (ha : 0 ≤ amount ∧ amount ≤ 100000) (hF : ∀ bb, ∀ o ∈ X.side bb, Dm.Fine o) (hn : ∀ bb, (X.side bb).length ≤ 1000) (he : X.ev.length ≤ 1000) :
    Calls Try.prog 89 #[.pointer (some ⟨b, 0, none⟩), .agg #[.int .i64 3, .int .i64 owner, .int .i64 id, .bool cbuy, .int .i64 price, .int .i64 amount, .int .i64 life, .bool post, .int .i64 peak, .bool guard]] w fun e w' => e = .returned (.int .i64 (Dm.change (⟨3, owner, id, cbuy, price, amount, life, post, peak, guard⟩ : Cm.C) X).1) ∧ (∃ x y z, Bw.Is w' base b x y z (Dm.change (⟨3, owner, id, cbuy, price, amount, life, post, peak, guard⟩ : Cm.C) X).2) ∧ Below base w w' ∧ Bw.Fr w w' := by
  obtain ⟨i0, hi, hz0, hz1, hz2⟩ := info_parts infoOrdS
  obtain ⟨W, hW⟩ : ∃ W, W = w.alloc (.cells #[.int .i64 3, .int .i64 owner, .int .i64 id, .bool cbuy, .int .i64 price, .int .i64 amount, .int .i64 life, .bool post, .int .i64 peak, .bool guard] 27) := ⟨_, rfl⟩
  have bW : Below w.heap.size w W := by rw [hW]; exact (Below.refl _ _).alloc (Nat.le_refl _) _
  have kC0 : Hid (Wq.Kind W w.heap.size 27) := by show Wq.Kind _ _ _; rw [hW]; exact ⟨_, _, heap_alloc_new w _⟩
  have c0_0 : W.cell? ⟨w.heap.size, 0, none⟩ = some (.int .i64 3) := by rw [hW, Fk.cellTop _ _ _ _ _ rfl]; rfl
  have c1_0 : W.cell? ⟨w.heap.size, 1, none⟩ = some (.int .i64 owner) := by rw [hW, Fk.cellTop _ _ _ _ _ rfl]; rfl
  have c2_0 : W.cell? ⟨w.heap.size, 2, none⟩ = some (.int .i64 id) := by rw [hW, Fk.cellTop _ _ _ _ _ rfl]; rfl
  have c4_0 : W.cell? ⟨w.heap.size, 4, none⟩ = some (.int .i64 price) := by rw [hW, Fk.cellTop _ _ _ _ _ rfl]; rfl
  have c5_0 : W.cell? ⟨w.heap.size, 5, none⟩ = some (.int .i64 amount) := by rw [hW, Fk.cellTop _ _ _ _ _ rfl]; rfl
  have HW := Fk.hide hW
  have HWB := Fk.hide hw
  have B0 := Fk.hide (bW.mono hw)
  have F0 := Fk.hide (Bw.Fr.of_below bW)
  have J0 := Fk.hide (hI.below bW)
  have HFN := Fk.hide hF
  have HLN := Fk.hide hn
  have HEV := Fk.hide he
  have HA := Fk.hide ha
  clear hW bW hI hF hn he
  obtain ⟨xa, xn, xc, rfl⟩ := J0.out.two.b.slice'
  obtain ⟨ya, yn, yc, rfl⟩ := J0.out.two.a.slice'
  have HSX : Hid (∃ a n c, Value.slice xa xn xc = .slice a n c) := ⟨_, _, _, rfl⟩
  have HSY : Hid (∃ a n c, Value.slice ya yn yc = .slice a n c) := ⟨_, _, _, rfl⟩
  go_enter Try.func89, Try.ntmps89
  go_wp2_with fail
  rw [← HW.out]
  refine (find_spec b _ _ id X.b X.a W J0.out.kind.lt J0.out.c0 J0.out.c1 J0.out.two.b.view J0.out.two.a.view (by have := HLN.out true; exact Nat.le_trans this (by decide)) (by have := HLN.out false; exact Nat.le_trans this (by decide))).mono ?_
  rintro e w1 ⟨⟨buy, k, rfl, hfd⟩, k1⟩
  have HFD := Fk.hide (Dm.change_found (c := (⟨3, owner, id, cbuy, price, amount, life, post, peak, guard⟩ : Cm.C)) (X := X) hfd)
  clear hfd
  have B1 := Fk.hide (B0.out.trans (k1.mono (Nat.le_trans HWB.out B0.out.size)))
  have F1 := Fk.hide (F0.out.trans (Bw.Fr.of_below k1))
  have J1 := Fk.hide (J0.out.below k1)
  have kC1 : Hid (Wq.Kind w1 w.heap.size 27) := kC0.out.of_block (k1.block _ kC0.out.lt)
  have c0_1 := (k1.cell (p := ⟨w.heap.size, 0, none⟩) (by exact kC0.out.lt)).trans c0_0
  have c1_1 := (k1.cell (p := ⟨w.heap.size, 1, none⟩) (by exact kC0.out.lt)).trans c1_0
  have c2_1 := (k1.cell (p := ⟨w.heap.size, 2, none⟩) (by exact kC0.out.lt)).trans c2_0
  have c4_1 := (k1.cell (p := ⟨w.heap.size, 4, none⟩) (by exact kC0.out.lt)).trans c4_0
  have c5_1 := (k1.cell (p := ⟨w.heap.size, 5, none⟩) (by exact kC0.out.lt)).trans c5_0
  clear k1 c0_0 c1_0 c2_0 c4_0 c5_0 
  clear B0 F0 J0 kC0
  rcases HFD.out with ⟨rfl, hch⟩ | ⟨j, rfl, hj, hch⟩
  · have HE := Fk.hide hch
    clear hch HFD
    go_wp2_with fail
    refine wp_region_quiet_below (by kernel_rfl) (by kernel_rfl) ?_
    repeat (go_big_quiet_step (fail))
    refine wpQuiet_nil ?_
    intro w2 hw'
    obtain ⟨⟨dq, osq⟩, hw''⟩ := hw'
    have kw2 : Below w1.heap.size w1 w2 := by rw [hw'']; exact below_regrown w1 dq osq
    clear hw''
    have B2 := Fk.hide (B1.out.trans (kw2.mono (Nat.le_trans HWB.out B1.out.size)))
    have F2 := Fk.hide (F1.out.trans (Bw.Fr.of_below kw2))
    have J2 := Fk.hide (J1.out.below kw2)
    have kC2 : Hid (Wq.Kind w2 w.heap.size 27) := kC1.out.of_block (kw2.block _ kC1.out.lt)
    have c0_2 := (kw2.cell (p := ⟨w.heap.size, 0, none⟩) (by exact kC1.out.lt)).trans c0_1
    have c1_2 := (kw2.cell (p := ⟨w.heap.size, 1, none⟩) (by exact kC1.out.lt)).trans c1_1
    have c2_2 := (kw2.cell (p := ⟨w.heap.size, 2, none⟩) (by exact kC1.out.lt)).trans c2_1
    have c4_2 := (kw2.cell (p := ⟨w.heap.size, 4, none⟩) (by exact kC1.out.lt)).trans c4_1
    have c5_2 := (kw2.cell (p := ⟨w.heap.size, 5, none⟩) (by exact kC1.out.lt)).trans c5_1
    clear kw2 c0_1 c1_1 c2_1 c4_1 c5_1 
    clear B1 F1 J1 kC1
    go_wp2_with fail
    refine bodyPost_ret (v := .int .i64 6) (by simp [results, Try.results89, go_sem]) rfl ⟨by rw [HE.out], ⟨_, _, _, by rw [HE.out]; exact J2.out⟩, B2.out, F2.out⟩
  have HCH := Fk.hide hch
  clear hch HFD
  obtain ⟨S, hS⟩ : ∃ S, S = X.side buy := ⟨_, rfl⟩
  have HS := Fk.hide hS
  have HSO : Hid (Rk.Own Or.S w1 base 40 (Ob.pick buy (Value.slice xa xn xc) (Value.slice ya yn yc)) S) := by show Rk.Own _ _ _ _ _ _; rw [hS]; exact J1.out.side buy
  have HSL : Hid (S.length ≤ 1000) := by show _ ≤ _; rw [hS]; exact HLN.out buy
  rw [← hS] at hj
  have HFO : Hid (Dm.Fine (Ob.at' S j)) := HFN.out buy _ (by rw [← hS]; exact Rk.at_mem S j hj)
  clear hS
  obtain ⟨gs, ns, cs, hpk, hgb, hgl⟩ : ∃ g n c, Ob.pick buy (Value.slice xa xn xc) (Value.slice ya yn yc) = .slice (some ⟨g, 0, none⟩) n c ∧ base ≤ g ∧ g < w1.heap.size := by
    rcases HSO.out.form with ⟨_, h2⟩ | ⟨g, c, h1, h2, h3⟩
    · rw [h2] at hj; simp at hj
    · exact ⟨g, _, c, h1, h2, h3⟩
  rw [hpk] at HSO
  have HPK := Fk.hide hpk
  obtain rfl := HSO.out.len
  clear hpk
  obtain ⟨x0, x1, x2, x3, x4, x5, x6, x7, hx⟩ := Or.vals (Ob.at' S j)
  have HX := Fk.hide hx
  have HFX : Hid (Dm.Fine (x0, x1, x2, x3, x4, x5, x6, x7)) := by show Dm.Fine _; rw [← hx]; exact HFO.out
  have q1 := Or.o1 HSO.out hj
  rw [show Rk.at_ Or.S S j = (x0, x1, x2, x3, x4, x5, x6, x7) from hx] at q1
  dsimp only at q1
  clear hx HFO
  have FS : Hid (∀ w', Below w1.heap.size w1 w' → Calls Try.prog 46 #[.pointer (some ⟨b, 0, none⟩), .bool buy] w' fun e w'' => e = .returned (.slice (some ⟨gs, 0, none⟩) S.length cs) ∧ Below w'.heap.size w' w'') := fun w' hb => by
    have h := side_any b (Value.slice xa xn xc) (Value.slice ya yn yc) buy w' ((hb.cell (by exact J1.out.kind.lt)).trans J1.out.c0) ((hb.cell (by exact J1.out.kind.lt)).trans J1.out.c1) HSX.out HSY.out
    rw [HPK.out] at h
    exact h.mono fun e w'' ⟨h1, h2⟩ => ⟨h1, by rw [h2]; exact Below.refl _ _⟩
  by_cases how : ¬ x1 = owner
  · have HE : Hid (Dm.change (⟨3, owner, id, cbuy, price, amount, life, post, peak, guard⟩ : Cm.C) X = (6, X)) := by show _ = _; rw [HCH.out, Dm.changeAt_no (o := (x0, x1, x2, x3, x4, x5, x6, x7)) (by rw [← HS.out]; exact HX.out) how]
    have ho1 : (x1 == owner) = false := by simpa using how
    have ho2 : (x1 != owner) = true := by simpa using how
    have r0 := cell_regrown q1
    have r1 := cell_regrown c1_1
    have jn : ¬ ((j : Int) < 0) := by omega
    have jd : decide ((j : Int) < 0) = false := decide_eq_false jn
    have jl : (j : Int) < (S.length : Int) := by omega
    have jt : ((j : Int)).toNat = j := by simp
    have j0 : (0 : Int) ≤ (j : Int) := by omega
    go_wp2_with fail
    refine wp_region_quiet_below (by kernel_rfl) (by kernel_rfl) ?_
    repeat (go_big_quiet_step (first | (go_at_call 46; exact Calls.regrown_of (FS.out _ (below_regrown _ _ _)))))
    refine wpQuiet_nil ?_
    intro w2 hw'
    obtain ⟨⟨dq, osq⟩, hw''⟩ := hw'
    have kw2 : Below w1.heap.size w1 w2 := by rw [hw'']; exact below_regrown w1 dq osq
    clear hw''
    have B2 := Fk.hide (B1.out.trans (kw2.mono (Nat.le_trans HWB.out B1.out.size)))
    have F2 := Fk.hide (F1.out.trans (Bw.Fr.of_below kw2))
    have J2 := Fk.hide (J1.out.below kw2)
    have kC2 : Hid (Wq.Kind w2 w.heap.size 27) := kC1.out.of_block (kw2.block _ kC1.out.lt)
    have c0_2 := (kw2.cell (p := ⟨w.heap.size, 0, none⟩) (by exact kC1.out.lt)).trans c0_1
    have c1_2 := (kw2.cell (p := ⟨w.heap.size, 1, none⟩) (by exact kC1.out.lt)).trans c1_1
    have c2_2 := (kw2.cell (p := ⟨w.heap.size, 2, none⟩) (by exact kC1.out.lt)).trans c2_1
    have c4_2 := (kw2.cell (p := ⟨w.heap.size, 4, none⟩) (by exact kC1.out.lt)).trans c4_1
    have c5_2 := (kw2.cell (p := ⟨w.heap.size, 5, none⟩) (by exact kC1.out.lt)).trans c5_1
    clear kw2 c0_1 c1_1 c2_1 c4_1 c5_1 
    clear B1 F1 J1 kC1
    clear r0 r1
    go_wp2_with fail
    refine bodyPost_ret (v := .int .i64 6) (by simp [results, Try.results89, go_sem]) rfl ⟨by rw [HE.out], ⟨_, _, _, by rw [HE.out]; exact J2.out⟩, B2.out, F2.out⟩
  obtain rfl : x1 = owner := Decidable.of_not_not how
  clear how
  have ho1 : (x1 == x1) = true := by simp
  have ho2 : (x1 != x1) = false := by simp
  have r0 := cell_regrown q1
  have r1 := cell_regrown c1_1
  have jn : ¬ ((j : Int) < 0) := by omega
  have jd : decide ((j : Int) < 0) = false := decide_eq_false jn
  have jl : (j : Int) < (S.length : Int) := by omega
  have jt : ((j : Int)).toNat = j := by simp
  have j0 : (0 : Int) ≤ (j : Int) := by omega
  go_wp2_with fail
  refine wp_region_quiet_below (by kernel_rfl) (by kernel_rfl) ?_
  repeat (go_big_quiet_step (first | (go_at_call 46; exact Calls.regrown_of (FS.out _ (below_regrown _ _ _)))))
  refine wpQuiet_nil ?_
  intro w2 hw'
  obtain ⟨⟨dq, osq⟩, hw''⟩ := hw'
  have kw2 : Below w1.heap.size w1 w2 := by rw [hw'']; exact below_regrown w1 dq osq
  clear hw''
  have HSO2 := Fk.hide (HSO.out.below kw2)
  clear r0 r1 q1 ho1 ho2
  have B2 := Fk.hide (B1.out.trans (kw2.mono (Nat.le_trans HWB.out B1.out.size)))
  have F2 := Fk.hide (F1.out.trans (Bw.Fr.of_below kw2))
  have J2 := Fk.hide (J1.out.below kw2)
  have kC2 : Hid (Wq.Kind w2 w.heap.size 27) := kC1.out.of_block (kw2.block _ kC1.out.lt)
  have c0_2 := (kw2.cell (p := ⟨w.heap.size, 0, none⟩) (by exact kC1.out.lt)).trans c0_1
  have c1_2 := (kw2.cell (p := ⟨w.heap.size, 1, none⟩) (by exact kC1.out.lt)).trans c1_1
  have c2_2 := (kw2.cell (p := ⟨w.heap.size, 2, none⟩) (by exact kC1.out.lt)).trans c2_1
  have c4_2 := (kw2.cell (p := ⟨w.heap.size, 4, none⟩) (by exact kC1.out.lt)).trans c4_1
  have c5_2 := (kw2.cell (p := ⟨w.heap.size, 5, none⟩) (by exact kC1.out.lt)).trans c5_1
  clear kw2 c0_1 c1_1 c2_1 c4_1 c5_1 
  clear B1 F1 J1 kC1
  have hgl2 : gs < w2.heap.size := (HSO2.out.lt gs rfl).2
  obtain ⟨W3, hW3⟩ : ∃ W, W = w2.alloc (.cells #[] 40) := ⟨_, rfl⟩
  have k3 : Below w2.heap.size w2 W3 := by rw [hW3]; exact (Below.refl _ _).alloc (Nat.le_refl _) _
  have hM : Hid (Rk.Own Or.S W3 w2.heap.size 40 (.slice (some ⟨w2.heap.size, 0, none⟩) 0 0) []) := by show Rk.Own _ _ _ _ _ _; rw [hW3]; exact Rk.own_empty _ _ _ (Nat.le_refl _)
  have HSO3 := Fk.hide (HSO2.out.below k3)
  have HZ3 : Hid (w2.heap.size ≤ W3.heap.size) := k3.size
  have HX1 : Hid (∀ k, Value.ownBlock (Value.slice xa xn xc) = some k → k < w2.heap.size) := fun k hk => (J2.out.two.b.lt k hk).2
  have HX2 : Hid (∀ k, Value.ownBlock (Value.slice ya yn yc) = some k → k < w2.heap.size) := fun k hk => (J2.out.two.a.lt k hk).2
  have HB2b : Hid (b < w2.heap.size) := J2.out.kind.lt
  have HB2s : Hid (base ≤ w2.heap.size) := Nat.le_trans HWB.out B2.out.size
  have HC2b : Hid (w.heap.size < w2.heap.size) := kC2.out.lt
  have HW3 := Fk.hide hW3
  clear hW3
  have HK3 := Fk.hide k3
  have J3b := Fk.hide (J2.out.below k3)
  clear k3
  obtain ⟨q2, hq2⟩ : ∃ q, q = w2.heap.size := ⟨_, rfl⟩
  have HQ2 := Fk.hide hq2
  have i0_3 := J3b.out.c0
  have i1_3 := J3b.out.c1
  go_wp2_with fail
  rw [← HW3.out]
  refine (side_any b (Value.slice xa xn xc) (Value.slice ya yn yc) buy W3 J3b.out.c0 J3b.out.c1 HSX.out HSY.out).mono ?_
  rintro e w3' ⟨rfl, hw3⟩
  obtain rfl := hw3.symm
  rw [HPK.out]
  clear i0_3 i1_3
  rw [← hq2] at hM HX1 HX2 HB2b HC2b HZ3 HB2s hgl2
  clear hq2
  have HL0 : Hid (∀ w4 : World, Below w2.heap.size w2 w4 → (w4.alloc (.cells #[.int .i64 x0, .int .i64 x1, .int .i64 x2, .int .i64 x3, .bool x4, .int .i64 x5, .int .i64 x6, .bool x7] 40)).cell? ⟨w.heap.size, 0, none⟩ = some (.int .i64 3)) := fun w4 k4 => by rw [Fk.cellOld _ _ _ _ (Nat.lt_of_lt_of_le kC2.out.lt k4.size)]; exact (k4.cell (p := ⟨w.heap.size, 0, none⟩) (by exact kC2.out.lt)).trans c0_2
  have HL1 : Hid (∀ w4 : World, Below w2.heap.size w2 w4 → (w4.alloc (.cells #[.int .i64 x0, .int .i64 x1, .int .i64 x2, .int .i64 x3, .bool x4, .int .i64 x5, .int .i64 x6, .bool x7] 40)).cell? ⟨w.heap.size, 1, none⟩ = some (.int .i64 x1)) := fun w4 k4 => by rw [Fk.cellOld _ _ _ _ (Nat.lt_of_lt_of_le kC2.out.lt k4.size)]; exact (k4.cell (p := ⟨w.heap.size, 1, none⟩) (by exact kC2.out.lt)).trans c1_2
  have HL2 : Hid (∀ w4 : World, Below w2.heap.size w2 w4 → (w4.alloc (.cells #[.int .i64 x0, .int .i64 x1, .int .i64 x2, .int .i64 x3, .bool x4, .int .i64 x5, .int .i64 x6, .bool x7] 40)).cell? ⟨w.heap.size, 2, none⟩ = some (.int .i64 id)) := fun w4 k4 => by rw [Fk.cellOld _ _ _ _ (Nat.lt_of_lt_of_le kC2.out.lt k4.size)]; exact (k4.cell (p := ⟨w.heap.size, 2, none⟩) (by exact kC2.out.lt)).trans c2_2
  have HL4 : Hid (∀ w4 : World, Below w2.heap.size w2 w4 → (w4.alloc (.cells #[.int .i64 x0, .int .i64 x1, .int .i64 x2, .int .i64 x3, .bool x4, .int .i64 x5, .int .i64 x6, .bool x7] 40)).cell? ⟨w.heap.size, 4, none⟩ = some (.int .i64 price)) := fun w4 k4 => by rw [Fk.cellOld _ _ _ _ (Nat.lt_of_lt_of_le kC2.out.lt k4.size)]; exact (k4.cell (p := ⟨w.heap.size, 4, none⟩) (by exact kC2.out.lt)).trans c4_2
  have HL5 : Hid (∀ w4 : World, Below w2.heap.size w2 w4 → (w4.alloc (.cells #[.int .i64 x0, .int .i64 x1, .int .i64 x2, .int .i64 x3, .bool x4, .int .i64 x5, .int .i64 x6, .bool x7] 40)).cell? ⟨w.heap.size, 5, none⟩ = some (.int .i64 amount)) := fun w4 k4 => by rw [Fk.cellOld _ _ _ _ (Nat.lt_of_lt_of_le kC2.out.lt k4.size)]; exact (k4.cell (p := ⟨w.heap.size, 5, none⟩) (by exact kC2.out.lt)).trans c5_2
  obtain ⟨⟨hf1, hf2⟩, ⟨hf3, hf4⟩, ⟨hf5, hf6⟩, _⟩ := HFX.out
  dsimp only at hf1 hf2 hf3 hf4 hf5 hf6
  go_wp2_with (at_builtin; refine Rk.wpList_append_new _ rfl _ _ 23 rfl q2 40 i0 _ 8 64 rfl Try.underlying23 hi hz0 hz1 hz2 rfl (by decide) q2 0 0 (.slice (some ⟨gs, 0, none⟩) S.length cs) [] S (by rw [HQ2.out]; rfl) rfl hM.out HSO3.out.view (Rk.shut_some _ _ _) (by have := HSL.out; simp; omega) HZ3.out ?_; intro u4 w4 o4 g4 ne4; rw [List.nil_append] at o4; obtain ⟨gl, lc, rfl, hgl4⟩ : ∃ g c, u4 = .slice (some ⟨g, 0, none⟩) S.length c ∧ q2 ≤ g := o4.form.elim (fun h => absurd hj (by rw [h.2]; simp)) (fun ⟨g, c, h1, h3, _⟩ => ⟨g, c, h1, h3⟩); have O4 := Fk.hide o4; have k4 : Below w2.heap.size w2 w4 := HK3.out.grown g4 HK3.out.size (fun k hk => by cases hk; exact Nat.le_of_eq HQ2.out.symm); have HGL := Fk.hide hgl4; clear o4 g4 ne4 hgl4; have p_ := Or.o0 O4.out hj; have p_1 := Or.o1 O4.out hj; have p_2 := Or.o2 O4.out hj; have p_3 := Or.o3 O4.out hj; have p_4 := Or.o4 O4.out hj; have p_5 := Or.o5 O4.out hj; have p_6 := Or.o6 O4.out hj; have p_7 := Or.o7 O4.out hj; have hx := HX.out; rw [show Rk.at_ Or.S S j = (x0, x1, x2, x3, x4, x5, x6, x7) from hx] at p_ p_1 p_2 p_3 p_4 p_5 p_6 p_7; dsimp only at p_ p_1 p_2 p_3 p_4 p_5 p_6 p_7; clear hx; have l0 := HL0.out w4 k4; have l1 := HL1.out w4 k4; have l2 := HL2.out w4 k4; have l4 := HL4.out w4 k4; have l5 := HL5.out w4 k4)
  obtain ⟨W5, hW5⟩ : ∃ W, W = (w4.alloc (.cells #[.int .i64 x0, .int .i64 x1, .int .i64 x2, .int .i64 x3, .bool x4, .int .i64 x5, .int .i64 x6, .bool x7] 40)) := ⟨_, rfl⟩
  rw [← hW5]
  have k45 : Below w2.heap.size w2 W5 := by rw [hW5]; exact k4.alloc k4.size _
  have kO3 : Hid (Wq.Kind W5 w4.heap.size 40) := by show Wq.Kind _ _ _; rw [hW5]; exact ⟨_, _, heap_alloc_new w4 _⟩
  have p0_3 : W5.cell? ⟨w4.heap.size, 0, none⟩ = some (.int .i64 x0) := by rw [hW5, Fk.cellTop _ _ _ _ _ rfl]; rfl
  have p1_3 : W5.cell? ⟨w4.heap.size, 1, none⟩ = some (.int .i64 x1) := by rw [hW5, Fk.cellTop _ _ _ _ _ rfl]; rfl
  have p2_3 : W5.cell? ⟨w4.heap.size, 2, none⟩ = some (.int .i64 x2) := by rw [hW5, Fk.cellTop _ _ _ _ _ rfl]; rfl
  have p3_3 : W5.cell? ⟨w4.heap.size, 3, none⟩ = some (.int .i64 x3) := by rw [hW5, Fk.cellTop _ _ _ _ _ rfl]; rfl
  have p4_3 : W5.cell? ⟨w4.heap.size, 4, none⟩ = some (.bool x4) := by rw [hW5, Fk.cellTop _ _ _ _ _ rfl]; rfl
  have p5_3 : W5.cell? ⟨w4.heap.size, 5, none⟩ = some (.int .i64 x5) := by rw [hW5, Fk.cellTop _ _ _ _ _ rfl]; rfl
  have p6_3 : W5.cell? ⟨w4.heap.size, 6, none⟩ = some (.int .i64 x6) := by rw [hW5, Fk.cellTop _ _ _ _ _ rfl]; rfl
  have p7_3 : W5.cell? ⟨w4.heap.size, 7, none⟩ = some (.bool x7) := by rw [hW5, Fk.cellTop _ _ _ _ _ rfl]; rfl
  have O3 : Hid (Rk.Own Or.S W5 q2 40 (.slice (some ⟨gl, 0, none⟩) S.length lc) S) := by show Rk.Own _ _ _ _ _ _; rw [hW5]; exact O4.out.below ((Below.refl _ _).alloc (Nat.le_refl _) _)
  have HFZ5 : Hid (∀ i, W5.frozen? ⟨w4.heap.size, i, none⟩ = false) := fun i => by rw [hW5, Fk.frozTop _ _ _ _ _ rfl]
  have HGLW : Hid (gl < w4.heap.size) := (O4.out.lt gl rfl).2
  have HQOW : Hid (w.heap.size < w4.heap.size) := Nat.lt_of_lt_of_le kC2.out.lt k4.size
  have HQOB : Hid (base ≤ w4.heap.size) := Nat.le_trans HWB.out (Nat.le_of_lt HQOW.out)
  clear hW5 k4 O4
  clear HL0 HL1 HL2 HL4 HL5
  clear l0 l1 l2 l4 l5 p_ p_1 p_2 p_3 p_4 p_5 p_6 p_7
  have B3 := Fk.hide (B2.out.trans (k45.mono (Nat.le_trans HWB.out B2.out.size)))
  have F3 := Fk.hide (F2.out.trans (Bw.Fr.of_below k45))
  have J3 := Fk.hide (J2.out.below k45)
  have kC3 : Hid (Wq.Kind W5 w.heap.size 27) := kC2.out.of_block (k45.block _ kC2.out.lt)
  have c0_3 := (k45.cell (p := ⟨w.heap.size, 0, none⟩) (by exact kC2.out.lt)).trans c0_2
  have c1_3 := (k45.cell (p := ⟨w.heap.size, 1, none⟩) (by exact kC2.out.lt)).trans c1_2
  have c2_3 := (k45.cell (p := ⟨w.heap.size, 2, none⟩) (by exact kC2.out.lt)).trans c2_2
  have c4_3 := (k45.cell (p := ⟨w.heap.size, 4, none⟩) (by exact kC2.out.lt)).trans c4_2
  have c5_3 := (k45.cell (p := ⟨w.heap.size, 5, none⟩) (by exact kC2.out.lt)).trans c5_2
  clear k45 c0_2 c1_2 c2_2 c4_2 c5_2 
  clear B2 F2 J2 kC2
  obtain ⟨qo, hqo⟩ : ∃ q, q = w4.heap.size := ⟨_, rfl⟩
  rw [← hqo]
  rw [← hqo] at kO3 HGLW HFZ5 HQOW HQOB p0_3 p1_3 p2_3 p3_3 p4_3 p5_3 p6_3 p7_3
  clear hqo
  obtain ⟨cs5, fr5, hq5⟩ := kO3.out
  have HQ5 := Fk.hide hq5
  clear hq5
  have G3 := Fk.hide (Bw.Fr.refl W5)
  have HQW : Hid (q2 ≤ W5.heap.size) := by show _ ≤ _; have := kO3.out.lt; have := HGL.out; have := HGLW.out; omega
  have HLO : Hid (S.length ≤ 100000) := Nat.le_trans HSL.out (by decide)
  refine (l06Out_any gl lc S j q2 W5 O3.out HLO.out hj).mono ?_
  rintro e w6 ⟨⟨u6, rfl, o6⟩, k6⟩
  have HAP : Hid (∀ k, u6.ownBlock = some k → (Ob.pick buy (Value.slice ya yn yc) (Value.slice xa xn xc)).ownBlock ≠ some k) := Bw.apart buy (fun k hk => by have h1 := HX1.out k hk; have h2 := (O3.out.lt gl rfl).2; have h3 := HGL.out; omega) (fun k hk => by have h1 := HX2.out k hk; have h2 := (O3.out.lt gl rfl).2; have h3 := HGL.out; omega) o6
  obtain ⟨ua, un, uc, rfl⟩ := o6.slice'
  have HUQ : Hid (∀ k, Value.ownBlock (.slice ua un uc) = some k → k ≠ qo) := fun k hk e => by have h1 := (o6.lt k hk).1; have h2 := kO3.out.lt; omega
  have HO6 : Hid (Rk.Own Or.S w6 base 40 (.slice ua un uc) (Dm.out S j)) := o6.mono (Nat.le_trans HWB.out B3.out.size)
  clear o6
  have B4 := Fk.hide (B3.out.trans (k6.mono (Nat.le_trans HWB.out B3.out.size)))
  have F4 := Fk.hide (F3.out.trans (Bw.Fr.of_below k6))
  have J4 := Fk.hide (J3.out.below k6)
  have kC4 : Hid (Wq.Kind w6 w.heap.size 27) := kC3.out.of_block (k6.block _ kC3.out.lt)
  have c0_4 := (k6.cell (p := ⟨w.heap.size, 0, none⟩) (by exact kC3.out.lt)).trans c0_3
  have c1_4 := (k6.cell (p := ⟨w.heap.size, 1, none⟩) (by exact kC3.out.lt)).trans c1_3
  have c2_4 := (k6.cell (p := ⟨w.heap.size, 2, none⟩) (by exact kC3.out.lt)).trans c2_3
  have c4_4 := (k6.cell (p := ⟨w.heap.size, 4, none⟩) (by exact kC3.out.lt)).trans c4_3
  have c5_4 := (k6.cell (p := ⟨w.heap.size, 5, none⟩) (by exact kC3.out.lt)).trans c5_3
  have O4 := Fk.hide (O3.out.below k6)
  have G4 := Fk.hide (G3.out.trans (Bw.Fr.of_below k6))
  have kO4 : Hid (Wq.Kind w6 qo 40) := kO3.out.of_block (k6.block _ kO3.out.lt)
  have p0_4 := (k6.cell (p := ⟨qo, 0, none⟩) (by exact kO3.out.lt)).trans p0_3
  have p1_4 := (k6.cell (p := ⟨qo, 1, none⟩) (by exact kO3.out.lt)).trans p1_3
  have p2_4 := (k6.cell (p := ⟨qo, 2, none⟩) (by exact kO3.out.lt)).trans p2_3
  have p3_4 := (k6.cell (p := ⟨qo, 3, none⟩) (by exact kO3.out.lt)).trans p3_3
  have p4_4 := (k6.cell (p := ⟨qo, 4, none⟩) (by exact kO3.out.lt)).trans p4_3
  have p5_4 := (k6.cell (p := ⟨qo, 5, none⟩) (by exact kO3.out.lt)).trans p5_3
  have p6_4 := (k6.cell (p := ⟨qo, 6, none⟩) (by exact kO3.out.lt)).trans p6_3
  have p7_4 := (k6.cell (p := ⟨qo, 7, none⟩) (by exact kO3.out.lt)).trans p7_3
  clear k6 c0_3 c1_3 c2_3 c4_3 c5_3 p0_3 p1_3 p2_3 p3_3 p4_3 p5_3 p6_3 p7_3
  clear B3 F3 J3 kC3 O3 kO3
  go_wp2_with fail
  refine (bookPut_any base b _ _ _ _ X (Dm.out S j) buy w6 J4.out (Nat.le_trans HWB.out B4.out.size) HO6.out HAP.out).mono ?_
  rintro e w7 ⟨rfl, JJ, BB, FF⟩
  have B5 := Fk.hide (B4.out.trans BB)
  have F5 := Fk.hide (F4.out.trans FF)
  have J5 := Fk.hide JJ
  have kC5 : Hid (Wq.Kind w7 w.heap.size 27) := FF.kind kC4.out (by decide) (by decide)
  have c0_5 := (FF.cell (j := 0) kC4.out (by decide) (by decide)).trans c0_4
  have c1_5 := (FF.cell (j := 1) kC4.out (by decide) (by decide)).trans c1_4
  have c2_5 := (FF.cell (j := 2) kC4.out (by decide) (by decide)).trans c2_4
  have c4_5 := (FF.cell (j := 4) kC4.out (by decide) (by decide)).trans c4_4
  have c5_5 := (FF.cell (j := 5) kC4.out (by decide) (by decide)).trans c5_4
  have O5 := Fk.hide (FF.own O4.out (by decide) (by decide))
  have G5 := Fk.hide (G4.out.trans FF)
  have kO5 : Hid (Wq.Kind w7 qo 40) := FF.kind kO4.out (by decide) (by decide)
  have p0_5 := (FF.cell (j := 0) kO4.out (by decide) (by decide)).trans p0_4
  have p1_5 := (FF.cell (j := 1) kO4.out (by decide) (by decide)).trans p1_4
  have p2_5 := (FF.cell (j := 2) kO4.out (by decide) (by decide)).trans p2_4
  have p3_5 := (FF.cell (j := 3) kO4.out (by decide) (by decide)).trans p3_4
  have p4_5 := (FF.cell (j := 4) kO4.out (by decide) (by decide)).trans p4_4
  have p5_5 := (FF.cell (j := 5) kO4.out (by decide) (by decide)).trans p5_4
  have p6_5 := (FF.cell (j := 6) kO4.out (by decide) (by decide)).trans p6_4
  have p7_5 := (FF.cell (j := 7) kO4.out (by decide) (by decide)).trans p7_4
  clear BB FF c0_4 c1_4 c2_4 c4_4 c5_4 p0_4 p1_4 p2_4 p3_4 p4_4 p5_4 p6_4 p7_4
  clear B4 F4 J4 kC4 O4 kO4
  clear HAP HO6 JJ
  go_wp2_with fail
  refine (bookTell_any base b _ _ _ (X.put buy (Dm.out S j)) 3 x0 0 0 (x3 + x6) w7 J5.out (Nat.le_trans HWB.out B5.out.size) (by rw [Dm.ev_put]; have := HEV.out; omega)).mono ?_
  rintro e w8 ⟨rfl, ⟨z8, JJ⟩, BB, FF⟩
  have B6 := Fk.hide (B5.out.trans BB)
  have F6 := Fk.hide (F5.out.trans FF)
  have J6 := Fk.hide JJ
  have kC6 : Hid (Wq.Kind w8 w.heap.size 27) := FF.kind kC5.out (by decide) (by decide)
  have c0_6 := (FF.cell (j := 0) kC5.out (by decide) (by decide)).trans c0_5
  have c1_6 := (FF.cell (j := 1) kC5.out (by decide) (by decide)).trans c1_5
  have c2_6 := (FF.cell (j := 2) kC5.out (by decide) (by decide)).trans c2_5
  have c4_6 := (FF.cell (j := 4) kC5.out (by decide) (by decide)).trans c4_5
  have c5_6 := (FF.cell (j := 5) kC5.out (by decide) (by decide)).trans c5_5
  have O6 := Fk.hide (FF.own O5.out (by decide) (by decide))
  have G6 := Fk.hide (G5.out.trans FF)
  have kO6 : Hid (Wq.Kind w8 qo 40) := FF.kind kO5.out (by decide) (by decide)
  have p0_6 := (FF.cell (j := 0) kO5.out (by decide) (by decide)).trans p0_5
  have p1_6 := (FF.cell (j := 1) kO5.out (by decide) (by decide)).trans p1_5
  have p2_6 := (FF.cell (j := 2) kO5.out (by decide) (by decide)).trans p2_5
  have p3_6 := (FF.cell (j := 3) kO5.out (by decide) (by decide)).trans p3_5
  have p4_6 := (FF.cell (j := 4) kO5.out (by decide) (by decide)).trans p4_5
  have p5_6 := (FF.cell (j := 5) kO5.out (by decide) (by decide)).trans p5_5
  have p6_6 := (FF.cell (j := 6) kO5.out (by decide) (by decide)).trans p6_5
  have p7_6 := (FF.cell (j := 7) kO5.out (by decide) (by decide)).trans p7_5
  clear BB FF c0_5 c1_5 c2_5 c4_5 c5_5 p0_5 p1_5 p2_5 p3_5 p4_5 p5_5 p6_5 p7_5
  clear B5 F5 J5 kC5 O5 kO5
  clear JJ
  have HE : Hid (Dm.change (⟨3, x1, id, cbuy, price, amount, life, post, peak, guard⟩ : Cm.C) X = (0, (X.put buy (Dm.out S j)).tell (3, x0, 0, 0, x3 + x6))) := by show _ = _; rw [HCH.out, Dm.changeAt_cancel (o := (x0, x1, x2, x3, x4, x5, x6, x7)) (by rw [← HS.out]; exact HX.out) rfl rfl, ← HS.out]; rfl
  go_wp2_with fail
  refine bodyPost_ret (v := .int .i64 0) (by simp [results, Try.results89, go_sem]) rfl ⟨by rw [HE.out], ⟨_, _, _, by rw [HE.out]; exact J6.out⟩, B6.out, F6.out⟩
set_option maxRecDepth 100000 in
set_option maxHeartbeats 16000000 in
theorem bookChange_replace (base b : Nat) (x y z : Value) (X : Dm.Bk) (owner id : Int) (cbuy : Bool) (price amount life : Int) (post : Bool) (peak : Int) (guard : Bool) (w : World) (hI : Bw.Is w base b x y z X) (hw : base ≤ w.heap.size) (ha : 0 ≤ amount ∧ amount ≤ 100000) (hF : ∀ bb, ∀ o ∈ X.side bb, Dm.Fine o) (hn : ∀ bb, (X.side bb).length ≤ 1000) (he : X.ev.length ≤ 1000) :
    Calls Try.prog 89 #[.pointer (some ⟨b, 0, none⟩), .agg #[.int .i64 4, .int .i64 owner, .int .i64 id, .bool cbuy, .int .i64 price, .int .i64 amount, .int .i64 life, .bool post, .int .i64 peak, .bool guard]] w fun e w' => e = .returned (.int .i64 (Dm.change (⟨4, owner, id, cbuy, price, amount, life, post, peak, guard⟩ : Cm.C) X).1) ∧ (∃ x y z, Bw.Is w' base b x y z (Dm.change (⟨4, owner, id, cbuy, price, amount, life, post, peak, guard⟩ : Cm.C) X).2) ∧ Below base w w' ∧ Bw.Fr w w' := by
  obtain ⟨i0, hi, hz0, hz1, hz2⟩ := info_parts infoOrdS
  obtain ⟨W, hW⟩ : ∃ W, W = w.alloc (.cells #[.int .i64 4, .int .i64 owner, .int .i64 id, .bool cbuy, .int .i64 price, .int .i64 amount, .int .i64 life, .bool post, .int .i64 peak, .bool guard] 27) := ⟨_, rfl⟩
  have bW : Below w.heap.size w W := by rw [hW]; exact (Below.refl _ _).alloc (Nat.le_refl _) _
  have kC0 : Hid (Wq.Kind W w.heap.size 27) := by show Wq.Kind _ _ _; rw [hW]; exact ⟨_, _, heap_alloc_new w _⟩
  have c0_0 : W.cell? ⟨w.heap.size, 0, none⟩ = some (.int .i64 4) := by rw [hW, Fk.cellTop _ _ _ _ _ rfl]; rfl
  have c1_0 : W.cell? ⟨w.heap.size, 1, none⟩ = some (.int .i64 owner) := by rw [hW, Fk.cellTop _ _ _ _ _ rfl]; rfl
  have c2_0 : W.cell? ⟨w.heap.size, 2, none⟩ = some (.int .i64 id) := by rw [hW, Fk.cellTop _ _ _ _ _ rfl]; rfl
  have c4_0 : W.cell? ⟨w.heap.size, 4, none⟩ = some (.int .i64 price) := by rw [hW, Fk.cellTop _ _ _ _ _ rfl]; rfl
  have c5_0 : W.cell? ⟨w.heap.size, 5, none⟩ = some (.int .i64 amount) := by rw [hW, Fk.cellTop _ _ _ _ _ rfl]; rfl
  have HW := Fk.hide hW
  have HWB := Fk.hide hw
  have B0 := Fk.hide (bW.mono hw)
  have F0 := Fk.hide (Bw.Fr.of_below bW)
  have J0 := Fk.hide (hI.below bW)
  have HFN := Fk.hide hF
  have HLN := Fk.hide hn
  have HEV := Fk.hide he
  have HA := Fk.hide ha
  clear hW bW hI hF hn he
  obtain ⟨xa, xn, xc, rfl⟩ := J0.out.two.b.slice'
  obtain ⟨ya, yn, yc, rfl⟩ := J0.out.two.a.slice'
  have HSX : Hid (∃ a n c, Value.slice xa xn xc = .slice a n c) := ⟨_, _, _, rfl⟩
  have HSY : Hid (∃ a n c, Value.slice ya yn yc = .slice a n c) := ⟨_, _, _, rfl⟩
  go_enter Try.func89, Try.ntmps89
  go_wp2_with fail
  rw [← HW.out]
  refine (find_spec b _ _ id X.b X.a W J0.out.kind.lt J0.out.c0 J0.out.c1 J0.out.two.b.view J0.out.two.a.view (by have := HLN.out true; exact Nat.le_trans this (by decide)) (by have := HLN.out false; exact Nat.le_trans this (by decide))).mono ?_
  rintro e w1 ⟨⟨buy, k, rfl, hfd⟩, k1⟩
  have HFD := Fk.hide (Dm.change_found (c := (⟨4, owner, id, cbuy, price, amount, life, post, peak, guard⟩ : Cm.C)) (X := X) hfd)
  clear hfd
  have B1 := Fk.hide (B0.out.trans (k1.mono (Nat.le_trans HWB.out B0.out.size)))
  have F1 := Fk.hide (F0.out.trans (Bw.Fr.of_below k1))
  have J1 := Fk.hide (J0.out.below k1)
  have kC1 : Hid (Wq.Kind w1 w.heap.size 27) := kC0.out.of_block (k1.block _ kC0.out.lt)
  have c0_1 := (k1.cell (p := ⟨w.heap.size, 0, none⟩) (by exact kC0.out.lt)).trans c0_0
  have c1_1 := (k1.cell (p := ⟨w.heap.size, 1, none⟩) (by exact kC0.out.lt)).trans c1_0
  have c2_1 := (k1.cell (p := ⟨w.heap.size, 2, none⟩) (by exact kC0.out.lt)).trans c2_0
  have c4_1 := (k1.cell (p := ⟨w.heap.size, 4, none⟩) (by exact kC0.out.lt)).trans c4_0
  have c5_1 := (k1.cell (p := ⟨w.heap.size, 5, none⟩) (by exact kC0.out.lt)).trans c5_0
  clear k1 c0_0 c1_0 c2_0 c4_0 c5_0 
  clear B0 F0 J0 kC0
  rcases HFD.out with ⟨rfl, hch⟩ | ⟨j, rfl, hj, hch⟩
  · have HE := Fk.hide hch
    clear hch HFD
    go_wp2_with fail
    refine wp_region_quiet_below (by kernel_rfl) (by kernel_rfl) ?_
    repeat (go_big_quiet_step (fail))
    refine wpQuiet_nil ?_
    intro w2 hw'
    obtain ⟨⟨dq, osq⟩, hw''⟩ := hw'
    have kw2 : Below w1.heap.size w1 w2 := by rw [hw'']; exact below_regrown w1 dq osq
    clear hw''
    have B2 := Fk.hide (B1.out.trans (kw2.mono (Nat.le_trans HWB.out B1.out.size)))
    have F2 := Fk.hide (F1.out.trans (Bw.Fr.of_below kw2))
    have J2 := Fk.hide (J1.out.below kw2)
    have kC2 : Hid (Wq.Kind w2 w.heap.size 27) := kC1.out.of_block (kw2.block _ kC1.out.lt)
    have c0_2 := (kw2.cell (p := ⟨w.heap.size, 0, none⟩) (by exact kC1.out.lt)).trans c0_1
    have c1_2 := (kw2.cell (p := ⟨w.heap.size, 1, none⟩) (by exact kC1.out.lt)).trans c1_1
    have c2_2 := (kw2.cell (p := ⟨w.heap.size, 2, none⟩) (by exact kC1.out.lt)).trans c2_1
    have c4_2 := (kw2.cell (p := ⟨w.heap.size, 4, none⟩) (by exact kC1.out.lt)).trans c4_1
    have c5_2 := (kw2.cell (p := ⟨w.heap.size, 5, none⟩) (by exact kC1.out.lt)).trans c5_1
    clear kw2 c0_1 c1_1 c2_1 c4_1 c5_1 
    clear B1 F1 J1 kC1
    go_wp2_with fail
    refine bodyPost_ret (v := .int .i64 6) (by simp [results, Try.results89, go_sem]) rfl ⟨by rw [HE.out], ⟨_, _, _, by rw [HE.out]; exact J2.out⟩, B2.out, F2.out⟩
  have HCH := Fk.hide hch
  clear hch HFD
  obtain ⟨S, hS⟩ : ∃ S, S = X.side buy := ⟨_, rfl⟩
  have HS := Fk.hide hS
  have HSO : Hid (Rk.Own Or.S w1 base 40 (Ob.pick buy (Value.slice xa xn xc) (Value.slice ya yn yc)) S) := by show Rk.Own _ _ _ _ _ _; rw [hS]; exact J1.out.side buy
  have HSL : Hid (S.length ≤ 1000) := by show _ ≤ _; rw [hS]; exact HLN.out buy
  rw [← hS] at hj
  have HFO : Hid (Dm.Fine (Ob.at' S j)) := HFN.out buy _ (by rw [← hS]; exact Rk.at_mem S j hj)
  clear hS
  obtain ⟨gs, ns, cs, hpk, hgb, hgl⟩ : ∃ g n c, Ob.pick buy (Value.slice xa xn xc) (Value.slice ya yn yc) = .slice (some ⟨g, 0, none⟩) n c ∧ base ≤ g ∧ g < w1.heap.size := by
    rcases HSO.out.form with ⟨_, h2⟩ | ⟨g, c, h1, h2, h3⟩
    · rw [h2] at hj; simp at hj
    · exact ⟨g, _, c, h1, h2, h3⟩
  rw [hpk] at HSO
  have HPK := Fk.hide hpk
  obtain rfl := HSO.out.len
  clear hpk
  obtain ⟨x0, x1, x2, x3, x4, x5, x6, x7, hx⟩ := Or.vals (Ob.at' S j)
  have HX := Fk.hide hx
  have HFX : Hid (Dm.Fine (x0, x1, x2, x3, x4, x5, x6, x7)) := by show Dm.Fine _; rw [← hx]; exact HFO.out
  have q1 := Or.o1 HSO.out hj
  rw [show Rk.at_ Or.S S j = (x0, x1, x2, x3, x4, x5, x6, x7) from hx] at q1
  dsimp only at q1
  clear hx HFO
  have FS : Hid (∀ w', Below w1.heap.size w1 w' → Calls Try.prog 46 #[.pointer (some ⟨b, 0, none⟩), .bool buy] w' fun e w'' => e = .returned (.slice (some ⟨gs, 0, none⟩) S.length cs) ∧ Below w'.heap.size w' w'') := fun w' hb => by
    have h := side_any b (Value.slice xa xn xc) (Value.slice ya yn yc) buy w' ((hb.cell (by exact J1.out.kind.lt)).trans J1.out.c0) ((hb.cell (by exact J1.out.kind.lt)).trans J1.out.c1) HSX.out HSY.out
    rw [HPK.out] at h
    exact h.mono fun e w'' ⟨h1, h2⟩ => ⟨h1, by rw [h2]; exact Below.refl _ _⟩
  by_cases how : ¬ x1 = owner
  · have HE : Hid (Dm.change (⟨4, owner, id, cbuy, price, amount, life, post, peak, guard⟩ : Cm.C) X = (6, X)) := by show _ = _; rw [HCH.out, Dm.changeAt_no (o := (x0, x1, x2, x3, x4, x5, x6, x7)) (by rw [← HS.out]; exact HX.out) how]
    have ho1 : (x1 == owner) = false := by simpa using how
    have ho2 : (x1 != owner) = true := by simpa using how
    have r0 := cell_regrown q1
    have r1 := cell_regrown c1_1
    have jn : ¬ ((j : Int) < 0) := by omega
    have jd : decide ((j : Int) < 0) = false := decide_eq_false jn
    have jl : (j : Int) < (S.length : Int) := by omega
    have jt : ((j : Int)).toNat = j := by simp
    have j0 : (0 : Int) ≤ (j : Int) := by omega
    go_wp2_with fail
    refine wp_region_quiet_below (by kernel_rfl) (by kernel_rfl) ?_
    repeat (go_big_quiet_step (first | (go_at_call 46; exact Calls.regrown_of (FS.out _ (below_regrown _ _ _)))))
    refine wpQuiet_nil ?_
    intro w2 hw'
    obtain ⟨⟨dq, osq⟩, hw''⟩ := hw'
    have kw2 : Below w1.heap.size w1 w2 := by rw [hw'']; exact below_regrown w1 dq osq
    clear hw''
    have B2 := Fk.hide (B1.out.trans (kw2.mono (Nat.le_trans HWB.out B1.out.size)))
    have F2 := Fk.hide (F1.out.trans (Bw.Fr.of_below kw2))
    have J2 := Fk.hide (J1.out.below kw2)
    have kC2 : Hid (Wq.Kind w2 w.heap.size 27) := kC1.out.of_block (kw2.block _ kC1.out.lt)
    have c0_2 := (kw2.cell (p := ⟨w.heap.size, 0, none⟩) (by exact kC1.out.lt)).trans c0_1
    have c1_2 := (kw2.cell (p := ⟨w.heap.size, 1, none⟩) (by exact kC1.out.lt)).trans c1_1
    have c2_2 := (kw2.cell (p := ⟨w.heap.size, 2, none⟩) (by exact kC1.out.lt)).trans c2_1
    have c4_2 := (kw2.cell (p := ⟨w.heap.size, 4, none⟩) (by exact kC1.out.lt)).trans c4_1
    have c5_2 := (kw2.cell (p := ⟨w.heap.size, 5, none⟩) (by exact kC1.out.lt)).trans c5_1
    clear kw2 c0_1 c1_1 c2_1 c4_1 c5_1 
    clear B1 F1 J1 kC1
    clear r0 r1
    go_wp2_with fail
    refine bodyPost_ret (v := .int .i64 6) (by simp [results, Try.results89, go_sem]) rfl ⟨by rw [HE.out], ⟨_, _, _, by rw [HE.out]; exact J2.out⟩, B2.out, F2.out⟩
  obtain rfl : x1 = owner := Decidable.of_not_not how
  clear how
  have ho1 : (x1 == x1) = true := by simp
  have ho2 : (x1 != x1) = false := by simp
  have r0 := cell_regrown q1
  have r1 := cell_regrown c1_1
  have jn : ¬ ((j : Int) < 0) := by omega
  have jd : decide ((j : Int) < 0) = false := decide_eq_false jn
  have jl : (j : Int) < (S.length : Int) := by omega
  have jt : ((j : Int)).toNat = j := by simp
  have j0 : (0 : Int) ≤ (j : Int) := by omega
  go_wp2_with fail
  refine wp_region_quiet_below (by kernel_rfl) (by kernel_rfl) ?_
  repeat (go_big_quiet_step (first | (go_at_call 46; exact Calls.regrown_of (FS.out _ (below_regrown _ _ _)))))
  refine wpQuiet_nil ?_
  intro w2 hw'
  obtain ⟨⟨dq, osq⟩, hw''⟩ := hw'
  have kw2 : Below w1.heap.size w1 w2 := by rw [hw'']; exact below_regrown w1 dq osq
  clear hw''
  have HSO2 := Fk.hide (HSO.out.below kw2)
  clear r0 r1 q1 ho1 ho2
  have B2 := Fk.hide (B1.out.trans (kw2.mono (Nat.le_trans HWB.out B1.out.size)))
  have F2 := Fk.hide (F1.out.trans (Bw.Fr.of_below kw2))
  have J2 := Fk.hide (J1.out.below kw2)
  have kC2 : Hid (Wq.Kind w2 w.heap.size 27) := kC1.out.of_block (kw2.block _ kC1.out.lt)
  have c0_2 := (kw2.cell (p := ⟨w.heap.size, 0, none⟩) (by exact kC1.out.lt)).trans c0_1
  have c1_2 := (kw2.cell (p := ⟨w.heap.size, 1, none⟩) (by exact kC1.out.lt)).trans c1_1
  have c2_2 := (kw2.cell (p := ⟨w.heap.size, 2, none⟩) (by exact kC1.out.lt)).trans c2_1
  have c4_2 := (kw2.cell (p := ⟨w.heap.size, 4, none⟩) (by exact kC1.out.lt)).trans c4_1
  have c5_2 := (kw2.cell (p := ⟨w.heap.size, 5, none⟩) (by exact kC1.out.lt)).trans c5_1
  clear kw2 c0_1 c1_1 c2_1 c4_1 c5_1 
  clear B1 F1 J1 kC1
  have hgl2 : gs < w2.heap.size := (HSO2.out.lt gs rfl).2
  obtain ⟨W3, hW3⟩ : ∃ W, W = w2.alloc (.cells #[] 40) := ⟨_, rfl⟩
  have k3 : Below w2.heap.size w2 W3 := by rw [hW3]; exact (Below.refl _ _).alloc (Nat.le_refl _) _
  have hM : Hid (Rk.Own Or.S W3 w2.heap.size 40 (.slice (some ⟨w2.heap.size, 0, none⟩) 0 0) []) := by show Rk.Own _ _ _ _ _ _; rw [hW3]; exact Rk.own_empty _ _ _ (Nat.le_refl _)
  have HSO3 := Fk.hide (HSO2.out.below k3)
  have HZ3 : Hid (w2.heap.size ≤ W3.heap.size) := k3.size
  have HX1 : Hid (∀ k, Value.ownBlock (Value.slice xa xn xc) = some k → k < w2.heap.size) := fun k hk => (J2.out.two.b.lt k hk).2
  have HX2 : Hid (∀ k, Value.ownBlock (Value.slice ya yn yc) = some k → k < w2.heap.size) := fun k hk => (J2.out.two.a.lt k hk).2
  have HB2b : Hid (b < w2.heap.size) := J2.out.kind.lt
  have HB2s : Hid (base ≤ w2.heap.size) := Nat.le_trans HWB.out B2.out.size
  have HC2b : Hid (w.heap.size < w2.heap.size) := kC2.out.lt
  have HW3 := Fk.hide hW3
  clear hW3
  have HK3 := Fk.hide k3
  have J3b := Fk.hide (J2.out.below k3)
  clear k3
  obtain ⟨q2, hq2⟩ : ∃ q, q = w2.heap.size := ⟨_, rfl⟩
  have HQ2 := Fk.hide hq2
  have i0_3 := J3b.out.c0
  have i1_3 := J3b.out.c1
  go_wp2_with fail
  rw [← HW3.out]
  refine (side_any b (Value.slice xa xn xc) (Value.slice ya yn yc) buy W3 J3b.out.c0 J3b.out.c1 HSX.out HSY.out).mono ?_
  rintro e w3' ⟨rfl, hw3⟩
  obtain rfl := hw3.symm
  rw [HPK.out]
  clear i0_3 i1_3
  rw [← hq2] at hM HX1 HX2 HB2b HC2b HZ3 HB2s hgl2
  clear hq2
  have HL0 : Hid (∀ w4 : World, Below w2.heap.size w2 w4 → (w4.alloc (.cells #[.int .i64 x0, .int .i64 x1, .int .i64 x2, .int .i64 x3, .bool x4, .int .i64 x5, .int .i64 x6, .bool x7] 40)).cell? ⟨w.heap.size, 0, none⟩ = some (.int .i64 4)) := fun w4 k4 => by rw [Fk.cellOld _ _ _ _ (Nat.lt_of_lt_of_le kC2.out.lt k4.size)]; exact (k4.cell (p := ⟨w.heap.size, 0, none⟩) (by exact kC2.out.lt)).trans c0_2
  have HL1 : Hid (∀ w4 : World, Below w2.heap.size w2 w4 → (w4.alloc (.cells #[.int .i64 x0, .int .i64 x1, .int .i64 x2, .int .i64 x3, .bool x4, .int .i64 x5, .int .i64 x6, .bool x7] 40)).cell? ⟨w.heap.size, 1, none⟩ = some (.int .i64 x1)) := fun w4 k4 => by rw [Fk.cellOld _ _ _ _ (Nat.lt_of_lt_of_le kC2.out.lt k4.size)]; exact (k4.cell (p := ⟨w.heap.size, 1, none⟩) (by exact kC2.out.lt)).trans c1_2
  have HL2 : Hid (∀ w4 : World, Below w2.heap.size w2 w4 → (w4.alloc (.cells #[.int .i64 x0, .int .i64 x1, .int .i64 x2, .int .i64 x3, .bool x4, .int .i64 x5, .int .i64 x6, .bool x7] 40)).cell? ⟨w.heap.size, 2, none⟩ = some (.int .i64 id)) := fun w4 k4 => by rw [Fk.cellOld _ _ _ _ (Nat.lt_of_lt_of_le kC2.out.lt k4.size)]; exact (k4.cell (p := ⟨w.heap.size, 2, none⟩) (by exact kC2.out.lt)).trans c2_2
  have HL4 : Hid (∀ w4 : World, Below w2.heap.size w2 w4 → (w4.alloc (.cells #[.int .i64 x0, .int .i64 x1, .int .i64 x2, .int .i64 x3, .bool x4, .int .i64 x5, .int .i64 x6, .bool x7] 40)).cell? ⟨w.heap.size, 4, none⟩ = some (.int .i64 price)) := fun w4 k4 => by rw [Fk.cellOld _ _ _ _ (Nat.lt_of_lt_of_le kC2.out.lt k4.size)]; exact (k4.cell (p := ⟨w.heap.size, 4, none⟩) (by exact kC2.out.lt)).trans c4_2
  have HL5 : Hid (∀ w4 : World, Below w2.heap.size w2 w4 → (w4.alloc (.cells #[.int .i64 x0, .int .i64 x1, .int .i64 x2, .int .i64 x3, .bool x4, .int .i64 x5, .int .i64 x6, .bool x7] 40)).cell? ⟨w.heap.size, 5, none⟩ = some (.int .i64 amount)) := fun w4 k4 => by rw [Fk.cellOld _ _ _ _ (Nat.lt_of_lt_of_le kC2.out.lt k4.size)]; exact (k4.cell (p := ⟨w.heap.size, 5, none⟩) (by exact kC2.out.lt)).trans c5_2
  obtain ⟨⟨hf1, hf2⟩, ⟨hf3, hf4⟩, ⟨hf5, hf6⟩, _⟩ := HFX.out
  dsimp only at hf1 hf2 hf3 hf4 hf5 hf6
  go_wp2_with (at_builtin; refine Rk.wpList_append_new _ rfl _ _ 23 rfl q2 40 i0 _ 8 64 rfl Try.underlying23 hi hz0 hz1 hz2 rfl (by decide) q2 0 0 (.slice (some ⟨gs, 0, none⟩) S.length cs) [] S (by rw [HQ2.out]; rfl) rfl hM.out HSO3.out.view (Rk.shut_some _ _ _) (by have := HSL.out; simp; omega) HZ3.out ?_; intro u4 w4 o4 g4 ne4; rw [List.nil_append] at o4; obtain ⟨gl, lc, rfl, hgl4⟩ : ∃ g c, u4 = .slice (some ⟨g, 0, none⟩) S.length c ∧ q2 ≤ g := o4.form.elim (fun h => absurd hj (by rw [h.2]; simp)) (fun ⟨g, c, h1, h3, _⟩ => ⟨g, c, h1, h3⟩); have O4 := Fk.hide o4; have k4 : Below w2.heap.size w2 w4 := HK3.out.grown g4 HK3.out.size (fun k hk => by cases hk; exact Nat.le_of_eq HQ2.out.symm); have HGL := Fk.hide hgl4; clear o4 g4 ne4 hgl4; have p_ := Or.o0 O4.out hj; have p_1 := Or.o1 O4.out hj; have p_2 := Or.o2 O4.out hj; have p_3 := Or.o3 O4.out hj; have p_4 := Or.o4 O4.out hj; have p_5 := Or.o5 O4.out hj; have p_6 := Or.o6 O4.out hj; have p_7 := Or.o7 O4.out hj; have hx := HX.out; rw [show Rk.at_ Or.S S j = (x0, x1, x2, x3, x4, x5, x6, x7) from hx] at p_ p_1 p_2 p_3 p_4 p_5 p_6 p_7; dsimp only at p_ p_1 p_2 p_3 p_4 p_5 p_6 p_7; clear hx; have l0 := HL0.out w4 k4; have l1 := HL1.out w4 k4; have l2 := HL2.out w4 k4; have l4 := HL4.out w4 k4; have l5 := HL5.out w4 k4)
  obtain ⟨W5, hW5⟩ : ∃ W, W = (w4.alloc (.cells #[.int .i64 x0, .int .i64 x1, .int .i64 x2, .int .i64 x3, .bool x4, .int .i64 x5, .int .i64 x6, .bool x7] 40)) := ⟨_, rfl⟩
  rw [← hW5]
  have k45 : Below w2.heap.size w2 W5 := by rw [hW5]; exact k4.alloc k4.size _
  have kO3 : Hid (Wq.Kind W5 w4.heap.size 40) := by show Wq.Kind _ _ _; rw [hW5]; exact ⟨_, _, heap_alloc_new w4 _⟩
  have p0_3 : W5.cell? ⟨w4.heap.size, 0, none⟩ = some (.int .i64 x0) := by rw [hW5, Fk.cellTop _ _ _ _ _ rfl]; rfl
  have p1_3 : W5.cell? ⟨w4.heap.size, 1, none⟩ = some (.int .i64 x1) := by rw [hW5, Fk.cellTop _ _ _ _ _ rfl]; rfl
  have p2_3 : W5.cell? ⟨w4.heap.size, 2, none⟩ = some (.int .i64 x2) := by rw [hW5, Fk.cellTop _ _ _ _ _ rfl]; rfl
  have p3_3 : W5.cell? ⟨w4.heap.size, 3, none⟩ = some (.int .i64 x3) := by rw [hW5, Fk.cellTop _ _ _ _ _ rfl]; rfl
  have p4_3 : W5.cell? ⟨w4.heap.size, 4, none⟩ = some (.bool x4) := by rw [hW5, Fk.cellTop _ _ _ _ _ rfl]; rfl
  have p5_3 : W5.cell? ⟨w4.heap.size, 5, none⟩ = some (.int .i64 x5) := by rw [hW5, Fk.cellTop _ _ _ _ _ rfl]; rfl
  have p6_3 : W5.cell? ⟨w4.heap.size, 6, none⟩ = some (.int .i64 x6) := by rw [hW5, Fk.cellTop _ _ _ _ _ rfl]; rfl
  have p7_3 : W5.cell? ⟨w4.heap.size, 7, none⟩ = some (.bool x7) := by rw [hW5, Fk.cellTop _ _ _ _ _ rfl]; rfl
  have O3 : Hid (Rk.Own Or.S W5 q2 40 (.slice (some ⟨gl, 0, none⟩) S.length lc) S) := by show Rk.Own _ _ _ _ _ _; rw [hW5]; exact O4.out.below ((Below.refl _ _).alloc (Nat.le_refl _) _)
  have HFZ5 : Hid (∀ i, W5.frozen? ⟨w4.heap.size, i, none⟩ = false) := fun i => by rw [hW5, Fk.frozTop _ _ _ _ _ rfl]
  have HGLW : Hid (gl < w4.heap.size) := (O4.out.lt gl rfl).2
  have HQOW : Hid (w.heap.size < w4.heap.size) := Nat.lt_of_lt_of_le kC2.out.lt k4.size
  have HQOB : Hid (base ≤ w4.heap.size) := Nat.le_trans HWB.out (Nat.le_of_lt HQOW.out)
  clear hW5 k4 O4
  clear HL0 HL1 HL2 HL4 HL5
  clear l0 l1 l2 l4 l5 p_ p_1 p_2 p_3 p_4 p_5 p_6 p_7
  have B3 := Fk.hide (B2.out.trans (k45.mono (Nat.le_trans HWB.out B2.out.size)))
  have F3 := Fk.hide (F2.out.trans (Bw.Fr.of_below k45))
  have J3 := Fk.hide (J2.out.below k45)
  have kC3 : Hid (Wq.Kind W5 w.heap.size 27) := kC2.out.of_block (k45.block _ kC2.out.lt)
  have c0_3 := (k45.cell (p := ⟨w.heap.size, 0, none⟩) (by exact kC2.out.lt)).trans c0_2
  have c1_3 := (k45.cell (p := ⟨w.heap.size, 1, none⟩) (by exact kC2.out.lt)).trans c1_2
  have c2_3 := (k45.cell (p := ⟨w.heap.size, 2, none⟩) (by exact kC2.out.lt)).trans c2_2
  have c4_3 := (k45.cell (p := ⟨w.heap.size, 4, none⟩) (by exact kC2.out.lt)).trans c4_2
  have c5_3 := (k45.cell (p := ⟨w.heap.size, 5, none⟩) (by exact kC2.out.lt)).trans c5_2
  clear k45 c0_2 c1_2 c2_2 c4_2 c5_2 
  clear B2 F2 J2 kC2
  obtain ⟨qo, hqo⟩ : ∃ q, q = w4.heap.size := ⟨_, rfl⟩
  rw [← hqo]
  rw [← hqo] at kO3 HGLW HFZ5 HQOW HQOB p0_3 p1_3 p2_3 p3_3 p4_3 p5_3 p6_3 p7_3
  clear hqo
  obtain ⟨cs5, fr5, hq5⟩ := kO3.out
  have HQ5 := Fk.hide hq5
  clear hq5
  have G3 := Fk.hide (Bw.Fr.refl W5)
  have HQW : Hid (q2 ≤ W5.heap.size) := by show _ ≤ _; have := kO3.out.lt; have := HGL.out; have := HGLW.out; omega
  have HLO : Hid (S.length ≤ 100000) := Nat.le_trans HSL.out (by decide)
  refine (bookTell_any base b _ _ _ X 4 x0 0 price amount W5 J3.out (Nat.le_trans HWB.out B3.out.size) (Nat.le_trans HEV.out (by decide))).mono ?_
  rintro e w6 ⟨rfl, ⟨z6, JJ⟩, BB, FF⟩
  have B4 := Fk.hide (B3.out.trans BB)
  have F4 := Fk.hide (F3.out.trans FF)
  have J4 := Fk.hide JJ
  have kC4 : Hid (Wq.Kind w6 w.heap.size 27) := FF.kind kC3.out (by decide) (by decide)
  have c0_4 := (FF.cell (j := 0) kC3.out (by decide) (by decide)).trans c0_3
  have c1_4 := (FF.cell (j := 1) kC3.out (by decide) (by decide)).trans c1_3
  have c2_4 := (FF.cell (j := 2) kC3.out (by decide) (by decide)).trans c2_3
  have c4_4 := (FF.cell (j := 4) kC3.out (by decide) (by decide)).trans c4_3
  have c5_4 := (FF.cell (j := 5) kC3.out (by decide) (by decide)).trans c5_3
  have O4 := Fk.hide (FF.own O3.out (by decide) (by decide))
  have G4 := Fk.hide (G3.out.trans FF)
  have kO4 : Hid (Wq.Kind w6 qo 40) := FF.kind kO3.out (by decide) (by decide)
  have p0_4 := (FF.cell (j := 0) kO3.out (by decide) (by decide)).trans p0_3
  have p1_4 := (FF.cell (j := 1) kO3.out (by decide) (by decide)).trans p1_3
  have p2_4 := (FF.cell (j := 2) kO3.out (by decide) (by decide)).trans p2_3
  have p3_4 := (FF.cell (j := 3) kO3.out (by decide) (by decide)).trans p3_3
  have p4_4 := (FF.cell (j := 4) kO3.out (by decide) (by decide)).trans p4_3
  have p5_4 := (FF.cell (j := 5) kO3.out (by decide) (by decide)).trans p5_3
  have p6_4 := (FF.cell (j := 6) kO3.out (by decide) (by decide)).trans p6_3
  have p7_4 := (FF.cell (j := 7) kO3.out (by decide) (by decide)).trans p7_3
  clear BB FF c0_3 c1_3 c2_3 c4_3 c5_3 p0_3 p1_3 p2_3 p3_3 p4_3 p5_3 p6_3 p7_3
  clear B3 F3 J3 kC3 O3 kO3
  clear JJ
  by_cases hq : price = x2 ∧ amount < x3 + x6
  · obtain ⟨hq1, hq2⟩ := hq
    have HE : Hid (Dm.change (⟨4, x1, id, cbuy, price, amount, life, post, peak, guard⟩ : Cm.C) X = (0, (X.tell (4, x0, 0, price, amount)).put buy (S.set j (Dm.shown (x0, x1, x2, x3, x4, x5, x6, x7) amount)))) := by show _ = _; rw [HCH.out, Dm.changeAt_stay (o := (x0, x1, x2, x3, x4, x5, x6, x7)) (by rw [← HS.out]; exact HX.out) rfl (by show (4 : Int) ≠ 3; decide) ⟨hq1, hq2⟩, ← HS.out]
    subst hq1
    have HA1 := HA.out.1
    have HA2 := HA.out.2
    obtain ⟨so, hso⟩ : ∃ o, o = Dm.shown (x0, x1, price, x3, x4, x5, x6, x7) amount := ⟨_, rfl⟩
    have FSH := Fk.hide (l06Show_any x0 x1 price x3 x4 x5 x6 x7 amount ⟨HA1, by omega⟩ ⟨hf3, by omega⟩ w6)
    rw [← hso] at FSH HE
    clear hso
    obtain ⟨s0, s1, s2, s3, s4, s5, s6, s7⟩ := so
    dsimp only [Or.vl] at FSH
    go_wp2_with fail
    refine FSH.out.mono ?_
    rintro e w7 ⟨rfl, k7⟩
    have B5 := Fk.hide (B4.out.trans (k7.mono (Nat.le_trans HWB.out B4.out.size)))
    have F5 := Fk.hide (F4.out.trans (Bw.Fr.of_below k7))
    have J5 := Fk.hide (J4.out.below k7)
    have kC5 : Hid (Wq.Kind w7 w.heap.size 27) := kC4.out.of_block (k7.block _ kC4.out.lt)
    have c0_5 := (k7.cell (p := ⟨w.heap.size, 0, none⟩) (by exact kC4.out.lt)).trans c0_4
    have c1_5 := (k7.cell (p := ⟨w.heap.size, 1, none⟩) (by exact kC4.out.lt)).trans c1_4
    have c2_5 := (k7.cell (p := ⟨w.heap.size, 2, none⟩) (by exact kC4.out.lt)).trans c2_4
    have c4_5 := (k7.cell (p := ⟨w.heap.size, 4, none⟩) (by exact kC4.out.lt)).trans c4_4
    have c5_5 := (k7.cell (p := ⟨w.heap.size, 5, none⟩) (by exact kC4.out.lt)).trans c5_4
    have O5 := Fk.hide (O4.out.below k7)
    have G5 := Fk.hide (G4.out.trans (Bw.Fr.of_below k7))
    have kO5 : Hid (Wq.Kind w7 qo 40) := kO4.out.of_block (k7.block _ kO4.out.lt)
    have p0_5 := (k7.cell (p := ⟨qo, 0, none⟩) (by exact kO4.out.lt)).trans p0_4
    have p1_5 := (k7.cell (p := ⟨qo, 1, none⟩) (by exact kO4.out.lt)).trans p1_4
    have p2_5 := (k7.cell (p := ⟨qo, 2, none⟩) (by exact kO4.out.lt)).trans p2_4
    have p3_5 := (k7.cell (p := ⟨qo, 3, none⟩) (by exact kO4.out.lt)).trans p3_4
    have p4_5 := (k7.cell (p := ⟨qo, 4, none⟩) (by exact kO4.out.lt)).trans p4_4
    have p5_5 := (k7.cell (p := ⟨qo, 5, none⟩) (by exact kO4.out.lt)).trans p5_4
    have p6_5 := (k7.cell (p := ⟨qo, 6, none⟩) (by exact kO4.out.lt)).trans p6_4
    have p7_5 := (k7.cell (p := ⟨qo, 7, none⟩) (by exact kO4.out.lt)).trans p7_4
    clear k7 c0_4 c1_4 c2_4 c4_4 c5_4 p0_4 p1_4 p2_4 p3_4 p4_4 p5_4 p6_4 p7_4
    clear B4 F4 J4 kC4 O4 kO4
    have hfz : ∀ i, w7.frozen? ⟨gl, i, none⟩ = false := fun i => O5.out.frozen i
    have jl : (j : Int) < (S.length : Int) := by omega
    have jt : ((j : Int)).toNat = j := by simp
    have j0 : (0 : Int) ≤ (j : Int) := by omega
    have y0 := Or.o0 O5.out hj
    have y1 := Or.o1 O5.out hj
    have y2 := Or.o2 O5.out hj
    have y3 := Or.o3 O5.out hj
    have y4 := Or.o4 O5.out hj
    have y5 := Or.o5 O5.out hj
    have y6 := Or.o6 O5.out hj
    have y7 := Or.o7 O5.out hj
    go_wp2_with fail
    have OS : Hid (Rk.Own Or.S ((((((((w7.setCell ⟨gl, j * 8, none⟩ (.int .i64 s0)).setCell ⟨gl, j * 8 + 1, none⟩ (.int .i64 s1)).setCell ⟨gl, j * 8 + 2, none⟩ (.int .i64 s2)).setCell ⟨gl, j * 8 + 3, none⟩ (.int .i64 s3)).setCell ⟨gl, j * 8 + 4, none⟩ (.bool s4)).setCell ⟨gl, j * 8 + 5, none⟩ (.int .i64 s5)).setCell ⟨gl, j * 8 + 6, none⟩ (.int .i64 s6)).setCell ⟨gl, j * 8 + 7, none⟩ (.bool s7)) q2 40 (.slice (some ⟨gl, 0, none⟩) S.length lc) (S.set j (s0, s1, s2, s3, s4, s5, s6, s7))) := Or.own_set O5.out hj (s0, s1, s2, s3, s4, s5, s6, s7)
    have HGB : Hid (base ≤ gl) := by show _ ≤ _; have := HGL.out; have := HQ2.out; have := HB2s.out; omega
    have HGW : Hid (w.heap.size ≤ gl) := by show _ ≤ _; have := HGL.out; have := HC2b.out; omega
    have N1 : ∀ k, Value.ownBlock (Value.slice xa xn xc) = some k → k ≠ gl := fun k hk => by have := HX1.out k hk; have := HGL.out; omega
    have N2 : ∀ k, Value.ownBlock (Value.slice ya yn yc) = some k → k ≠ gl := fun k hk => by have := HX2.out k hk; have := HGL.out; omega
    have K0 := O5.out.kind
    have J8 : Hid (Bw.Is ((((((((w7.setCell ⟨gl, j * 8, none⟩ (.int .i64 s0)).setCell ⟨gl, j * 8 + 1, none⟩ (.int .i64 s1)).setCell ⟨gl, j * 8 + 2, none⟩ (.int .i64 s2)).setCell ⟨gl, j * 8 + 3, none⟩ (.int .i64 s3)).setCell ⟨gl, j * 8 + 4, none⟩ (.bool s4)).setCell ⟨gl, j * 8 + 5, none⟩ (.int .i64 s5)).setCell ⟨gl, j * 8 + 6, none⟩ (.int .i64 s6)).setCell ⟨gl, j * 8 + 7, none⟩ (.bool s7)) base b (Value.slice xa xn xc) (Value.slice ya yn yc) z6 (X.tell (4, x0, 0, price, amount))) := (Bw.Is.setBox (Bw.Is.setBox (Bw.Is.setBox (Bw.Is.setBox (Bw.Is.setBox (Bw.Is.setBox (Bw.Is.setBox (Bw.Is.setBox J5.out K0 (by decide) (by decide) N1 N2 (j * 8) _) (Wq.Kind.setCell K0 _ _) (by decide) (by decide) N1 N2 (j * 8 + 1) _) (Wq.Kind.setCell (Wq.Kind.setCell K0 _ _) _ _) (by decide) (by decide) N1 N2 (j * 8 + 2) _) (Wq.Kind.setCell (Wq.Kind.setCell (Wq.Kind.setCell K0 _ _) _ _) _ _) (by decide) (by decide) N1 N2 (j * 8 + 3) _) (Wq.Kind.setCell (Wq.Kind.setCell (Wq.Kind.setCell (Wq.Kind.setCell K0 _ _) _ _) _ _) _ _) (by decide) (by decide) N1 N2 (j * 8 + 4) _) (Wq.Kind.setCell (Wq.Kind.setCell (Wq.Kind.setCell (Wq.Kind.setCell (Wq.Kind.setCell K0 _ _) _ _) _ _) _ _) _ _) (by decide) (by decide) N1 N2 (j * 8 + 5) _) (Wq.Kind.setCell (Wq.Kind.setCell (Wq.Kind.setCell (Wq.Kind.setCell (Wq.Kind.setCell (Wq.Kind.setCell K0 _ _) _ _) _ _) _ _) _ _) _ _) (by decide) (by decide) N1 N2 (j * 8 + 6) _) (Wq.Kind.setCell (Wq.Kind.setCell (Wq.Kind.setCell (Wq.Kind.setCell (Wq.Kind.setCell (Wq.Kind.setCell (Wq.Kind.setCell K0 _ _) _ _) _ _) _ _) _ _) _ _) _ _) (by decide) (by decide) N1 N2 (j * 8 + 7) _)
    have B8 : Hid (Below base w ((((((((w7.setCell ⟨gl, j * 8, none⟩ (.int .i64 s0)).setCell ⟨gl, j * 8 + 1, none⟩ (.int .i64 s1)).setCell ⟨gl, j * 8 + 2, none⟩ (.int .i64 s2)).setCell ⟨gl, j * 8 + 3, none⟩ (.int .i64 s3)).setCell ⟨gl, j * 8 + 4, none⟩ (.bool s4)).setCell ⟨gl, j * 8 + 5, none⟩ (.int .i64 s5)).setCell ⟨gl, j * 8 + 6, none⟩ (.int .i64 s6)).setCell ⟨gl, j * 8 + 7, none⟩ (.bool s7))) := (Below.setCell (Below.setCell (Below.setCell (Below.setCell (Below.setCell (Below.setCell (Below.setCell (Below.setCell B5.out HGB.out _) HGB.out _) HGB.out _) HGB.out _) HGB.out _) HGB.out _) HGB.out _) HGB.out _)
    have F8 : Hid (Bw.Fr w ((((((((w7.setCell ⟨gl, j * 8, none⟩ (.int .i64 s0)).setCell ⟨gl, j * 8 + 1, none⟩ (.int .i64 s1)).setCell ⟨gl, j * 8 + 2, none⟩ (.int .i64 s2)).setCell ⟨gl, j * 8 + 3, none⟩ (.int .i64 s3)).setCell ⟨gl, j * 8 + 4, none⟩ (.bool s4)).setCell ⟨gl, j * 8 + 5, none⟩ (.int .i64 s5)).setCell ⟨gl, j * 8 + 6, none⟩ (.int .i64 s6)).setCell ⟨gl, j * 8 + 7, none⟩ (.bool s7))) := (Bw.Fr.setNew (Bw.Fr.setNew (Bw.Fr.setNew (Bw.Fr.setNew (Bw.Fr.setNew (Bw.Fr.setNew (Bw.Fr.setNew (Bw.Fr.setNew F5.out HGW.out (j * 8) _) HGW.out (j * 8 + 1) _) HGW.out (j * 8 + 2) _) HGW.out (j * 8 + 3) _) HGW.out (j * 8 + 4) _) HGW.out (j * 8 + 5) _) HGW.out (j * 8 + 6) _) HGW.out (j * 8 + 7) _)
    obtain ⟨W8, hW8⟩ : ∃ W, W = ((((((((w7.setCell ⟨gl, j * 8, none⟩ (.int .i64 s0)).setCell ⟨gl, j * 8 + 1, none⟩ (.int .i64 s1)).setCell ⟨gl, j * 8 + 2, none⟩ (.int .i64 s2)).setCell ⟨gl, j * 8 + 3, none⟩ (.int .i64 s3)).setCell ⟨gl, j * 8 + 4, none⟩ (.bool s4)).setCell ⟨gl, j * 8 + 5, none⟩ (.int .i64 s5)).setCell ⟨gl, j * 8 + 6, none⟩ (.int .i64 s6)).setCell ⟨gl, j * 8 + 7, none⟩ (.bool s7)) := ⟨_, rfl⟩
    rw [← hW8] at J8 B8 F8 OS ⊢
    clear hW8
    have HAP : Hid (∀ k, Value.ownBlock (.slice (some ⟨gl, 0, none⟩) S.length lc) = some k → (Ob.pick buy (Value.slice ya yn yc) (Value.slice xa xn xc)).ownBlock ≠ some k) := Bw.apart buy HX1.out HX2.out OS.out
    refine (bookPut_any base b _ _ _ _ (X.tell (4, x0, 0, price, amount)) _ buy W8 J8.out (Nat.le_trans HWB.out B8.out.size) (OS.out.mono HB2s.out) HAP.out).mono ?_
    rintro e w9 ⟨rfl, J9, B9, F9⟩
    go_wp2_with fail
    refine bodyPost_ret (v := .int .i64 0) (by simp [results, Try.results89, go_sem]) rfl ⟨by rw [HE.out], ⟨_, _, _, by rw [HE.out]; exact J9⟩, B8.out.trans B9, F8.out.trans F9⟩
  have hq2 : price ≠ x2 ∨ (price = x2 ∧ ¬ amount < x3 + x6) := by by_cases h : price = x2; exact .inr ⟨h, fun h2 => hq ⟨h, h2⟩⟩; exact .inl h
  have HE : Hid (Dm.change (⟨4, x1, id, cbuy, price, amount, life, post, peak, guard⟩ : Cm.C) X = (0, Dm.come (x0, x1, price, x3, x4, min x5 amount, x6, x7) buy price amount true ((X.tell (4, x0, 0, price, amount)).put buy (Dm.out S j)))) := by show _ = _; rw [HCH.out, Dm.changeAt_come (o := (x0, x1, x2, x3, x4, x5, x6, x7)) (by rw [← HS.out]; exact HX.out) rfl (by show (4 : Int) ≠ 3; decide) hq, ← HS.out]; rfl
  clear hq
  rcases hq2 with hne | ⟨heq, hge⟩
  · skip
    go_wp2_with fail
    refine (l06Out_any gl lc S j q2 w6 O4.out HLO.out hj).mono ?_
    rintro e w7 ⟨⟨u6, rfl, o6⟩, k6⟩
    have HAP : Hid (∀ k, u6.ownBlock = some k → (Ob.pick buy (Value.slice ya yn yc) (Value.slice xa xn xc)).ownBlock ≠ some k) := Bw.apart buy (fun k hk => by have h1 := HX1.out k hk; have h2 := (O4.out.lt gl rfl).2; have h3 := HGL.out; omega) (fun k hk => by have h1 := HX2.out k hk; have h2 := (O4.out.lt gl rfl).2; have h3 := HGL.out; omega) o6
    obtain ⟨ua, un, uc, rfl⟩ := o6.slice'
    have HUQ : Hid (∀ k, Value.ownBlock (.slice ua un uc) = some k → k ≠ qo) := fun k hk e => by have h1 := (o6.lt k hk).1; have h2 := kO4.out.lt; omega
    have HO6 : Hid (Rk.Own Or.S w7 base 40 (.slice ua un uc) (Dm.out S j)) := o6.mono (Nat.le_trans HWB.out B4.out.size)
    clear o6
    have B5 := Fk.hide (B4.out.trans (k6.mono (Nat.le_trans HWB.out B4.out.size)))
    have F5 := Fk.hide (F4.out.trans (Bw.Fr.of_below k6))
    have J5 := Fk.hide (J4.out.below k6)
    have kC5 : Hid (Wq.Kind w7 w.heap.size 27) := kC4.out.of_block (k6.block _ kC4.out.lt)
    have c0_5 := (k6.cell (p := ⟨w.heap.size, 0, none⟩) (by exact kC4.out.lt)).trans c0_4
    have c1_5 := (k6.cell (p := ⟨w.heap.size, 1, none⟩) (by exact kC4.out.lt)).trans c1_4
    have c2_5 := (k6.cell (p := ⟨w.heap.size, 2, none⟩) (by exact kC4.out.lt)).trans c2_4
    have c4_5 := (k6.cell (p := ⟨w.heap.size, 4, none⟩) (by exact kC4.out.lt)).trans c4_4
    have c5_5 := (k6.cell (p := ⟨w.heap.size, 5, none⟩) (by exact kC4.out.lt)).trans c5_4
    have O5 := Fk.hide (O4.out.below k6)
    have G5 := Fk.hide (G4.out.trans (Bw.Fr.of_below k6))
    have kO5 : Hid (Wq.Kind w7 qo 40) := kO4.out.of_block (k6.block _ kO4.out.lt)
    have p0_5 := (k6.cell (p := ⟨qo, 0, none⟩) (by exact kO4.out.lt)).trans p0_4
    have p1_5 := (k6.cell (p := ⟨qo, 1, none⟩) (by exact kO4.out.lt)).trans p1_4
    have p2_5 := (k6.cell (p := ⟨qo, 2, none⟩) (by exact kO4.out.lt)).trans p2_4
    have p3_5 := (k6.cell (p := ⟨qo, 3, none⟩) (by exact kO4.out.lt)).trans p3_4
    have p4_5 := (k6.cell (p := ⟨qo, 4, none⟩) (by exact kO4.out.lt)).trans p4_4
    have p5_5 := (k6.cell (p := ⟨qo, 5, none⟩) (by exact kO4.out.lt)).trans p5_4
    have p6_5 := (k6.cell (p := ⟨qo, 6, none⟩) (by exact kO4.out.lt)).trans p6_4
    have p7_5 := (k6.cell (p := ⟨qo, 7, none⟩) (by exact kO4.out.lt)).trans p7_4
    clear k6 c0_4 c1_4 c2_4 c4_4 c5_4 p0_4 p1_4 p2_4 p3_4 p4_4 p5_4 p6_4 p7_4
    clear B4 F4 J4 kC4 O4 kO4
    go_wp2_with fail
    refine (bookPut_any base b _ _ _ _ (X.tell (4, x0, 0, price, amount)) (Dm.out S j) buy w7 J5.out (Nat.le_trans HWB.out B5.out.size) HO6.out HAP.out).mono ?_
    rintro e w8 ⟨rfl, JJ, BB, FF⟩
    have B6 := Fk.hide (B5.out.trans BB)
    have F6 := Fk.hide (F5.out.trans FF)
    have J6 := Fk.hide JJ
    have kC6 : Hid (Wq.Kind w8 w.heap.size 27) := FF.kind kC5.out (by decide) (by decide)
    have c0_6 := (FF.cell (j := 0) kC5.out (by decide) (by decide)).trans c0_5
    have c1_6 := (FF.cell (j := 1) kC5.out (by decide) (by decide)).trans c1_5
    have c2_6 := (FF.cell (j := 2) kC5.out (by decide) (by decide)).trans c2_5
    have c4_6 := (FF.cell (j := 4) kC5.out (by decide) (by decide)).trans c4_5
    have c5_6 := (FF.cell (j := 5) kC5.out (by decide) (by decide)).trans c5_5
    have O6 := Fk.hide (FF.own O5.out (by decide) (by decide))
    have G6 := Fk.hide (G5.out.trans FF)
    have kO6 : Hid (Wq.Kind w8 qo 40) := FF.kind kO5.out (by decide) (by decide)
    have p0_6 := (FF.cell (j := 0) kO5.out (by decide) (by decide)).trans p0_5
    have p1_6 := (FF.cell (j := 1) kO5.out (by decide) (by decide)).trans p1_5
    have p2_6 := (FF.cell (j := 2) kO5.out (by decide) (by decide)).trans p2_5
    have p3_6 := (FF.cell (j := 3) kO5.out (by decide) (by decide)).trans p3_5
    have p4_6 := (FF.cell (j := 4) kO5.out (by decide) (by decide)).trans p4_5
    have p5_6 := (FF.cell (j := 5) kO5.out (by decide) (by decide)).trans p5_5
    have p6_6 := (FF.cell (j := 6) kO5.out (by decide) (by decide)).trans p6_5
    have p7_6 := (FF.cell (j := 7) kO5.out (by decide) (by decide)).trans p7_5
    clear BB FF c0_5 c1_5 c2_5 c4_5 c5_5 p0_5 p1_5 p2_5 p3_5 p4_5 p5_5 p6_5 p7_5
    clear B5 F5 J5 kC5 O5 kO5
    clear HAP HO6 JJ
    have pfz : ∀ i, w8.frozen? ⟨qo, i, none⟩ = false := fun i => (World.frozen?_of_block (a := ⟨qo, i, none⟩) (G6.out qo _ _ _ HQ5.out (by decide) (by decide))).trans (HFZ5.out i)
    have hcell1 : ∀ j v, w8.cell? ⟨w.heap.size, j, none⟩ = some v → (w8.setCell ⟨qo, 2, none⟩ (.int .i64 price)).cell? ⟨w.heap.size, j, none⟩ = some v := fun j v h => (World.cell?_setCell_other _ _ _ _ (by intro h; simp only [Addr.mk.injEq] at h; have := HQOW.out; omega)).trans h
    have hcell2 : ∀ j v, w8.cell? ⟨w.heap.size, j, none⟩ = some v → ((w8.setCell ⟨qo, 2, none⟩ (.int .i64 price)).setCell ⟨qo, 5, none⟩ (.int .i64 (min x5 amount))).cell? ⟨w.heap.size, j, none⟩ = some v := fun j v h => (World.cell?_setCell_other _ _ _ _ (by intro h; simp only [Addr.mk.injEq] at h; have := HQOW.out; omega)).trans (hcell1 j v h)
    have l5 := hcell1 5 _ c5_6
    have m4 := hcell2 4 _ c4_6
    have m5 := hcell2 5 _ c5_6
    clear hcell1 hcell2
    have e1_0 : (w8.setCell ⟨qo, 2, none⟩ (.int .i64 price)).cell? ⟨qo, 0, none⟩ = some (.int .i64 x0) := (World.cell?_setCell_other _ _ _ _ (by simp)).trans p0_6
    have e1_1 : (w8.setCell ⟨qo, 2, none⟩ (.int .i64 price)).cell? ⟨qo, 1, none⟩ = some (.int .i64 x1) := (World.cell?_setCell_other _ _ _ _ (by simp)).trans p1_6
    have e1_2 : (w8.setCell ⟨qo, 2, none⟩ (.int .i64 price)).cell? ⟨qo, 2, none⟩ = some (.int .i64 price) := World.cell?_setCell_same _ _ _ p2_6
    have e1_3 : (w8.setCell ⟨qo, 2, none⟩ (.int .i64 price)).cell? ⟨qo, 3, none⟩ = some (.int .i64 x3) := (World.cell?_setCell_other _ _ _ _ (by simp)).trans p3_6
    have e1_4 : (w8.setCell ⟨qo, 2, none⟩ (.int .i64 price)).cell? ⟨qo, 4, none⟩ = some (.bool x4) := (World.cell?_setCell_other _ _ _ _ (by simp)).trans p4_6
    have e1_5 : (w8.setCell ⟨qo, 2, none⟩ (.int .i64 price)).cell? ⟨qo, 5, none⟩ = some (.int .i64 x5) := (World.cell?_setCell_other _ _ _ _ (by simp)).trans p5_6
    have e1_6 : (w8.setCell ⟨qo, 2, none⟩ (.int .i64 price)).cell? ⟨qo, 6, none⟩ = some (.int .i64 x6) := (World.cell?_setCell_other _ _ _ _ (by simp)).trans p6_6
    have e1_7 : (w8.setCell ⟨qo, 2, none⟩ (.int .i64 price)).cell? ⟨qo, 7, none⟩ = some (.bool x7) := (World.cell?_setCell_other _ _ _ _ (by simp)).trans p7_6
    have e2_0 : ((w8.setCell ⟨qo, 2, none⟩ (.int .i64 price)).setCell ⟨qo, 5, none⟩ (.int .i64 (min x5 amount))).cell? ⟨qo, 0, none⟩ = some (.int .i64 x0) := (World.cell?_setCell_other _ _ _ _ (by simp)).trans e1_0
    have e2_1 : ((w8.setCell ⟨qo, 2, none⟩ (.int .i64 price)).setCell ⟨qo, 5, none⟩ (.int .i64 (min x5 amount))).cell? ⟨qo, 1, none⟩ = some (.int .i64 x1) := (World.cell?_setCell_other _ _ _ _ (by simp)).trans e1_1
    have e2_2 : ((w8.setCell ⟨qo, 2, none⟩ (.int .i64 price)).setCell ⟨qo, 5, none⟩ (.int .i64 (min x5 amount))).cell? ⟨qo, 2, none⟩ = some (.int .i64 price) := (World.cell?_setCell_other _ _ _ _ (by simp)).trans e1_2
    have e2_3 : ((w8.setCell ⟨qo, 2, none⟩ (.int .i64 price)).setCell ⟨qo, 5, none⟩ (.int .i64 (min x5 amount))).cell? ⟨qo, 3, none⟩ = some (.int .i64 x3) := (World.cell?_setCell_other _ _ _ _ (by simp)).trans e1_3
    have e2_4 : ((w8.setCell ⟨qo, 2, none⟩ (.int .i64 price)).setCell ⟨qo, 5, none⟩ (.int .i64 (min x5 amount))).cell? ⟨qo, 4, none⟩ = some (.bool x4) := (World.cell?_setCell_other _ _ _ _ (by simp)).trans e1_4
    have e2_5 : ((w8.setCell ⟨qo, 2, none⟩ (.int .i64 price)).setCell ⟨qo, 5, none⟩ (.int .i64 (min x5 amount))).cell? ⟨qo, 5, none⟩ = some (.int .i64 (min x5 amount)) := World.cell?_setCell_same _ _ _ e1_5
    have e2_6 : ((w8.setCell ⟨qo, 2, none⟩ (.int .i64 price)).setCell ⟨qo, 5, none⟩ (.int .i64 (min x5 amount))).cell? ⟨qo, 6, none⟩ = some (.int .i64 x6) := (World.cell?_setCell_other _ _ _ _ (by simp)).trans e1_6
    have e2_7 : ((w8.setCell ⟨qo, 2, none⟩ (.int .i64 price)).setCell ⟨qo, 5, none⟩ (.int .i64 (min x5 amount))).cell? ⟨qo, 7, none⟩ = some (.bool x7) := (World.cell?_setCell_other _ _ _ _ (by simp)).trans e1_7
    go_wp2_with fail
    refine (l01Min_any x5 amount _).mono ?_
    rintro e w9 ⟨rfl, hw9⟩
    obtain rfl := hw9.symm
    go_wp2_with fail
    have HN1 : Hid (∀ k, (Ob.pick buy (.slice ua un uc) (Value.slice xa xn xc)).ownBlock = some k → k ≠ qo) := fun k hk => by cases buy; exact (fun e => by have h1 := HX1.out k hk; have h2 := HGL.out; have h3 := HGLW.out; omega); exact HUQ.out k hk
    have HN2 : Hid (∀ k, (Ob.pick buy (Value.slice ya yn yc) (.slice ua un uc)).ownBlock = some k → k ≠ qo) := fun k hk => by cases buy; exact HUQ.out k hk; exact (fun e => by have h1 := HX2.out k hk; have h2 := HGL.out; have h3 := HGLW.out; omega)
    have J9 : Hid (Bw.Is ((w8.setCell ⟨qo, 2, none⟩ (.int .i64 price)).setCell ⟨qo, 5, none⟩ (.int .i64 (min x5 amount))) base b (Ob.pick buy (.slice ua un uc) (Value.slice xa xn xc)) (Ob.pick buy (Value.slice ya yn yc) (.slice ua un uc)) z6 ((X.tell (4, x0, 0, price, amount)).put buy (Dm.out S j))) := ((Bw.Is.setBox J6.out kO6.out (by decide) (by decide) HN1.out HN2.out 2 _).setBox (kO6.out.setCell _ _) (by decide) (by decide) HN1.out HN2.out 5 _)
    have B9 : Hid (Below base w ((w8.setCell ⟨qo, 2, none⟩ (.int .i64 price)).setCell ⟨qo, 5, none⟩ (.int .i64 (min x5 amount)))) := (B6.out.setCell HQOB.out _).setCell HQOB.out _
    have F9 : Hid (Bw.Fr w ((w8.setCell ⟨qo, 2, none⟩ (.int .i64 price)).setCell ⟨qo, 5, none⟩ (.int .i64 (min x5 amount)))) := (F6.out.setNew (Nat.le_of_lt HQOW.out) 2 _).setNew (Nat.le_of_lt HQOW.out) 5 _
    obtain ⟨W9, hW9⟩ : ∃ W, W = ((w8.setCell ⟨qo, 2, none⟩ (.int .i64 price)).setCell ⟨qo, 5, none⟩ (.int .i64 (min x5 amount))) := ⟨_, rfl⟩
    rw [← hW9] at J9 B9 F9 ⊢
    clear hW9
    have hsd1 : (((X.tell (4, x0, 0, price, amount)).put buy (Dm.out S j)).side buy).length ≤ 100000 := by rw [Dm.side_put]; have := Dm.out_length S j hj; have := HSL.out; omega
    have hsd2 : (((X.tell (4, x0, 0, price, amount)).put buy (Dm.out S j)).side (!buy)).length ≤ 100000 := by rw [show (((X.tell (4, x0, 0, price, amount)).put buy (Dm.out S j)).side (!buy)) = X.side (!buy) by cases buy <;> rfl]; exact Nat.le_trans (HLN.out _) (by decide)
    have hfn : ∀ o ∈ ((X.tell (4, x0, 0, price, amount)).put buy (Dm.out S j)).side (!buy), Dm.Fine o := by rw [show (((X.tell (4, x0, 0, price, amount)).put buy (Dm.out S j)).side (!buy)) = X.side (!buy) by cases buy <;> rfl]; exact HFN.out _
    have hev : ((X.tell (4, x0, 0, price, amount)).put buy (Dm.out S j)).ev.length ≤ 100000 := by rw [Dm.ev_put]; simp only [Dm.Bk.tell, List.length_append, List.length_cons, List.length_nil]; have := HEV.out; omega
    have hmp : 0 ≤ min x5 amount ∧ min x5 amount ≤ 1000000000 := by have := HA.out; omega
    refine (bookCome_any base b _ _ _ ((X.tell (4, x0, 0, price, amount)).put buy (Dm.out S j)) x0 x1 price x3 x4 (min x5 amount) x6 x7 buy price amount true W9 J9.out (Nat.le_trans HWB.out B9.out.size) HA.out.1 HA.out.2 hmp hfn hsd2 hsd1 hev).mono ?_
    rintro e w10 ⟨rfl, ⟨xx, yy, zz, J10⟩, B10, F10⟩
    go_wp2_with fail
    refine bodyPost_ret (v := .int .i64 0) (by simp [results, Try.results89, go_sem]) rfl ⟨by rw [HE.out], ⟨_, _, _, by rw [HE.out]; exact J10⟩, B9.out.trans B10, F9.out.trans F10⟩
  · subst heq
    go_wp2_with fail
    refine (l06Out_any gl lc S j q2 w6 O4.out HLO.out hj).mono ?_
    rintro e w7 ⟨⟨u6, rfl, o6⟩, k6⟩
    have HAP : Hid (∀ k, u6.ownBlock = some k → (Ob.pick buy (Value.slice ya yn yc) (Value.slice xa xn xc)).ownBlock ≠ some k) := Bw.apart buy (fun k hk => by have h1 := HX1.out k hk; have h2 := (O4.out.lt gl rfl).2; have h3 := HGL.out; omega) (fun k hk => by have h1 := HX2.out k hk; have h2 := (O4.out.lt gl rfl).2; have h3 := HGL.out; omega) o6
    obtain ⟨ua, un, uc, rfl⟩ := o6.slice'
    have HUQ : Hid (∀ k, Value.ownBlock (.slice ua un uc) = some k → k ≠ qo) := fun k hk e => by have h1 := (o6.lt k hk).1; have h2 := kO4.out.lt; omega
    have HO6 : Hid (Rk.Own Or.S w7 base 40 (.slice ua un uc) (Dm.out S j)) := o6.mono (Nat.le_trans HWB.out B4.out.size)
    clear o6
    have B5 := Fk.hide (B4.out.trans (k6.mono (Nat.le_trans HWB.out B4.out.size)))
    have F5 := Fk.hide (F4.out.trans (Bw.Fr.of_below k6))
    have J5 := Fk.hide (J4.out.below k6)
    have kC5 : Hid (Wq.Kind w7 w.heap.size 27) := kC4.out.of_block (k6.block _ kC4.out.lt)
    have c0_5 := (k6.cell (p := ⟨w.heap.size, 0, none⟩) (by exact kC4.out.lt)).trans c0_4
    have c1_5 := (k6.cell (p := ⟨w.heap.size, 1, none⟩) (by exact kC4.out.lt)).trans c1_4
    have c2_5 := (k6.cell (p := ⟨w.heap.size, 2, none⟩) (by exact kC4.out.lt)).trans c2_4
    have c4_5 := (k6.cell (p := ⟨w.heap.size, 4, none⟩) (by exact kC4.out.lt)).trans c4_4
    have c5_5 := (k6.cell (p := ⟨w.heap.size, 5, none⟩) (by exact kC4.out.lt)).trans c5_4
    have O5 := Fk.hide (O4.out.below k6)
    have G5 := Fk.hide (G4.out.trans (Bw.Fr.of_below k6))
    have kO5 : Hid (Wq.Kind w7 qo 40) := kO4.out.of_block (k6.block _ kO4.out.lt)
    have p0_5 := (k6.cell (p := ⟨qo, 0, none⟩) (by exact kO4.out.lt)).trans p0_4
    have p1_5 := (k6.cell (p := ⟨qo, 1, none⟩) (by exact kO4.out.lt)).trans p1_4
    have p2_5 := (k6.cell (p := ⟨qo, 2, none⟩) (by exact kO4.out.lt)).trans p2_4
    have p3_5 := (k6.cell (p := ⟨qo, 3, none⟩) (by exact kO4.out.lt)).trans p3_4
    have p4_5 := (k6.cell (p := ⟨qo, 4, none⟩) (by exact kO4.out.lt)).trans p4_4
    have p5_5 := (k6.cell (p := ⟨qo, 5, none⟩) (by exact kO4.out.lt)).trans p5_4
    have p6_5 := (k6.cell (p := ⟨qo, 6, none⟩) (by exact kO4.out.lt)).trans p6_4
    have p7_5 := (k6.cell (p := ⟨qo, 7, none⟩) (by exact kO4.out.lt)).trans p7_4
    clear k6 c0_4 c1_4 c2_4 c4_4 c5_4 p0_4 p1_4 p2_4 p3_4 p4_4 p5_4 p6_4 p7_4
    clear B4 F4 J4 kC4 O4 kO4
    go_wp2_with fail
    refine (bookPut_any base b _ _ _ _ (X.tell (4, x0, 0, price, amount)) (Dm.out S j) buy w7 J5.out (Nat.le_trans HWB.out B5.out.size) HO6.out HAP.out).mono ?_
    rintro e w8 ⟨rfl, JJ, BB, FF⟩
    have B6 := Fk.hide (B5.out.trans BB)
    have F6 := Fk.hide (F5.out.trans FF)
    have J6 := Fk.hide JJ
    have kC6 : Hid (Wq.Kind w8 w.heap.size 27) := FF.kind kC5.out (by decide) (by decide)
    have c0_6 := (FF.cell (j := 0) kC5.out (by decide) (by decide)).trans c0_5
    have c1_6 := (FF.cell (j := 1) kC5.out (by decide) (by decide)).trans c1_5
    have c2_6 := (FF.cell (j := 2) kC5.out (by decide) (by decide)).trans c2_5
    have c4_6 := (FF.cell (j := 4) kC5.out (by decide) (by decide)).trans c4_5
    have c5_6 := (FF.cell (j := 5) kC5.out (by decide) (by decide)).trans c5_5
    have O6 := Fk.hide (FF.own O5.out (by decide) (by decide))
    have G6 := Fk.hide (G5.out.trans FF)
    have kO6 : Hid (Wq.Kind w8 qo 40) := FF.kind kO5.out (by decide) (by decide)
    have p0_6 := (FF.cell (j := 0) kO5.out (by decide) (by decide)).trans p0_5
    have p1_6 := (FF.cell (j := 1) kO5.out (by decide) (by decide)).trans p1_5
    have p2_6 := (FF.cell (j := 2) kO5.out (by decide) (by decide)).trans p2_5
    have p3_6 := (FF.cell (j := 3) kO5.out (by decide) (by decide)).trans p3_5
    have p4_6 := (FF.cell (j := 4) kO5.out (by decide) (by decide)).trans p4_5
    have p5_6 := (FF.cell (j := 5) kO5.out (by decide) (by decide)).trans p5_5
    have p6_6 := (FF.cell (j := 6) kO5.out (by decide) (by decide)).trans p6_5
    have p7_6 := (FF.cell (j := 7) kO5.out (by decide) (by decide)).trans p7_5
    clear BB FF c0_5 c1_5 c2_5 c4_5 c5_5 p0_5 p1_5 p2_5 p3_5 p4_5 p5_5 p6_5 p7_5
    clear B5 F5 J5 kC5 O5 kO5
    clear HAP HO6 JJ
    have pfz : ∀ i, w8.frozen? ⟨qo, i, none⟩ = false := fun i => (World.frozen?_of_block (a := ⟨qo, i, none⟩) (G6.out qo _ _ _ HQ5.out (by decide) (by decide))).trans (HFZ5.out i)
    have hcell1 : ∀ j v, w8.cell? ⟨w.heap.size, j, none⟩ = some v → (w8.setCell ⟨qo, 2, none⟩ (.int .i64 price)).cell? ⟨w.heap.size, j, none⟩ = some v := fun j v h => (World.cell?_setCell_other _ _ _ _ (by intro h; simp only [Addr.mk.injEq] at h; have := HQOW.out; omega)).trans h
    have hcell2 : ∀ j v, w8.cell? ⟨w.heap.size, j, none⟩ = some v → ((w8.setCell ⟨qo, 2, none⟩ (.int .i64 price)).setCell ⟨qo, 5, none⟩ (.int .i64 (min x5 amount))).cell? ⟨w.heap.size, j, none⟩ = some v := fun j v h => (World.cell?_setCell_other _ _ _ _ (by intro h; simp only [Addr.mk.injEq] at h; have := HQOW.out; omega)).trans (hcell1 j v h)
    have l5 := hcell1 5 _ c5_6
    have m4 := hcell2 4 _ c4_6
    have m5 := hcell2 5 _ c5_6
    clear hcell1 hcell2
    have e1_0 : (w8.setCell ⟨qo, 2, none⟩ (.int .i64 price)).cell? ⟨qo, 0, none⟩ = some (.int .i64 x0) := (World.cell?_setCell_other _ _ _ _ (by simp)).trans p0_6
    have e1_1 : (w8.setCell ⟨qo, 2, none⟩ (.int .i64 price)).cell? ⟨qo, 1, none⟩ = some (.int .i64 x1) := (World.cell?_setCell_other _ _ _ _ (by simp)).trans p1_6
    have e1_2 : (w8.setCell ⟨qo, 2, none⟩ (.int .i64 price)).cell? ⟨qo, 2, none⟩ = some (.int .i64 price) := World.cell?_setCell_same _ _ _ p2_6
    have e1_3 : (w8.setCell ⟨qo, 2, none⟩ (.int .i64 price)).cell? ⟨qo, 3, none⟩ = some (.int .i64 x3) := (World.cell?_setCell_other _ _ _ _ (by simp)).trans p3_6
    have e1_4 : (w8.setCell ⟨qo, 2, none⟩ (.int .i64 price)).cell? ⟨qo, 4, none⟩ = some (.bool x4) := (World.cell?_setCell_other _ _ _ _ (by simp)).trans p4_6
    have e1_5 : (w8.setCell ⟨qo, 2, none⟩ (.int .i64 price)).cell? ⟨qo, 5, none⟩ = some (.int .i64 x5) := (World.cell?_setCell_other _ _ _ _ (by simp)).trans p5_6
    have e1_6 : (w8.setCell ⟨qo, 2, none⟩ (.int .i64 price)).cell? ⟨qo, 6, none⟩ = some (.int .i64 x6) := (World.cell?_setCell_other _ _ _ _ (by simp)).trans p6_6
    have e1_7 : (w8.setCell ⟨qo, 2, none⟩ (.int .i64 price)).cell? ⟨qo, 7, none⟩ = some (.bool x7) := (World.cell?_setCell_other _ _ _ _ (by simp)).trans p7_6
    have e2_0 : ((w8.setCell ⟨qo, 2, none⟩ (.int .i64 price)).setCell ⟨qo, 5, none⟩ (.int .i64 (min x5 amount))).cell? ⟨qo, 0, none⟩ = some (.int .i64 x0) := (World.cell?_setCell_other _ _ _ _ (by simp)).trans e1_0
    have e2_1 : ((w8.setCell ⟨qo, 2, none⟩ (.int .i64 price)).setCell ⟨qo, 5, none⟩ (.int .i64 (min x5 amount))).cell? ⟨qo, 1, none⟩ = some (.int .i64 x1) := (World.cell?_setCell_other _ _ _ _ (by simp)).trans e1_1
    have e2_2 : ((w8.setCell ⟨qo, 2, none⟩ (.int .i64 price)).setCell ⟨qo, 5, none⟩ (.int .i64 (min x5 amount))).cell? ⟨qo, 2, none⟩ = some (.int .i64 price) := (World.cell?_setCell_other _ _ _ _ (by simp)).trans e1_2
    have e2_3 : ((w8.setCell ⟨qo, 2, none⟩ (.int .i64 price)).setCell ⟨qo, 5, none⟩ (.int .i64 (min x5 amount))).cell? ⟨qo, 3, none⟩ = some (.int .i64 x3) := (World.cell?_setCell_other _ _ _ _ (by simp)).trans e1_3
    have e2_4 : ((w8.setCell ⟨qo, 2, none⟩ (.int .i64 price)).setCell ⟨qo, 5, none⟩ (.int .i64 (min x5 amount))).cell? ⟨qo, 4, none⟩ = some (.bool x4) := (World.cell?_setCell_other _ _ _ _ (by simp)).trans e1_4
    have e2_5 : ((w8.setCell ⟨qo, 2, none⟩ (.int .i64 price)).setCell ⟨qo, 5, none⟩ (.int .i64 (min x5 amount))).cell? ⟨qo, 5, none⟩ = some (.int .i64 (min x5 amount)) := World.cell?_setCell_same _ _ _ e1_5
    have e2_6 : ((w8.setCell ⟨qo, 2, none⟩ (.int .i64 price)).setCell ⟨qo, 5, none⟩ (.int .i64 (min x5 amount))).cell? ⟨qo, 6, none⟩ = some (.int .i64 x6) := (World.cell?_setCell_other _ _ _ _ (by simp)).trans e1_6
    have e2_7 : ((w8.setCell ⟨qo, 2, none⟩ (.int .i64 price)).setCell ⟨qo, 5, none⟩ (.int .i64 (min x5 amount))).cell? ⟨qo, 7, none⟩ = some (.bool x7) := (World.cell?_setCell_other _ _ _ _ (by simp)).trans e1_7
    go_wp2_with fail
    refine (l01Min_any x5 amount _).mono ?_
    rintro e w9 ⟨rfl, hw9⟩
    obtain rfl := hw9.symm
    go_wp2_with fail
    have HN1 : Hid (∀ k, (Ob.pick buy (.slice ua un uc) (Value.slice xa xn xc)).ownBlock = some k → k ≠ qo) := fun k hk => by cases buy; exact (fun e => by have h1 := HX1.out k hk; have h2 := HGL.out; have h3 := HGLW.out; omega); exact HUQ.out k hk
    have HN2 : Hid (∀ k, (Ob.pick buy (Value.slice ya yn yc) (.slice ua un uc)).ownBlock = some k → k ≠ qo) := fun k hk => by cases buy; exact HUQ.out k hk; exact (fun e => by have h1 := HX2.out k hk; have h2 := HGL.out; have h3 := HGLW.out; omega)
    have J9 : Hid (Bw.Is ((w8.setCell ⟨qo, 2, none⟩ (.int .i64 price)).setCell ⟨qo, 5, none⟩ (.int .i64 (min x5 amount))) base b (Ob.pick buy (.slice ua un uc) (Value.slice xa xn xc)) (Ob.pick buy (Value.slice ya yn yc) (.slice ua un uc)) z6 ((X.tell (4, x0, 0, price, amount)).put buy (Dm.out S j))) := ((Bw.Is.setBox J6.out kO6.out (by decide) (by decide) HN1.out HN2.out 2 _).setBox (kO6.out.setCell _ _) (by decide) (by decide) HN1.out HN2.out 5 _)
    have B9 : Hid (Below base w ((w8.setCell ⟨qo, 2, none⟩ (.int .i64 price)).setCell ⟨qo, 5, none⟩ (.int .i64 (min x5 amount)))) := (B6.out.setCell HQOB.out _).setCell HQOB.out _
    have F9 : Hid (Bw.Fr w ((w8.setCell ⟨qo, 2, none⟩ (.int .i64 price)).setCell ⟨qo, 5, none⟩ (.int .i64 (min x5 amount)))) := (F6.out.setNew (Nat.le_of_lt HQOW.out) 2 _).setNew (Nat.le_of_lt HQOW.out) 5 _
    obtain ⟨W9, hW9⟩ : ∃ W, W = ((w8.setCell ⟨qo, 2, none⟩ (.int .i64 price)).setCell ⟨qo, 5, none⟩ (.int .i64 (min x5 amount))) := ⟨_, rfl⟩
    rw [← hW9] at J9 B9 F9 ⊢
    clear hW9
    have hsd1 : (((X.tell (4, x0, 0, price, amount)).put buy (Dm.out S j)).side buy).length ≤ 100000 := by rw [Dm.side_put]; have := Dm.out_length S j hj; have := HSL.out; omega
    have hsd2 : (((X.tell (4, x0, 0, price, amount)).put buy (Dm.out S j)).side (!buy)).length ≤ 100000 := by rw [show (((X.tell (4, x0, 0, price, amount)).put buy (Dm.out S j)).side (!buy)) = X.side (!buy) by cases buy <;> rfl]; exact Nat.le_trans (HLN.out _) (by decide)
    have hfn : ∀ o ∈ ((X.tell (4, x0, 0, price, amount)).put buy (Dm.out S j)).side (!buy), Dm.Fine o := by rw [show (((X.tell (4, x0, 0, price, amount)).put buy (Dm.out S j)).side (!buy)) = X.side (!buy) by cases buy <;> rfl]; exact HFN.out _
    have hev : ((X.tell (4, x0, 0, price, amount)).put buy (Dm.out S j)).ev.length ≤ 100000 := by rw [Dm.ev_put]; simp only [Dm.Bk.tell, List.length_append, List.length_cons, List.length_nil]; have := HEV.out; omega
    have hmp : 0 ≤ min x5 amount ∧ min x5 amount ≤ 1000000000 := by have := HA.out; omega
    refine (bookCome_any base b _ _ _ ((X.tell (4, x0, 0, price, amount)).put buy (Dm.out S j)) x0 x1 price x3 x4 (min x5 amount) x6 x7 buy price amount true W9 J9.out (Nat.le_trans HWB.out B9.out.size) HA.out.1 HA.out.2 hmp hfn hsd2 hsd1 hev).mono ?_
    rintro e w10 ⟨rfl, ⟨xx, yy, zz, J10⟩, B10, F10⟩
    go_wp2_with fail
    refine bodyPost_ret (v := .int .i64 0) (by simp [results, Try.results89, go_sem]) rfl ⟨by rw [HE.out], ⟨_, _, _, by rw [HE.out]; exact J10⟩, B9.out.trans B10, F9.out.trans F10⟩
end Go.Proofs.Ytfagldipjpaceaa
