/- The walk of the specification's order: what a limit or a market order does. -/
import Derived.Test.YtfagldipjpaceaaJoined3
import Derived.Test.YtfagldipjpaceaaBookClone
import Derived.Test.YtfagldipjpaceaaBookCome
namespace Go.Proofs.Ytfagldipjpaceaa
open Go.RowKit
set_option linter.unusedVariables false
set_option linter.unusedSimpArgs false
theorem Bw.Is.setNext {w : World} {base b : Nat} {x y z : Value} {X : Dm.Bk} (h : Bw.Is w base b x y z X) (m : Int) : Bw.Is (w.setCell ⟨b, 2, none⟩ (.int .i64 m)) base b x y z ⟨X.b, X.a, m, X.ev⟩ := by
  have HN : ∀ j, j ≠ 2 → (⟨b, 2, none⟩ : Addr) ≠ ⟨b, j, none⟩ := fun j hj e => hj (by have := congrArg Addr.off e; simpa using this.symm)
  refine ⟨⟨?_, ?_, h.two.ne⟩, ?_, h.hb, h.kind.setCell _ _, ?_, ?_, World.cell?_setCell_same _ _ _ h.c2, ?_, ?_⟩
  · exact h.two.b.kept (Fk.grownBy_setCell _ b 2 _) (fun j hj e => h.kind.off h.two.b (by decide) (by cases e; exact hj))
  · exact h.two.a.kept (Fk.grownBy_setCell _ b 2 _) (fun j hj e => h.kind.off h.two.a (by decide) (by cases e; exact hj))
  · exact h.evs.kept (Fk.grownBy_setCell _ b 2 _) (fun j hj e => h.kind.off h.evs (by decide) (by cases e; exact hj))
  · exact (World.cell?_setCell_other _ _ _ _ (HN 0 (by decide))).trans h.c0
  · exact (World.cell?_setCell_other _ _ _ _ (HN 1 (by decide))).trans h.c1
  · exact (World.cell?_setCell_other _ _ _ _ (HN 3 (by decide))).trans h.c3
  · intro j
    rw [World.frozen?_setCell]
    exact h.fr j
theorem Bw.Fr.setBook {w : World} {b i : Nat} {u : Value} (hk : Wq.Kind w b 102) : Bw.Fr w (w.setCell ⟨b, i, none⟩ u) := fun q cs T fr hq h1 _ => (Fk.grownBy_setCell w b i u).block q (Array.getElem?_eq_some_iff.1 hq).1 (fun e => hk.ne hq h1 (Option.some.inj e))
set_option maxRecDepth 100000 in
set_option maxHeartbeats 8000000 in
theorem bookOrder_any (base b : Nat) (x y z : Value) (X : Dm.Bk) (kind owner id : Int) (buy : Bool) (price amount life : Int) (peak : Int) (guard : Bool) (w : World) (hI : Bw.Is w base b x y z X) (hw : base ≤ w.heap.size) (hkl : (kind = 1 ∧ (life = 0 ∨ life = 1 ∨ life = 2 ∨ life = 3)) ∨ (kind = 2 ∧ life = 0)) (ha : 0 ≤ amount ∧ amount ≤ 100000) (hp : 0 ≤ peak ∧ peak ≤ 1000000) (hF : ∀ c, ∀ o ∈ X.side c, Dm.Fine o) (hn : ∀ c, (X.side c).length ≤ 1000) (he : X.ev.length ≤ 1000) (hn0 : 0 ≤ X.n ∧ X.n ≤ 1000000) :
    Calls Try.prog 88 #[.pointer (some ⟨b, 0, none⟩), .agg #[.int .i64 kind, .int .i64 owner, .int .i64 id, .bool buy, .int .i64 price, .int .i64 amount, .int .i64 life, .bool false, .int .i64 peak, .bool guard]] w fun e w' => e = .returned (.int .i64 (Dm.order ⟨kind, owner, id, buy, price, amount, life, false, peak, guard⟩ X).1) ∧ (∃ x y z, Bw.Is w' base b x y z (Dm.order ⟨kind, owner, id, buy, price, amount, life, false, peak, guard⟩ X).2) ∧ Below base w w' ∧ Bw.Fr w w' := by
  obtain ⟨W, hW⟩ : ∃ W, W = w.alloc (.cells #[.int .i64 kind, .int .i64 owner, .int .i64 id, .bool buy, .int .i64 price, .int .i64 amount, .int .i64 life, .bool false, .int .i64 peak, .bool guard] 27) := ⟨_, rfl⟩
  have bW : Below w.heap.size w W := by rw [hW]; exact (Below.refl _ _).alloc (Nat.le_refl _) _
  have kC : Hid (Wq.Kind W w.heap.size 27) := by show Wq.Kind _ _ _; rw [hW]; exact ⟨_, _, heap_alloc_new w _⟩
  have o0 : W.cell? ⟨w.heap.size, 0, none⟩ = some (.int .i64 kind) := by rw [hW, Fk.cellTop _ _ _ _ _ rfl]; rfl
  have o1 : W.cell? ⟨w.heap.size, 1, none⟩ = some (.int .i64 owner) := by rw [hW, Fk.cellTop _ _ _ _ _ rfl]; rfl
  have o3 : W.cell? ⟨w.heap.size, 3, none⟩ = some (.bool buy) := by rw [hW, Fk.cellTop _ _ _ _ _ rfl]; rfl
  have o4 : W.cell? ⟨w.heap.size, 4, none⟩ = some (.int .i64 price) := by rw [hW, Fk.cellTop _ _ _ _ _ rfl]; rfl
  have o5 : W.cell? ⟨w.heap.size, 5, none⟩ = some (.int .i64 amount) := by rw [hW, Fk.cellTop _ _ _ _ _ rfl]; rfl
  have o6 : W.cell? ⟨w.heap.size, 6, none⟩ = some (.int .i64 life) := by rw [hW, Fk.cellTop _ _ _ _ _ rfl]; rfl
  have o7 : W.cell? ⟨w.heap.size, 7, none⟩ = some (.bool false) := by rw [hW, Fk.cellTop _ _ _ _ _ rfl]; rfl
  have o8 : W.cell? ⟨w.heap.size, 8, none⟩ = some (.int .i64 peak) := by rw [hW, Fk.cellTop _ _ _ _ _ rfl]; rfl
  have o9 : W.cell? ⟨w.heap.size, 9, none⟩ = some (.bool guard) := by rw [hW, Fk.cellTop _ _ _ _ _ rfl]; rfl
  have HW := Fk.hide hW
  have HBW := Fk.hide (bW.mono hw)
  have HFW := Fk.hide (Bw.Fr.of_below bW)
  have HI := Fk.hide (hI.below bW)
  have HFN := Fk.hide hF
  have HLN := Fk.hide hn
  have i0 := HI.out.c0
  have i1 := HI.out.c1
  have i2 := HI.out.c2
  have f2 := HI.out.fr 2
  obtain ⟨ax, cx, rfl⟩ := HI.out.two.b.slice
  obtain ⟨ay, cy, rfl⟩ := HI.out.two.a.slice
  obtain ⟨n, hnn⟩ : ∃ n, n = X.n := ⟨_, rfl⟩
  rw [← hnn] at i2 hn0
  have HNN := Fk.hide hnn
  have HWz : Hid (w.heap.size ≤ W.heap.size) := bW.size
  have HLB : Hid (X.b.length ≤ 1000) := hn true
  have HLA : Hid (X.a.length ≤ 1000) := hn false
  clear hW bW hI hF hn hnn
  rcases hkl with ⟨rfl, rfl | rfl | rfl | rfl⟩ | ⟨rfl, rfl⟩
  · skip
    by_cases hmax : (1000000 : Int) ≤ n
    · have HE : Hid (Dm.order (⟨1, owner, id, buy, price, amount, 0, false, peak, guard⟩ : Cm.C) X = (9, X)) := by show _ = _; unfold Dm.order; rw [if_pos (by rw [← HNN.out]; simp [hmax])]
      go_enter Try.func88, Try.ntmps88
      go_wp2_with fail
      rw [← HW.out]
      have r0 := cell_regrown i0
      have r1 := cell_regrown i1
      have r2 := cell_regrown i2
      have dn : decide ((1000000 : Int) ≤ n) = true := decide_eq_true hmax
      go_wp2_with fail
      refine wp_region_quiet_below (by kernel_rfl) (by kernel_rfl) ?_
      repeat (go_big_quiet_step (fail))
      refine wpQuiet_nil ?_
      intro w4 hw'
      obtain ⟨⟨dq, osq⟩, hw''⟩ := hw'
      have kw4 : Below W.heap.size W w4 := by rw [hw'']; exact below_regrown W dq osq
      clear hw''
      have B4 := Fk.hide (HBW.out.trans (kw4.mono (Nat.le_trans hw HWz.out)))
      have F4 := Fk.hide (HFW.out.trans (Bw.Fr.of_below kw4))
      have J4 := Fk.hide (HI.out.below kw4)
      have HK4 := Fk.hide kw4
      have s0 := (kw4.cell (p := ⟨w.heap.size, 0, none⟩) (by exact kC.out.lt)).trans o0
      have s1 := (kw4.cell (p := ⟨w.heap.size, 1, none⟩) (by exact kC.out.lt)).trans o1
      have s3 := (kw4.cell (p := ⟨w.heap.size, 3, none⟩) (by exact kC.out.lt)).trans o3
      have s4 := (kw4.cell (p := ⟨w.heap.size, 4, none⟩) (by exact kC.out.lt)).trans o4
      have s5 := (kw4.cell (p := ⟨w.heap.size, 5, none⟩) (by exact kC.out.lt)).trans o5
      have s6 := (kw4.cell (p := ⟨w.heap.size, 6, none⟩) (by exact kC.out.lt)).trans o6
      have s7 := (kw4.cell (p := ⟨w.heap.size, 7, none⟩) (by exact kC.out.lt)).trans o7
      have s8 := (kw4.cell (p := ⟨w.heap.size, 8, none⟩) (by exact kC.out.lt)).trans o8
      have s9 := (kw4.cell (p := ⟨w.heap.size, 9, none⟩) (by exact kC.out.lt)).trans o9
      have kC4 : Hid (Wq.Kind w4 w.heap.size 27) := kC.out.of_block (kw4.block _ kC.out.lt)
      have hw4 : base ≤ w4.heap.size := Nat.le_trans hw B4.out.size
      have j0 := J4.out.c0
      have j1 := J4.out.c1
      have HSX : Hid (∃ a n c, Value.slice ax X.b.length cx = .slice a n c) := ⟨_, _, _, rfl⟩
      have HSY : Hid (∃ a n c, Value.slice ay X.a.length cy = .slice a n c) := ⟨_, _, _, rfl⟩
      clear kw4 r0 r1 r2
      go_wp2_with fail
      refine bodyPost_ret (v := .int .i64 9) (by simp [results, Try.results88, go_sem]) rfl ⟨by rw [HE.out], ⟨_, _, _, by rw [HE.out]; exact J4.out⟩, B4.out, F4.out⟩
    · by_cases h24 : (24 : Int) ≤ (X.b.length : Int) + X.a.length
      · have HE : Hid (Dm.order (⟨1, owner, id, buy, price, amount, 0, false, peak, guard⟩ : Cm.C) X = (9, X)) := by show _ = _; unfold Dm.order; rw [if_pos (by rw [← HNN.out]; simp [Dm.rests, h24])]
        go_enter Try.func88, Try.ntmps88
        go_wp2_with fail
        rw [← HW.out]
        have r0 := cell_regrown i0
        have r1 := cell_regrown i1
        have r2 := cell_regrown i2
        have dn : decide ((1000000 : Int) ≤ n) = false := decide_eq_false (by omega)
        have hb1 := HLB.out
        have ha1 := HLA.out
        have d24 : decide ((24 : Int) ≤ (X.b.length : Int) + X.a.length) = true := decide_eq_true h24
        go_wp2_with fail
        refine wp_region_quiet_below (by kernel_rfl) (by kernel_rfl) ?_
        repeat (go_big_quiet_step (fail))
        refine wpQuiet_nil ?_
        intro w4 hw'
        obtain ⟨⟨dq, osq⟩, hw''⟩ := hw'
        have kw4 : Below W.heap.size W w4 := by rw [hw'']; exact below_regrown W dq osq
        clear hw''
        have B4 := Fk.hide (HBW.out.trans (kw4.mono (Nat.le_trans hw HWz.out)))
        have F4 := Fk.hide (HFW.out.trans (Bw.Fr.of_below kw4))
        have J4 := Fk.hide (HI.out.below kw4)
        have HK4 := Fk.hide kw4
        have s0 := (kw4.cell (p := ⟨w.heap.size, 0, none⟩) (by exact kC.out.lt)).trans o0
        have s1 := (kw4.cell (p := ⟨w.heap.size, 1, none⟩) (by exact kC.out.lt)).trans o1
        have s3 := (kw4.cell (p := ⟨w.heap.size, 3, none⟩) (by exact kC.out.lt)).trans o3
        have s4 := (kw4.cell (p := ⟨w.heap.size, 4, none⟩) (by exact kC.out.lt)).trans o4
        have s5 := (kw4.cell (p := ⟨w.heap.size, 5, none⟩) (by exact kC.out.lt)).trans o5
        have s6 := (kw4.cell (p := ⟨w.heap.size, 6, none⟩) (by exact kC.out.lt)).trans o6
        have s7 := (kw4.cell (p := ⟨w.heap.size, 7, none⟩) (by exact kC.out.lt)).trans o7
        have s8 := (kw4.cell (p := ⟨w.heap.size, 8, none⟩) (by exact kC.out.lt)).trans o8
        have s9 := (kw4.cell (p := ⟨w.heap.size, 9, none⟩) (by exact kC.out.lt)).trans o9
        have kC4 : Hid (Wq.Kind w4 w.heap.size 27) := kC.out.of_block (kw4.block _ kC.out.lt)
        have hw4 : base ≤ w4.heap.size := Nat.le_trans hw B4.out.size
        have j0 := J4.out.c0
        have j1 := J4.out.c1
        have HSX : Hid (∃ a n c, Value.slice ax X.b.length cx = .slice a n c) := ⟨_, _, _, rfl⟩
        have HSY : Hid (∃ a n c, Value.slice ay X.a.length cy = .slice a n c) := ⟨_, _, _, rfl⟩
        clear kw4 r0 r1 r2
        go_wp2_with fail
        refine bodyPost_ret (v := .int .i64 9) (by simp [results, Try.results88, go_sem]) rfl ⟨by rw [HE.out], ⟨_, _, _, by rw [HE.out]; exact J4.out⟩, B4.out, F4.out⟩
      · have hq : (decide ((1000000 : Int) ≤ X.n) || (Dm.rests (⟨1, owner, id, buy, price, amount, 0, false, peak, guard⟩ : Cm.C) && decide ((24 : Int) ≤ (X.b.length : Int) + X.a.length))) = false := by rw [← HNN.out]; simp [hmax, h24] <;> omega
        go_enter Try.func88, Try.ntmps88
        go_wp2_with fail
        rw [← HW.out]
        have r0 := cell_regrown i0
        have r1 := cell_regrown i1
        have r2 := cell_regrown i2
        have dn : decide ((1000000 : Int) ≤ n) = false := decide_eq_false (by omega)
        have hb1 := HLB.out
        have ha1 := HLA.out
        have d24 : decide ((24 : Int) ≤ (X.b.length : Int) + X.a.length) = false := decide_eq_false (by omega)
        go_wp2_with fail
        refine wp_region_quiet_below (by kernel_rfl) (by kernel_rfl) ?_
        repeat (go_big_quiet_step (fail))
        refine wpQuiet_nil ?_
        intro w4 hw'
        obtain ⟨⟨dq, osq⟩, hw''⟩ := hw'
        have kw4 : Below W.heap.size W w4 := by rw [hw'']; exact below_regrown W dq osq
        clear hw''
        have B4 := Fk.hide (HBW.out.trans (kw4.mono (Nat.le_trans hw HWz.out)))
        have F4 := Fk.hide (HFW.out.trans (Bw.Fr.of_below kw4))
        have J4 := Fk.hide (HI.out.below kw4)
        have HK4 := Fk.hide kw4
        have s0 := (kw4.cell (p := ⟨w.heap.size, 0, none⟩) (by exact kC.out.lt)).trans o0
        have s1 := (kw4.cell (p := ⟨w.heap.size, 1, none⟩) (by exact kC.out.lt)).trans o1
        have s3 := (kw4.cell (p := ⟨w.heap.size, 3, none⟩) (by exact kC.out.lt)).trans o3
        have s4 := (kw4.cell (p := ⟨w.heap.size, 4, none⟩) (by exact kC.out.lt)).trans o4
        have s5 := (kw4.cell (p := ⟨w.heap.size, 5, none⟩) (by exact kC.out.lt)).trans o5
        have s6 := (kw4.cell (p := ⟨w.heap.size, 6, none⟩) (by exact kC.out.lt)).trans o6
        have s7 := (kw4.cell (p := ⟨w.heap.size, 7, none⟩) (by exact kC.out.lt)).trans o7
        have s8 := (kw4.cell (p := ⟨w.heap.size, 8, none⟩) (by exact kC.out.lt)).trans o8
        have s9 := (kw4.cell (p := ⟨w.heap.size, 9, none⟩) (by exact kC.out.lt)).trans o9
        have kC4 : Hid (Wq.Kind w4 w.heap.size 27) := kC.out.of_block (kw4.block _ kC.out.lt)
        have hw4 : base ≤ w4.heap.size := Nat.le_trans hw B4.out.size
        have j0 := J4.out.c0
        have j1 := J4.out.c1
        have HSX : Hid (∃ a n c, Value.slice ax X.b.length cx = .slice a n c) := ⟨_, _, _, rfl⟩
        have HSY : Hid (∃ a n c, Value.slice ay X.a.length cy = .slice a n c) := ⟨_, _, _, rfl⟩
        clear kw4 r0 r1 r2
        go_wp2_with fail
        refine (side_any b _ _ (!buy) w4 j0 j1 HSX.out HSY.out).mono ?_
        rintro e w5 ⟨rfl, hw5⟩
        obtain rfl := hw5.symm
        obtain ⟨vs, hvs⟩ : ∃ v, v = Ob.pick (!buy) (Value.slice ax X.b.length cx) (Value.slice ay X.a.length cy) := ⟨_, rfl⟩
        rw [← hvs]
        obtain ⟨avs, nvs, cvs, rfl⟩ : ∃ a n c, vs = .slice a n c := by rw [hvs]; cases buy; exact ⟨_, _, _, rfl⟩; exact ⟨_, _, _, rfl⟩
        clear hvs j0 j1
        go_wp2_with fail
        have r7 := cell_regrown s7
        refine wp_region_quiet_below (by kernel_rfl) (by kernel_rfl) ?_
        repeat (go_big_quiet_step (fail))
        refine wpQuiet_nil ?_
        intro w6 hw'
        obtain ⟨⟨dq, osq⟩, hw''⟩ := hw'
        have kw6 : Below w4.heap.size w4 w6 := by rw [hw'']; exact below_regrown w4 dq osq
        clear hw''
        have B6 := Fk.hide (B4.out.trans (kw6.mono hw4))
        have F6 := Fk.hide (F4.out.trans (Bw.Fr.of_below kw6))
        have J6 := Fk.hide (J4.out.below kw6)
        have t0 := (kw6.cell (p := ⟨w.heap.size, 0, none⟩) (by exact kC4.out.lt)).trans s0
        have t1 := (kw6.cell (p := ⟨w.heap.size, 1, none⟩) (by exact kC4.out.lt)).trans s1
        have t3 := (kw6.cell (p := ⟨w.heap.size, 3, none⟩) (by exact kC4.out.lt)).trans s3
        have t4 := (kw6.cell (p := ⟨w.heap.size, 4, none⟩) (by exact kC4.out.lt)).trans s4
        have t5 := (kw6.cell (p := ⟨w.heap.size, 5, none⟩) (by exact kC4.out.lt)).trans s5
        have t6 := (kw6.cell (p := ⟨w.heap.size, 6, none⟩) (by exact kC4.out.lt)).trans s6
        have t7 := (kw6.cell (p := ⟨w.heap.size, 7, none⟩) (by exact kC4.out.lt)).trans s7
        have t8 := (kw6.cell (p := ⟨w.heap.size, 8, none⟩) (by exact kC4.out.lt)).trans s8
        have t9 := (kw6.cell (p := ⟨w.heap.size, 9, none⟩) (by exact kC4.out.lt)).trans s9
        have kC6 : Hid (Wq.Kind w6 w.heap.size 27) := kC4.out.of_block (kw6.block _ kC4.out.lt)
        have hw6 : base ≤ w6.heap.size := Nat.le_trans hw B6.out.size
        have j2 : w6.cell? ⟨b, 2, none⟩ = some (.int .i64 n) := J6.out.c2.trans (by rw [HNN.out])
        have jf := J6.out.fr 2
        clear kw6 r7 s0 s1 s3 s4 s5 s6 s7 s8 s9 B4 F4 J4 kC4
        have hc6 : w.heap.size < w6.heap.size := kC6.out.lt
        have hb6 : b < w6.heap.size := J6.out.kind.lt
        go_wp2_with fail
        go_region_held3 (fun w' => w'.cell? ⟨b, 2, none⟩ = some (.int .i64 n) ∧ w'.cell? ⟨w.heap.size, 1, none⟩ = some (.int .i64 owner) ∧ w'.cell? ⟨w.heap.size, 4, none⟩ = some (.int .i64 price) ∧ w'.cell? ⟨w.heap.size, 6, none⟩ = some (.int .i64 0) ∧ w'.cell? ⟨w.heap.size, 8, none⟩ = some (.int .i64 peak) ∧ w'.cell? ⟨w.heap.size, 9, none⟩ = some (.bool guard))
          (first | go_keep | (go_split_ands; exact ⟨by assumption, by assumption, by assumption, by assumption, by assumption, by assumption⟩))
          (fail)
        all_goals
          obtain ⟨W7, hW7⟩ : ∃ W, W = (w6.alloc (.cells #[.int .i64 n, .int .i64 owner, .int .i64 price, .int .i64 0, .bool false, .int .i64 peak, .int .i64 0, .bool guard] 40)).drew := ⟨_, rfl⟩
          have b7 : Below w6.heap.size w6 W7 := by rw [hW7]; exact Below.drew ((Below.refl _ _).alloc (Nat.le_refl _) _)
          have kO7 : Hid (Wq.Kind W7 w6.heap.size 40) := by show Wq.Kind _ _ _; rw [hW7]; exact ⟨_, _, heap_alloc_new w6 _⟩
          have p0 : W7.cell? ⟨w6.heap.size, 0, none⟩ = some (.int .i64 n) := by rw [hW7]; exact Fk.cellTop w6 _ _ _ _ rfl
          have p1 : W7.cell? ⟨w6.heap.size, 1, none⟩ = some (.int .i64 owner) := by rw [hW7]; exact Fk.cellTop w6 _ _ _ _ rfl
          have p2 : W7.cell? ⟨w6.heap.size, 2, none⟩ = some (.int .i64 price) := by rw [hW7]; exact Fk.cellTop w6 _ _ _ _ rfl
          have p3 : W7.cell? ⟨w6.heap.size, 3, none⟩ = some (.int .i64 0) := by rw [hW7]; exact Fk.cellTop w6 _ _ _ _ rfl
          have p4 : W7.cell? ⟨w6.heap.size, 4, none⟩ = some (.bool false) := by rw [hW7]; exact Fk.cellTop w6 _ _ _ _ rfl
          have p5 : W7.cell? ⟨w6.heap.size, 5, none⟩ = some (.int .i64 peak) := by rw [hW7]; exact Fk.cellTop w6 _ _ _ _ rfl
          have p6 : W7.cell? ⟨w6.heap.size, 6, none⟩ = some (.int .i64 0) := by rw [hW7]; exact Fk.cellTop w6 _ _ _ _ rfl
          have p7 : W7.cell? ⟨w6.heap.size, 7, none⟩ = some (.bool guard) := by rw [hW7]; exact Fk.cellTop w6 _ _ _ _ rfl
          have J7 := Fk.hide (J6.out.below b7)
          have B7 := Fk.hide (B6.out.trans (b7.mono hw6))
          have F7 := Fk.hide (F6.out.trans (Bw.Fr.of_below b7))
          have kC7 : Hid (Wq.Kind W7 w.heap.size 27) := kC6.out.of_block (b7.block _ hc6)
          have e0 := (b7.cell (p := ⟨w.heap.size, 0, none⟩) (by exact hc6)).trans t0
          have e1 := (b7.cell (p := ⟨w.heap.size, 1, none⟩) (by exact hc6)).trans t1
          have e3 := (b7.cell (p := ⟨w.heap.size, 3, none⟩) (by exact hc6)).trans t3
          have e4 := (b7.cell (p := ⟨w.heap.size, 4, none⟩) (by exact hc6)).trans t4
          have e5 := (b7.cell (p := ⟨w.heap.size, 5, none⟩) (by exact hc6)).trans t5
          have e6 := (b7.cell (p := ⟨w.heap.size, 6, none⟩) (by exact hc6)).trans t6
          have e7 := (b7.cell (p := ⟨w.heap.size, 7, none⟩) (by exact hc6)).trans t7
          have e8 := (b7.cell (p := ⟨w.heap.size, 8, none⟩) (by exact hc6)).trans t8
          have e9 := (b7.cell (p := ⟨w.heap.size, 9, none⟩) (by exact hc6)).trans t9
          have g2 := (b7.cell (p := ⟨b, 2, none⟩) (by exact hb6)).trans j2
          have gf := (b7.frozen (p := ⟨b, 2, none⟩) (by exact hb6)).trans jf
          have hw7 : base ≤ W7.heap.size := Nat.le_trans hw6 b7.size
          rw [← hW7]
          clear hW7 b7 t0 t1 t3 t4 t5 t6 t7 t8 t9 j2 jf J6 B6 F6 kC6
          have hbo : Hid ((⟨b, 2, none⟩ : Addr) ≠ ⟨w6.heap.size, 0, none⟩) := fun e => by have := congrArg Addr.block e; simp at this; omega
          have l0 : (W7.setCell ⟨b, 2, none⟩ (.int .i64 (n + 1))).cell? ⟨w6.heap.size, 0, none⟩ = some (.int .i64 n) := (World.cell?_setCell_other _ _ _ _ hbo.out).trans p0
          have n1 : IntKind.i64.wrap (n + 1) = n + 1 := by rw [IntKind.wrap_i64]; omega
          clear hc6 hb6
          go_wp2_with fail
          have J8 : Hid (Bw.Is (W7.setCell ⟨b, 2, none⟩ (.int .i64 (n + 1))) base b (.slice ax X.b.length cx) (.slice ay X.a.length cy) z X.next) := by show Bw.Is _ _ _ _ _ _ _; have h := J7.out.setNext (n + 1); unfold Dm.Bk.next; rw [← HNN.out]; exact h
          have B8 : Hid (Below base w (W7.setCell ⟨b, 2, none⟩ (.int .i64 (n + 1)))) := B7.out.setCell J7.out.hb _
          have F8 : Hid (Bw.Fr w (W7.setCell ⟨b, 2, none⟩ (.int .i64 (n + 1)))) := F7.out.trans (Bw.Fr.setBook J7.out.kind)
          have F78 : Hid (Bw.Fr W7 (W7.setCell ⟨b, 2, none⟩ (.int .i64 (n + 1)))) := Bw.Fr.setBook J7.out.kind
          refine (bookTell_any base b _ _ z X.next 1 n 0 0 0 _ J8.out (Nat.le_trans hw B8.out.size) (by simp only [Dm.Bk.next]; omega)).mono ?_
          rintro e w9 ⟨rfl, ⟨z9, J9⟩, B9, F9⟩
          have J9' : Hid (Bw.Is w9 base b (.slice ax X.b.length cx) (.slice ay X.a.length cy) z9 (Dm.taken X)) := by show Bw.Is _ _ _ _ _ _ _; unfold Dm.taken; rw [← HNN.out]; exact J9
          have B9' := Fk.hide (B8.out.trans B9)
          have F9' := Fk.hide (F8.out.trans F9)
          have F79 := Fk.hide (F78.out.trans F9)
          have q0 := (F79.out.cell (j := 0) kO7.out (by decide) (by decide)).trans p0
          have q1 := (F79.out.cell (j := 1) kO7.out (by decide) (by decide)).trans p1
          have q2 := (F79.out.cell (j := 2) kO7.out (by decide) (by decide)).trans p2
          have q3 := (F79.out.cell (j := 3) kO7.out (by decide) (by decide)).trans p3
          have q4 := (F79.out.cell (j := 4) kO7.out (by decide) (by decide)).trans p4
          have q5 := (F79.out.cell (j := 5) kO7.out (by decide) (by decide)).trans p5
          have q6 := (F79.out.cell (j := 6) kO7.out (by decide) (by decide)).trans p6
          have q7 := (F79.out.cell (j := 7) kO7.out (by decide) (by decide)).trans p7
          have v0 := (F79.out.cell (j := 0) kC7.out (by decide) (by decide)).trans e0
          have v1 := (F79.out.cell (j := 1) kC7.out (by decide) (by decide)).trans e1
          have v3 := (F79.out.cell (j := 3) kC7.out (by decide) (by decide)).trans e3
          have v4 := (F79.out.cell (j := 4) kC7.out (by decide) (by decide)).trans e4
          have v5 := (F79.out.cell (j := 5) kC7.out (by decide) (by decide)).trans e5
          have v6 := (F79.out.cell (j := 6) kC7.out (by decide) (by decide)).trans e6
          have v7 := (F79.out.cell (j := 7) kC7.out (by decide) (by decide)).trans e7
          have v8 := (F79.out.cell (j := 8) kC7.out (by decide) (by decide)).trans e8
          have v9 := (F79.out.cell (j := 9) kC7.out (by decide) (by decide)).trans e9
          have kO9 : Hid (Wq.Kind w9 w6.heap.size 40) := by
            obtain ⟨cs, fr, hq⟩ := kO7.out
            exact ⟨cs, fr, (F79.out _ _ _ _ hq (by decide) (by decide)).trans hq⟩
          have kC9 : Hid (Wq.Kind w9 w.heap.size 27) := by
            obtain ⟨cs, fr, hq⟩ := kC7.out
            exact ⟨cs, fr, (F79.out _ _ _ _ hq (by decide) (by decide)).trans hq⟩
          have hw9 : base ≤ w9.heap.size := Nat.le_trans hw B9'.out.size
          clear p0 p1 p2 p3 p4 p5 p6 p7 e0 e1 e3 e4 e5 e6 e7 e8 e9 g2 gf l0 J9 B9 F9 J8 B8 F8 F78 J7 B7 F7 F79 kO7 kC7 n1
          have HFT : Hid (∀ o ∈ (Dm.taken X).side (!buy), Dm.Fine o) := by show ∀ o ∈ _, _; rw [Dm.side_taken]; exact HFN.out _
          have HL1 : Hid (((Dm.taken X).side (!buy)).length ≤ 100000) := by show _ ≤ _; rw [Dm.side_taken]; have := HLN.out (!buy); omega
          have HL2 : Hid (((Dm.taken X).side buy).length ≤ 100000) := by show _ ≤ _; rw [Dm.side_taken]; have := HLN.out buy; omega
          have HLE : Hid ((Dm.taken X).ev.length ≤ 100000) := by show _ ≤ _; rw [Dm.ev_taken]; omega
          have HE : Hid (Dm.order (⟨1, owner, id, buy, price, amount, 0, false, peak, guard⟩ : Cm.C) X = (0, Dm.come (n, owner, price, 0, false, peak, 0, guard) buy price amount true (Dm.taken X))) := by show _ = _; rw [Dm.order_rest hq rfl (by show (0 : Int) ≠ 3; decide), HNN.out]; rfl
          go_wp2_with fail
          refine (bookCome_any base b _ _ z9 (Dm.taken X) n owner price 0 false peak 0 guard buy price amount true w9 J9'.out (Nat.le_trans hw B9'.out.size) ha.1 ha.2 (by omega) HFT.out HL1.out HL2.out HLE.out).mono ?_
          rintro e w10 ⟨rfl, ⟨x10, y10, z10, J10⟩, B10, F10⟩
          have J10' := Fk.hide J10
          have B10' := Fk.hide (B9'.out.trans B10)
          have F10' := Fk.hide (F9'.out.trans F10)
          clear J10 B10 F10
          go_wp2_with fail
          refine bodyPost_ret (v := .int .i64 0) (by simp [results, Try.results88, go_sem]) rfl ⟨by rw [HE.out], ⟨_, _, _, by rw [HE.out]; exact J10'.out⟩, B10'.out, F10'.out⟩
  · skip
    by_cases hmax : (1000000 : Int) ≤ n
    · have HE : Hid (Dm.order (⟨1, owner, id, buy, price, amount, 1, false, peak, guard⟩ : Cm.C) X = (9, X)) := by show _ = _; unfold Dm.order; rw [if_pos (by rw [← HNN.out]; simp [hmax])]
      go_enter Try.func88, Try.ntmps88
      go_wp2_with fail
      rw [← HW.out]
      have r0 := cell_regrown i0
      have r1 := cell_regrown i1
      have r2 := cell_regrown i2
      have dn : decide ((1000000 : Int) ≤ n) = true := decide_eq_true hmax
      go_wp2_with fail
      refine wp_region_quiet_below (by kernel_rfl) (by kernel_rfl) ?_
      repeat (go_big_quiet_step (fail))
      refine wpQuiet_nil ?_
      intro w4 hw'
      obtain ⟨⟨dq, osq⟩, hw''⟩ := hw'
      have kw4 : Below W.heap.size W w4 := by rw [hw'']; exact below_regrown W dq osq
      clear hw''
      have B4 := Fk.hide (HBW.out.trans (kw4.mono (Nat.le_trans hw HWz.out)))
      have F4 := Fk.hide (HFW.out.trans (Bw.Fr.of_below kw4))
      have J4 := Fk.hide (HI.out.below kw4)
      have HK4 := Fk.hide kw4
      have s0 := (kw4.cell (p := ⟨w.heap.size, 0, none⟩) (by exact kC.out.lt)).trans o0
      have s1 := (kw4.cell (p := ⟨w.heap.size, 1, none⟩) (by exact kC.out.lt)).trans o1
      have s3 := (kw4.cell (p := ⟨w.heap.size, 3, none⟩) (by exact kC.out.lt)).trans o3
      have s4 := (kw4.cell (p := ⟨w.heap.size, 4, none⟩) (by exact kC.out.lt)).trans o4
      have s5 := (kw4.cell (p := ⟨w.heap.size, 5, none⟩) (by exact kC.out.lt)).trans o5
      have s6 := (kw4.cell (p := ⟨w.heap.size, 6, none⟩) (by exact kC.out.lt)).trans o6
      have s7 := (kw4.cell (p := ⟨w.heap.size, 7, none⟩) (by exact kC.out.lt)).trans o7
      have s8 := (kw4.cell (p := ⟨w.heap.size, 8, none⟩) (by exact kC.out.lt)).trans o8
      have s9 := (kw4.cell (p := ⟨w.heap.size, 9, none⟩) (by exact kC.out.lt)).trans o9
      have kC4 : Hid (Wq.Kind w4 w.heap.size 27) := kC.out.of_block (kw4.block _ kC.out.lt)
      have hw4 : base ≤ w4.heap.size := Nat.le_trans hw B4.out.size
      have j0 := J4.out.c0
      have j1 := J4.out.c1
      have HSX : Hid (∃ a n c, Value.slice ax X.b.length cx = .slice a n c) := ⟨_, _, _, rfl⟩
      have HSY : Hid (∃ a n c, Value.slice ay X.a.length cy = .slice a n c) := ⟨_, _, _, rfl⟩
      clear kw4 r0 r1 r2
      go_wp2_with fail
      refine bodyPost_ret (v := .int .i64 9) (by simp [results, Try.results88, go_sem]) rfl ⟨by rw [HE.out], ⟨_, _, _, by rw [HE.out]; exact J4.out⟩, B4.out, F4.out⟩
    · by_cases h24 : (24 : Int) ≤ (X.b.length : Int) + X.a.length
      · have HE : Hid (Dm.order (⟨1, owner, id, buy, price, amount, 1, false, peak, guard⟩ : Cm.C) X = (9, X)) := by show _ = _; unfold Dm.order; rw [if_pos (by rw [← HNN.out]; simp [Dm.rests, h24])]
        go_enter Try.func88, Try.ntmps88
        go_wp2_with fail
        rw [← HW.out]
        have r0 := cell_regrown i0
        have r1 := cell_regrown i1
        have r2 := cell_regrown i2
        have dn : decide ((1000000 : Int) ≤ n) = false := decide_eq_false (by omega)
        have hb1 := HLB.out
        have ha1 := HLA.out
        have d24 : decide ((24 : Int) ≤ (X.b.length : Int) + X.a.length) = true := decide_eq_true h24
        go_wp2_with fail
        refine wp_region_quiet_below (by kernel_rfl) (by kernel_rfl) ?_
        repeat (go_big_quiet_step (fail))
        refine wpQuiet_nil ?_
        intro w4 hw'
        obtain ⟨⟨dq, osq⟩, hw''⟩ := hw'
        have kw4 : Below W.heap.size W w4 := by rw [hw'']; exact below_regrown W dq osq
        clear hw''
        have B4 := Fk.hide (HBW.out.trans (kw4.mono (Nat.le_trans hw HWz.out)))
        have F4 := Fk.hide (HFW.out.trans (Bw.Fr.of_below kw4))
        have J4 := Fk.hide (HI.out.below kw4)
        have HK4 := Fk.hide kw4
        have s0 := (kw4.cell (p := ⟨w.heap.size, 0, none⟩) (by exact kC.out.lt)).trans o0
        have s1 := (kw4.cell (p := ⟨w.heap.size, 1, none⟩) (by exact kC.out.lt)).trans o1
        have s3 := (kw4.cell (p := ⟨w.heap.size, 3, none⟩) (by exact kC.out.lt)).trans o3
        have s4 := (kw4.cell (p := ⟨w.heap.size, 4, none⟩) (by exact kC.out.lt)).trans o4
        have s5 := (kw4.cell (p := ⟨w.heap.size, 5, none⟩) (by exact kC.out.lt)).trans o5
        have s6 := (kw4.cell (p := ⟨w.heap.size, 6, none⟩) (by exact kC.out.lt)).trans o6
        have s7 := (kw4.cell (p := ⟨w.heap.size, 7, none⟩) (by exact kC.out.lt)).trans o7
        have s8 := (kw4.cell (p := ⟨w.heap.size, 8, none⟩) (by exact kC.out.lt)).trans o8
        have s9 := (kw4.cell (p := ⟨w.heap.size, 9, none⟩) (by exact kC.out.lt)).trans o9
        have kC4 : Hid (Wq.Kind w4 w.heap.size 27) := kC.out.of_block (kw4.block _ kC.out.lt)
        have hw4 : base ≤ w4.heap.size := Nat.le_trans hw B4.out.size
        have j0 := J4.out.c0
        have j1 := J4.out.c1
        have HSX : Hid (∃ a n c, Value.slice ax X.b.length cx = .slice a n c) := ⟨_, _, _, rfl⟩
        have HSY : Hid (∃ a n c, Value.slice ay X.a.length cy = .slice a n c) := ⟨_, _, _, rfl⟩
        clear kw4 r0 r1 r2
        go_wp2_with fail
        refine bodyPost_ret (v := .int .i64 9) (by simp [results, Try.results88, go_sem]) rfl ⟨by rw [HE.out], ⟨_, _, _, by rw [HE.out]; exact J4.out⟩, B4.out, F4.out⟩
      · have hq : (decide ((1000000 : Int) ≤ X.n) || (Dm.rests (⟨1, owner, id, buy, price, amount, 1, false, peak, guard⟩ : Cm.C) && decide ((24 : Int) ≤ (X.b.length : Int) + X.a.length))) = false := by rw [← HNN.out]; simp [hmax, h24] <;> omega
        go_enter Try.func88, Try.ntmps88
        go_wp2_with fail
        rw [← HW.out]
        have r0 := cell_regrown i0
        have r1 := cell_regrown i1
        have r2 := cell_regrown i2
        have dn : decide ((1000000 : Int) ≤ n) = false := decide_eq_false (by omega)
        have hb1 := HLB.out
        have ha1 := HLA.out
        have d24 : decide ((24 : Int) ≤ (X.b.length : Int) + X.a.length) = false := decide_eq_false (by omega)
        go_wp2_with fail
        refine wp_region_quiet_below (by kernel_rfl) (by kernel_rfl) ?_
        repeat (go_big_quiet_step (fail))
        refine wpQuiet_nil ?_
        intro w4 hw'
        obtain ⟨⟨dq, osq⟩, hw''⟩ := hw'
        have kw4 : Below W.heap.size W w4 := by rw [hw'']; exact below_regrown W dq osq
        clear hw''
        have B4 := Fk.hide (HBW.out.trans (kw4.mono (Nat.le_trans hw HWz.out)))
        have F4 := Fk.hide (HFW.out.trans (Bw.Fr.of_below kw4))
        have J4 := Fk.hide (HI.out.below kw4)
        have HK4 := Fk.hide kw4
        have s0 := (kw4.cell (p := ⟨w.heap.size, 0, none⟩) (by exact kC.out.lt)).trans o0
        have s1 := (kw4.cell (p := ⟨w.heap.size, 1, none⟩) (by exact kC.out.lt)).trans o1
        have s3 := (kw4.cell (p := ⟨w.heap.size, 3, none⟩) (by exact kC.out.lt)).trans o3
        have s4 := (kw4.cell (p := ⟨w.heap.size, 4, none⟩) (by exact kC.out.lt)).trans o4
        have s5 := (kw4.cell (p := ⟨w.heap.size, 5, none⟩) (by exact kC.out.lt)).trans o5
        have s6 := (kw4.cell (p := ⟨w.heap.size, 6, none⟩) (by exact kC.out.lt)).trans o6
        have s7 := (kw4.cell (p := ⟨w.heap.size, 7, none⟩) (by exact kC.out.lt)).trans o7
        have s8 := (kw4.cell (p := ⟨w.heap.size, 8, none⟩) (by exact kC.out.lt)).trans o8
        have s9 := (kw4.cell (p := ⟨w.heap.size, 9, none⟩) (by exact kC.out.lt)).trans o9
        have kC4 : Hid (Wq.Kind w4 w.heap.size 27) := kC.out.of_block (kw4.block _ kC.out.lt)
        have hw4 : base ≤ w4.heap.size := Nat.le_trans hw B4.out.size
        have j0 := J4.out.c0
        have j1 := J4.out.c1
        have HSX : Hid (∃ a n c, Value.slice ax X.b.length cx = .slice a n c) := ⟨_, _, _, rfl⟩
        have HSY : Hid (∃ a n c, Value.slice ay X.a.length cy = .slice a n c) := ⟨_, _, _, rfl⟩
        clear kw4 r0 r1 r2
        go_wp2_with fail
        refine (side_any b _ _ (!buy) w4 j0 j1 HSX.out HSY.out).mono ?_
        rintro e w5 ⟨rfl, hw5⟩
        obtain rfl := hw5.symm
        obtain ⟨vs, hvs⟩ : ∃ v, v = Ob.pick (!buy) (Value.slice ax X.b.length cx) (Value.slice ay X.a.length cy) := ⟨_, rfl⟩
        rw [← hvs]
        obtain ⟨avs, nvs, cvs, rfl⟩ : ∃ a n c, vs = .slice a n c := by rw [hvs]; cases buy; exact ⟨_, _, _, rfl⟩; exact ⟨_, _, _, rfl⟩
        clear hvs j0 j1
        go_wp2_with fail
        have r7 := cell_regrown s7
        refine wp_region_quiet_below (by kernel_rfl) (by kernel_rfl) ?_
        repeat (go_big_quiet_step (fail))
        refine wpQuiet_nil ?_
        intro w6 hw'
        obtain ⟨⟨dq, osq⟩, hw''⟩ := hw'
        have kw6 : Below w4.heap.size w4 w6 := by rw [hw'']; exact below_regrown w4 dq osq
        clear hw''
        have B6 := Fk.hide (B4.out.trans (kw6.mono hw4))
        have F6 := Fk.hide (F4.out.trans (Bw.Fr.of_below kw6))
        have J6 := Fk.hide (J4.out.below kw6)
        have t0 := (kw6.cell (p := ⟨w.heap.size, 0, none⟩) (by exact kC4.out.lt)).trans s0
        have t1 := (kw6.cell (p := ⟨w.heap.size, 1, none⟩) (by exact kC4.out.lt)).trans s1
        have t3 := (kw6.cell (p := ⟨w.heap.size, 3, none⟩) (by exact kC4.out.lt)).trans s3
        have t4 := (kw6.cell (p := ⟨w.heap.size, 4, none⟩) (by exact kC4.out.lt)).trans s4
        have t5 := (kw6.cell (p := ⟨w.heap.size, 5, none⟩) (by exact kC4.out.lt)).trans s5
        have t6 := (kw6.cell (p := ⟨w.heap.size, 6, none⟩) (by exact kC4.out.lt)).trans s6
        have t7 := (kw6.cell (p := ⟨w.heap.size, 7, none⟩) (by exact kC4.out.lt)).trans s7
        have t8 := (kw6.cell (p := ⟨w.heap.size, 8, none⟩) (by exact kC4.out.lt)).trans s8
        have t9 := (kw6.cell (p := ⟨w.heap.size, 9, none⟩) (by exact kC4.out.lt)).trans s9
        have kC6 : Hid (Wq.Kind w6 w.heap.size 27) := kC4.out.of_block (kw6.block _ kC4.out.lt)
        have hw6 : base ≤ w6.heap.size := Nat.le_trans hw B6.out.size
        have j2 : w6.cell? ⟨b, 2, none⟩ = some (.int .i64 n) := J6.out.c2.trans (by rw [HNN.out])
        have jf := J6.out.fr 2
        clear kw6 r7 s0 s1 s3 s4 s5 s6 s7 s8 s9 B4 F4 J4 kC4
        have hc6 : w.heap.size < w6.heap.size := kC6.out.lt
        have hb6 : b < w6.heap.size := J6.out.kind.lt
        go_wp2_with fail
        go_region_held3 (fun w' => w'.cell? ⟨b, 2, none⟩ = some (.int .i64 n) ∧ w'.cell? ⟨w.heap.size, 1, none⟩ = some (.int .i64 owner) ∧ w'.cell? ⟨w.heap.size, 4, none⟩ = some (.int .i64 price) ∧ w'.cell? ⟨w.heap.size, 6, none⟩ = some (.int .i64 1) ∧ w'.cell? ⟨w.heap.size, 8, none⟩ = some (.int .i64 peak) ∧ w'.cell? ⟨w.heap.size, 9, none⟩ = some (.bool guard))
          (first | go_keep | (go_split_ands; exact ⟨by assumption, by assumption, by assumption, by assumption, by assumption, by assumption⟩))
          (fail)
        all_goals
          obtain ⟨W7, hW7⟩ : ∃ W, W = (w6.alloc (.cells #[.int .i64 n, .int .i64 owner, .int .i64 price, .int .i64 0, .bool true, .int .i64 peak, .int .i64 0, .bool guard] 40)).drew := ⟨_, rfl⟩
          have b7 : Below w6.heap.size w6 W7 := by rw [hW7]; exact Below.drew ((Below.refl _ _).alloc (Nat.le_refl _) _)
          have kO7 : Hid (Wq.Kind W7 w6.heap.size 40) := by show Wq.Kind _ _ _; rw [hW7]; exact ⟨_, _, heap_alloc_new w6 _⟩
          have p0 : W7.cell? ⟨w6.heap.size, 0, none⟩ = some (.int .i64 n) := by rw [hW7]; exact Fk.cellTop w6 _ _ _ _ rfl
          have p1 : W7.cell? ⟨w6.heap.size, 1, none⟩ = some (.int .i64 owner) := by rw [hW7]; exact Fk.cellTop w6 _ _ _ _ rfl
          have p2 : W7.cell? ⟨w6.heap.size, 2, none⟩ = some (.int .i64 price) := by rw [hW7]; exact Fk.cellTop w6 _ _ _ _ rfl
          have p3 : W7.cell? ⟨w6.heap.size, 3, none⟩ = some (.int .i64 0) := by rw [hW7]; exact Fk.cellTop w6 _ _ _ _ rfl
          have p4 : W7.cell? ⟨w6.heap.size, 4, none⟩ = some (.bool true) := by rw [hW7]; exact Fk.cellTop w6 _ _ _ _ rfl
          have p5 : W7.cell? ⟨w6.heap.size, 5, none⟩ = some (.int .i64 peak) := by rw [hW7]; exact Fk.cellTop w6 _ _ _ _ rfl
          have p6 : W7.cell? ⟨w6.heap.size, 6, none⟩ = some (.int .i64 0) := by rw [hW7]; exact Fk.cellTop w6 _ _ _ _ rfl
          have p7 : W7.cell? ⟨w6.heap.size, 7, none⟩ = some (.bool guard) := by rw [hW7]; exact Fk.cellTop w6 _ _ _ _ rfl
          have J7 := Fk.hide (J6.out.below b7)
          have B7 := Fk.hide (B6.out.trans (b7.mono hw6))
          have F7 := Fk.hide (F6.out.trans (Bw.Fr.of_below b7))
          have kC7 : Hid (Wq.Kind W7 w.heap.size 27) := kC6.out.of_block (b7.block _ hc6)
          have e0 := (b7.cell (p := ⟨w.heap.size, 0, none⟩) (by exact hc6)).trans t0
          have e1 := (b7.cell (p := ⟨w.heap.size, 1, none⟩) (by exact hc6)).trans t1
          have e3 := (b7.cell (p := ⟨w.heap.size, 3, none⟩) (by exact hc6)).trans t3
          have e4 := (b7.cell (p := ⟨w.heap.size, 4, none⟩) (by exact hc6)).trans t4
          have e5 := (b7.cell (p := ⟨w.heap.size, 5, none⟩) (by exact hc6)).trans t5
          have e6 := (b7.cell (p := ⟨w.heap.size, 6, none⟩) (by exact hc6)).trans t6
          have e7 := (b7.cell (p := ⟨w.heap.size, 7, none⟩) (by exact hc6)).trans t7
          have e8 := (b7.cell (p := ⟨w.heap.size, 8, none⟩) (by exact hc6)).trans t8
          have e9 := (b7.cell (p := ⟨w.heap.size, 9, none⟩) (by exact hc6)).trans t9
          have g2 := (b7.cell (p := ⟨b, 2, none⟩) (by exact hb6)).trans j2
          have gf := (b7.frozen (p := ⟨b, 2, none⟩) (by exact hb6)).trans jf
          have hw7 : base ≤ W7.heap.size := Nat.le_trans hw6 b7.size
          rw [← hW7]
          clear hW7 b7 t0 t1 t3 t4 t5 t6 t7 t8 t9 j2 jf J6 B6 F6 kC6
          have hbo : Hid ((⟨b, 2, none⟩ : Addr) ≠ ⟨w6.heap.size, 0, none⟩) := fun e => by have := congrArg Addr.block e; simp at this; omega
          have l0 : (W7.setCell ⟨b, 2, none⟩ (.int .i64 (n + 1))).cell? ⟨w6.heap.size, 0, none⟩ = some (.int .i64 n) := (World.cell?_setCell_other _ _ _ _ hbo.out).trans p0
          have n1 : IntKind.i64.wrap (n + 1) = n + 1 := by rw [IntKind.wrap_i64]; omega
          clear hc6 hb6
          go_wp2_with fail
          have J8 : Hid (Bw.Is (W7.setCell ⟨b, 2, none⟩ (.int .i64 (n + 1))) base b (.slice ax X.b.length cx) (.slice ay X.a.length cy) z X.next) := by show Bw.Is _ _ _ _ _ _ _; have h := J7.out.setNext (n + 1); unfold Dm.Bk.next; rw [← HNN.out]; exact h
          have B8 : Hid (Below base w (W7.setCell ⟨b, 2, none⟩ (.int .i64 (n + 1)))) := B7.out.setCell J7.out.hb _
          have F8 : Hid (Bw.Fr w (W7.setCell ⟨b, 2, none⟩ (.int .i64 (n + 1)))) := F7.out.trans (Bw.Fr.setBook J7.out.kind)
          have F78 : Hid (Bw.Fr W7 (W7.setCell ⟨b, 2, none⟩ (.int .i64 (n + 1)))) := Bw.Fr.setBook J7.out.kind
          refine (bookTell_any base b _ _ z X.next 1 n 0 0 0 _ J8.out (Nat.le_trans hw B8.out.size) (by simp only [Dm.Bk.next]; omega)).mono ?_
          rintro e w9 ⟨rfl, ⟨z9, J9⟩, B9, F9⟩
          have J9' : Hid (Bw.Is w9 base b (.slice ax X.b.length cx) (.slice ay X.a.length cy) z9 (Dm.taken X)) := by show Bw.Is _ _ _ _ _ _ _; unfold Dm.taken; rw [← HNN.out]; exact J9
          have B9' := Fk.hide (B8.out.trans B9)
          have F9' := Fk.hide (F8.out.trans F9)
          have F79 := Fk.hide (F78.out.trans F9)
          have q0 := (F79.out.cell (j := 0) kO7.out (by decide) (by decide)).trans p0
          have q1 := (F79.out.cell (j := 1) kO7.out (by decide) (by decide)).trans p1
          have q2 := (F79.out.cell (j := 2) kO7.out (by decide) (by decide)).trans p2
          have q3 := (F79.out.cell (j := 3) kO7.out (by decide) (by decide)).trans p3
          have q4 := (F79.out.cell (j := 4) kO7.out (by decide) (by decide)).trans p4
          have q5 := (F79.out.cell (j := 5) kO7.out (by decide) (by decide)).trans p5
          have q6 := (F79.out.cell (j := 6) kO7.out (by decide) (by decide)).trans p6
          have q7 := (F79.out.cell (j := 7) kO7.out (by decide) (by decide)).trans p7
          have v0 := (F79.out.cell (j := 0) kC7.out (by decide) (by decide)).trans e0
          have v1 := (F79.out.cell (j := 1) kC7.out (by decide) (by decide)).trans e1
          have v3 := (F79.out.cell (j := 3) kC7.out (by decide) (by decide)).trans e3
          have v4 := (F79.out.cell (j := 4) kC7.out (by decide) (by decide)).trans e4
          have v5 := (F79.out.cell (j := 5) kC7.out (by decide) (by decide)).trans e5
          have v6 := (F79.out.cell (j := 6) kC7.out (by decide) (by decide)).trans e6
          have v7 := (F79.out.cell (j := 7) kC7.out (by decide) (by decide)).trans e7
          have v8 := (F79.out.cell (j := 8) kC7.out (by decide) (by decide)).trans e8
          have v9 := (F79.out.cell (j := 9) kC7.out (by decide) (by decide)).trans e9
          have kO9 : Hid (Wq.Kind w9 w6.heap.size 40) := by
            obtain ⟨cs, fr, hq⟩ := kO7.out
            exact ⟨cs, fr, (F79.out _ _ _ _ hq (by decide) (by decide)).trans hq⟩
          have kC9 : Hid (Wq.Kind w9 w.heap.size 27) := by
            obtain ⟨cs, fr, hq⟩ := kC7.out
            exact ⟨cs, fr, (F79.out _ _ _ _ hq (by decide) (by decide)).trans hq⟩
          have hw9 : base ≤ w9.heap.size := Nat.le_trans hw B9'.out.size
          clear p0 p1 p2 p3 p4 p5 p6 p7 e0 e1 e3 e4 e5 e6 e7 e8 e9 g2 gf l0 J9 B9 F9 J8 B8 F8 F78 J7 B7 F7 F79 kO7 kC7 n1
          have HFT : Hid (∀ o ∈ (Dm.taken X).side (!buy), Dm.Fine o) := by show ∀ o ∈ _, _; rw [Dm.side_taken]; exact HFN.out _
          have HL1 : Hid (((Dm.taken X).side (!buy)).length ≤ 100000) := by show _ ≤ _; rw [Dm.side_taken]; have := HLN.out (!buy); omega
          have HL2 : Hid (((Dm.taken X).side buy).length ≤ 100000) := by show _ ≤ _; rw [Dm.side_taken]; have := HLN.out buy; omega
          have HLE : Hid ((Dm.taken X).ev.length ≤ 100000) := by show _ ≤ _; rw [Dm.ev_taken]; omega
          have HE : Hid (Dm.order (⟨1, owner, id, buy, price, amount, 1, false, peak, guard⟩ : Cm.C) X = (0, Dm.come (n, owner, price, 0, true, peak, 0, guard) buy price amount true (Dm.taken X))) := by show _ = _; rw [Dm.order_rest hq rfl (by show (1 : Int) ≠ 3; decide), HNN.out]; rfl
          go_wp2_with fail
          refine (bookCome_any base b _ _ z9 (Dm.taken X) n owner price 0 true peak 0 guard buy price amount true w9 J9'.out (Nat.le_trans hw B9'.out.size) ha.1 ha.2 (by omega) HFT.out HL1.out HL2.out HLE.out).mono ?_
          rintro e w10 ⟨rfl, ⟨x10, y10, z10, J10⟩, B10, F10⟩
          have J10' := Fk.hide J10
          have B10' := Fk.hide (B9'.out.trans B10)
          have F10' := Fk.hide (F9'.out.trans F10)
          clear J10 B10 F10
          go_wp2_with fail
          refine bodyPost_ret (v := .int .i64 0) (by simp [results, Try.results88, go_sem]) rfl ⟨by rw [HE.out], ⟨_, _, _, by rw [HE.out]; exact J10'.out⟩, B10'.out, F10'.out⟩
  · skip
    by_cases hmax : (1000000 : Int) ≤ n
    · have HE : Hid (Dm.order (⟨1, owner, id, buy, price, amount, 2, false, peak, guard⟩ : Cm.C) X = (9, X)) := by show _ = _; unfold Dm.order; rw [if_pos (by rw [← HNN.out]; simp [hmax])]
      go_enter Try.func88, Try.ntmps88
      go_wp2_with fail
      rw [← HW.out]
      have r0 := cell_regrown i0
      have r1 := cell_regrown i1
      have r2 := cell_regrown i2
      have dn : decide ((1000000 : Int) ≤ n) = true := decide_eq_true hmax
      go_wp2_with fail
      refine wp_region_quiet_below (by kernel_rfl) (by kernel_rfl) ?_
      repeat (go_big_quiet_step (fail))
      refine wpQuiet_nil ?_
      intro w4 hw'
      obtain ⟨⟨dq, osq⟩, hw''⟩ := hw'
      have kw4 : Below W.heap.size W w4 := by rw [hw'']; exact below_regrown W dq osq
      clear hw''
      have B4 := Fk.hide (HBW.out.trans (kw4.mono (Nat.le_trans hw HWz.out)))
      have F4 := Fk.hide (HFW.out.trans (Bw.Fr.of_below kw4))
      have J4 := Fk.hide (HI.out.below kw4)
      have HK4 := Fk.hide kw4
      have s0 := (kw4.cell (p := ⟨w.heap.size, 0, none⟩) (by exact kC.out.lt)).trans o0
      have s1 := (kw4.cell (p := ⟨w.heap.size, 1, none⟩) (by exact kC.out.lt)).trans o1
      have s3 := (kw4.cell (p := ⟨w.heap.size, 3, none⟩) (by exact kC.out.lt)).trans o3
      have s4 := (kw4.cell (p := ⟨w.heap.size, 4, none⟩) (by exact kC.out.lt)).trans o4
      have s5 := (kw4.cell (p := ⟨w.heap.size, 5, none⟩) (by exact kC.out.lt)).trans o5
      have s6 := (kw4.cell (p := ⟨w.heap.size, 6, none⟩) (by exact kC.out.lt)).trans o6
      have s7 := (kw4.cell (p := ⟨w.heap.size, 7, none⟩) (by exact kC.out.lt)).trans o7
      have s8 := (kw4.cell (p := ⟨w.heap.size, 8, none⟩) (by exact kC.out.lt)).trans o8
      have s9 := (kw4.cell (p := ⟨w.heap.size, 9, none⟩) (by exact kC.out.lt)).trans o9
      have kC4 : Hid (Wq.Kind w4 w.heap.size 27) := kC.out.of_block (kw4.block _ kC.out.lt)
      have hw4 : base ≤ w4.heap.size := Nat.le_trans hw B4.out.size
      have j0 := J4.out.c0
      have j1 := J4.out.c1
      have HSX : Hid (∃ a n c, Value.slice ax X.b.length cx = .slice a n c) := ⟨_, _, _, rfl⟩
      have HSY : Hid (∃ a n c, Value.slice ay X.a.length cy = .slice a n c) := ⟨_, _, _, rfl⟩
      clear kw4 r0 r1 r2
      go_wp2_with fail
      refine bodyPost_ret (v := .int .i64 9) (by simp [results, Try.results88, go_sem]) rfl ⟨by rw [HE.out], ⟨_, _, _, by rw [HE.out]; exact J4.out⟩, B4.out, F4.out⟩
    · have hq : (decide ((1000000 : Int) ≤ X.n) || (Dm.rests (⟨1, owner, id, buy, price, amount, 2, false, peak, guard⟩ : Cm.C) && decide ((24 : Int) ≤ (X.b.length : Int) + X.a.length))) = false := by rw [← HNN.out]; simp [Dm.rests, hmax] <;> omega
      go_enter Try.func88, Try.ntmps88
      go_wp2_with fail
      rw [← HW.out]
      have r0 := cell_regrown i0
      have r1 := cell_regrown i1
      have r2 := cell_regrown i2
      have dn : decide ((1000000 : Int) ≤ n) = false := decide_eq_false (by omega)
      go_wp2_with fail
      refine wp_region_quiet_below (by kernel_rfl) (by kernel_rfl) ?_
      repeat (go_big_quiet_step (fail))
      refine wpQuiet_nil ?_
      intro w4 hw'
      obtain ⟨⟨dq, osq⟩, hw''⟩ := hw'
      have kw4 : Below W.heap.size W w4 := by rw [hw'']; exact below_regrown W dq osq
      clear hw''
      have B4 := Fk.hide (HBW.out.trans (kw4.mono (Nat.le_trans hw HWz.out)))
      have F4 := Fk.hide (HFW.out.trans (Bw.Fr.of_below kw4))
      have J4 := Fk.hide (HI.out.below kw4)
      have HK4 := Fk.hide kw4
      have s0 := (kw4.cell (p := ⟨w.heap.size, 0, none⟩) (by exact kC.out.lt)).trans o0
      have s1 := (kw4.cell (p := ⟨w.heap.size, 1, none⟩) (by exact kC.out.lt)).trans o1
      have s3 := (kw4.cell (p := ⟨w.heap.size, 3, none⟩) (by exact kC.out.lt)).trans o3
      have s4 := (kw4.cell (p := ⟨w.heap.size, 4, none⟩) (by exact kC.out.lt)).trans o4
      have s5 := (kw4.cell (p := ⟨w.heap.size, 5, none⟩) (by exact kC.out.lt)).trans o5
      have s6 := (kw4.cell (p := ⟨w.heap.size, 6, none⟩) (by exact kC.out.lt)).trans o6
      have s7 := (kw4.cell (p := ⟨w.heap.size, 7, none⟩) (by exact kC.out.lt)).trans o7
      have s8 := (kw4.cell (p := ⟨w.heap.size, 8, none⟩) (by exact kC.out.lt)).trans o8
      have s9 := (kw4.cell (p := ⟨w.heap.size, 9, none⟩) (by exact kC.out.lt)).trans o9
      have kC4 : Hid (Wq.Kind w4 w.heap.size 27) := kC.out.of_block (kw4.block _ kC.out.lt)
      have hw4 : base ≤ w4.heap.size := Nat.le_trans hw B4.out.size
      have j0 := J4.out.c0
      have j1 := J4.out.c1
      have HSX : Hid (∃ a n c, Value.slice ax X.b.length cx = .slice a n c) := ⟨_, _, _, rfl⟩
      have HSY : Hid (∃ a n c, Value.slice ay X.a.length cy = .slice a n c) := ⟨_, _, _, rfl⟩
      clear kw4 r0 r1 r2
      go_wp2_with fail
      refine (side_any b _ _ (!buy) w4 j0 j1 HSX.out HSY.out).mono ?_
      rintro e w5 ⟨rfl, hw5⟩
      obtain rfl := hw5.symm
      obtain ⟨vs, hvs⟩ : ∃ v, v = Ob.pick (!buy) (Value.slice ax X.b.length cx) (Value.slice ay X.a.length cy) := ⟨_, rfl⟩
      rw [← hvs]
      obtain ⟨avs, nvs, cvs, rfl⟩ : ∃ a n c, vs = .slice a n c := by rw [hvs]; cases buy; exact ⟨_, _, _, rfl⟩; exact ⟨_, _, _, rfl⟩
      clear hvs j0 j1
      go_wp2_with fail
      have r7 := cell_regrown s7
      refine wp_region_quiet_below (by kernel_rfl) (by kernel_rfl) ?_
      repeat (go_big_quiet_step (fail))
      refine wpQuiet_nil ?_
      intro w6 hw'
      obtain ⟨⟨dq, osq⟩, hw''⟩ := hw'
      have kw6 : Below w4.heap.size w4 w6 := by rw [hw'']; exact below_regrown w4 dq osq
      clear hw''
      have B6 := Fk.hide (B4.out.trans (kw6.mono hw4))
      have F6 := Fk.hide (F4.out.trans (Bw.Fr.of_below kw6))
      have J6 := Fk.hide (J4.out.below kw6)
      have t0 := (kw6.cell (p := ⟨w.heap.size, 0, none⟩) (by exact kC4.out.lt)).trans s0
      have t1 := (kw6.cell (p := ⟨w.heap.size, 1, none⟩) (by exact kC4.out.lt)).trans s1
      have t3 := (kw6.cell (p := ⟨w.heap.size, 3, none⟩) (by exact kC4.out.lt)).trans s3
      have t4 := (kw6.cell (p := ⟨w.heap.size, 4, none⟩) (by exact kC4.out.lt)).trans s4
      have t5 := (kw6.cell (p := ⟨w.heap.size, 5, none⟩) (by exact kC4.out.lt)).trans s5
      have t6 := (kw6.cell (p := ⟨w.heap.size, 6, none⟩) (by exact kC4.out.lt)).trans s6
      have t7 := (kw6.cell (p := ⟨w.heap.size, 7, none⟩) (by exact kC4.out.lt)).trans s7
      have t8 := (kw6.cell (p := ⟨w.heap.size, 8, none⟩) (by exact kC4.out.lt)).trans s8
      have t9 := (kw6.cell (p := ⟨w.heap.size, 9, none⟩) (by exact kC4.out.lt)).trans s9
      have kC6 : Hid (Wq.Kind w6 w.heap.size 27) := kC4.out.of_block (kw6.block _ kC4.out.lt)
      have hw6 : base ≤ w6.heap.size := Nat.le_trans hw B6.out.size
      have j2 : w6.cell? ⟨b, 2, none⟩ = some (.int .i64 n) := J6.out.c2.trans (by rw [HNN.out])
      have jf := J6.out.fr 2
      clear kw6 r7 s0 s1 s3 s4 s5 s6 s7 s8 s9 B4 F4 J4 kC4
      have hc6 : w.heap.size < w6.heap.size := kC6.out.lt
      have hb6 : b < w6.heap.size := J6.out.kind.lt
      go_wp2_with fail
      go_region_held3 (fun w' => w'.cell? ⟨b, 2, none⟩ = some (.int .i64 n) ∧ w'.cell? ⟨w.heap.size, 1, none⟩ = some (.int .i64 owner) ∧ w'.cell? ⟨w.heap.size, 4, none⟩ = some (.int .i64 price) ∧ w'.cell? ⟨w.heap.size, 6, none⟩ = some (.int .i64 2) ∧ w'.cell? ⟨w.heap.size, 8, none⟩ = some (.int .i64 peak) ∧ w'.cell? ⟨w.heap.size, 9, none⟩ = some (.bool guard))
        (first | go_keep | (go_split_ands; exact ⟨by assumption, by assumption, by assumption, by assumption, by assumption, by assumption⟩))
        (fail)
      all_goals
        obtain ⟨W7, hW7⟩ : ∃ W, W = (w6.alloc (.cells #[.int .i64 n, .int .i64 owner, .int .i64 price, .int .i64 0, .bool false, .int .i64 peak, .int .i64 0, .bool guard] 40)).drew := ⟨_, rfl⟩
        have b7 : Below w6.heap.size w6 W7 := by rw [hW7]; exact Below.drew ((Below.refl _ _).alloc (Nat.le_refl _) _)
        have kO7 : Hid (Wq.Kind W7 w6.heap.size 40) := by show Wq.Kind _ _ _; rw [hW7]; exact ⟨_, _, heap_alloc_new w6 _⟩
        have p0 : W7.cell? ⟨w6.heap.size, 0, none⟩ = some (.int .i64 n) := by rw [hW7]; exact Fk.cellTop w6 _ _ _ _ rfl
        have p1 : W7.cell? ⟨w6.heap.size, 1, none⟩ = some (.int .i64 owner) := by rw [hW7]; exact Fk.cellTop w6 _ _ _ _ rfl
        have p2 : W7.cell? ⟨w6.heap.size, 2, none⟩ = some (.int .i64 price) := by rw [hW7]; exact Fk.cellTop w6 _ _ _ _ rfl
        have p3 : W7.cell? ⟨w6.heap.size, 3, none⟩ = some (.int .i64 0) := by rw [hW7]; exact Fk.cellTop w6 _ _ _ _ rfl
        have p4 : W7.cell? ⟨w6.heap.size, 4, none⟩ = some (.bool false) := by rw [hW7]; exact Fk.cellTop w6 _ _ _ _ rfl
        have p5 : W7.cell? ⟨w6.heap.size, 5, none⟩ = some (.int .i64 peak) := by rw [hW7]; exact Fk.cellTop w6 _ _ _ _ rfl
        have p6 : W7.cell? ⟨w6.heap.size, 6, none⟩ = some (.int .i64 0) := by rw [hW7]; exact Fk.cellTop w6 _ _ _ _ rfl
        have p7 : W7.cell? ⟨w6.heap.size, 7, none⟩ = some (.bool guard) := by rw [hW7]; exact Fk.cellTop w6 _ _ _ _ rfl
        have J7 := Fk.hide (J6.out.below b7)
        have B7 := Fk.hide (B6.out.trans (b7.mono hw6))
        have F7 := Fk.hide (F6.out.trans (Bw.Fr.of_below b7))
        have kC7 : Hid (Wq.Kind W7 w.heap.size 27) := kC6.out.of_block (b7.block _ hc6)
        have e0 := (b7.cell (p := ⟨w.heap.size, 0, none⟩) (by exact hc6)).trans t0
        have e1 := (b7.cell (p := ⟨w.heap.size, 1, none⟩) (by exact hc6)).trans t1
        have e3 := (b7.cell (p := ⟨w.heap.size, 3, none⟩) (by exact hc6)).trans t3
        have e4 := (b7.cell (p := ⟨w.heap.size, 4, none⟩) (by exact hc6)).trans t4
        have e5 := (b7.cell (p := ⟨w.heap.size, 5, none⟩) (by exact hc6)).trans t5
        have e6 := (b7.cell (p := ⟨w.heap.size, 6, none⟩) (by exact hc6)).trans t6
        have e7 := (b7.cell (p := ⟨w.heap.size, 7, none⟩) (by exact hc6)).trans t7
        have e8 := (b7.cell (p := ⟨w.heap.size, 8, none⟩) (by exact hc6)).trans t8
        have e9 := (b7.cell (p := ⟨w.heap.size, 9, none⟩) (by exact hc6)).trans t9
        have g2 := (b7.cell (p := ⟨b, 2, none⟩) (by exact hb6)).trans j2
        have gf := (b7.frozen (p := ⟨b, 2, none⟩) (by exact hb6)).trans jf
        have hw7 : base ≤ W7.heap.size := Nat.le_trans hw6 b7.size
        rw [← hW7]
        clear hW7 b7 t0 t1 t3 t4 t5 t6 t7 t8 t9 j2 jf J6 B6 F6 kC6
        have hbo : Hid ((⟨b, 2, none⟩ : Addr) ≠ ⟨w6.heap.size, 0, none⟩) := fun e => by have := congrArg Addr.block e; simp at this; omega
        have l0 : (W7.setCell ⟨b, 2, none⟩ (.int .i64 (n + 1))).cell? ⟨w6.heap.size, 0, none⟩ = some (.int .i64 n) := (World.cell?_setCell_other _ _ _ _ hbo.out).trans p0
        have n1 : IntKind.i64.wrap (n + 1) = n + 1 := by rw [IntKind.wrap_i64]; omega
        clear hc6 hb6
        go_wp2_with fail
        have J8 : Hid (Bw.Is (W7.setCell ⟨b, 2, none⟩ (.int .i64 (n + 1))) base b (.slice ax X.b.length cx) (.slice ay X.a.length cy) z X.next) := by show Bw.Is _ _ _ _ _ _ _; have h := J7.out.setNext (n + 1); unfold Dm.Bk.next; rw [← HNN.out]; exact h
        have B8 : Hid (Below base w (W7.setCell ⟨b, 2, none⟩ (.int .i64 (n + 1)))) := B7.out.setCell J7.out.hb _
        have F8 : Hid (Bw.Fr w (W7.setCell ⟨b, 2, none⟩ (.int .i64 (n + 1)))) := F7.out.trans (Bw.Fr.setBook J7.out.kind)
        have F78 : Hid (Bw.Fr W7 (W7.setCell ⟨b, 2, none⟩ (.int .i64 (n + 1)))) := Bw.Fr.setBook J7.out.kind
        refine (bookTell_any base b _ _ z X.next 1 n 0 0 0 _ J8.out (Nat.le_trans hw B8.out.size) (by simp only [Dm.Bk.next]; omega)).mono ?_
        rintro e w9 ⟨rfl, ⟨z9, J9⟩, B9, F9⟩
        have J9' : Hid (Bw.Is w9 base b (.slice ax X.b.length cx) (.slice ay X.a.length cy) z9 (Dm.taken X)) := by show Bw.Is _ _ _ _ _ _ _; unfold Dm.taken; rw [← HNN.out]; exact J9
        have B9' := Fk.hide (B8.out.trans B9)
        have F9' := Fk.hide (F8.out.trans F9)
        have F79 := Fk.hide (F78.out.trans F9)
        have q0 := (F79.out.cell (j := 0) kO7.out (by decide) (by decide)).trans p0
        have q1 := (F79.out.cell (j := 1) kO7.out (by decide) (by decide)).trans p1
        have q2 := (F79.out.cell (j := 2) kO7.out (by decide) (by decide)).trans p2
        have q3 := (F79.out.cell (j := 3) kO7.out (by decide) (by decide)).trans p3
        have q4 := (F79.out.cell (j := 4) kO7.out (by decide) (by decide)).trans p4
        have q5 := (F79.out.cell (j := 5) kO7.out (by decide) (by decide)).trans p5
        have q6 := (F79.out.cell (j := 6) kO7.out (by decide) (by decide)).trans p6
        have q7 := (F79.out.cell (j := 7) kO7.out (by decide) (by decide)).trans p7
        have v0 := (F79.out.cell (j := 0) kC7.out (by decide) (by decide)).trans e0
        have v1 := (F79.out.cell (j := 1) kC7.out (by decide) (by decide)).trans e1
        have v3 := (F79.out.cell (j := 3) kC7.out (by decide) (by decide)).trans e3
        have v4 := (F79.out.cell (j := 4) kC7.out (by decide) (by decide)).trans e4
        have v5 := (F79.out.cell (j := 5) kC7.out (by decide) (by decide)).trans e5
        have v6 := (F79.out.cell (j := 6) kC7.out (by decide) (by decide)).trans e6
        have v7 := (F79.out.cell (j := 7) kC7.out (by decide) (by decide)).trans e7
        have v8 := (F79.out.cell (j := 8) kC7.out (by decide) (by decide)).trans e8
        have v9 := (F79.out.cell (j := 9) kC7.out (by decide) (by decide)).trans e9
        have kO9 : Hid (Wq.Kind w9 w6.heap.size 40) := by
          obtain ⟨cs, fr, hq⟩ := kO7.out
          exact ⟨cs, fr, (F79.out _ _ _ _ hq (by decide) (by decide)).trans hq⟩
        have kC9 : Hid (Wq.Kind w9 w.heap.size 27) := by
          obtain ⟨cs, fr, hq⟩ := kC7.out
          exact ⟨cs, fr, (F79.out _ _ _ _ hq (by decide) (by decide)).trans hq⟩
        have hw9 : base ≤ w9.heap.size := Nat.le_trans hw B9'.out.size
        clear p0 p1 p2 p3 p4 p5 p6 p7 e0 e1 e3 e4 e5 e6 e7 e8 e9 g2 gf l0 J9 B9 F9 J8 B8 F8 F78 J7 B7 F7 F79 kO7 kC7 n1
        have HFT : Hid (∀ o ∈ (Dm.taken X).side (!buy), Dm.Fine o) := by show ∀ o ∈ _, _; rw [Dm.side_taken]; exact HFN.out _
        have HL1 : Hid (((Dm.taken X).side (!buy)).length ≤ 100000) := by show _ ≤ _; rw [Dm.side_taken]; have := HLN.out (!buy); omega
        have HL2 : Hid (((Dm.taken X).side buy).length ≤ 100000) := by show _ ≤ _; rw [Dm.side_taken]; have := HLN.out buy; omega
        have HLE : Hid ((Dm.taken X).ev.length ≤ 100000) := by show _ ≤ _; rw [Dm.ev_taken]; omega
        have HE : Hid (Dm.order (⟨1, owner, id, buy, price, amount, 2, false, peak, guard⟩ : Cm.C) X = (0, Dm.come (n, owner, price, 0, false, peak, 0, guard) buy price amount false (Dm.taken X))) := by show _ = _; rw [Dm.order_rest hq rfl (by show (2 : Int) ≠ 3; decide), HNN.out]; rfl
        go_wp2_with fail
        refine (bookCome_any base b _ _ z9 (Dm.taken X) n owner price 0 false peak 0 guard buy price amount false w9 J9'.out (Nat.le_trans hw B9'.out.size) ha.1 ha.2 (by omega) HFT.out HL1.out HL2.out HLE.out).mono ?_
        rintro e w10 ⟨rfl, ⟨x10, y10, z10, J10⟩, B10, F10⟩
        have J10' := Fk.hide J10
        have B10' := Fk.hide (B9'.out.trans B10)
        have F10' := Fk.hide (F9'.out.trans F10)
        clear J10 B10 F10
        go_wp2_with fail
        refine bodyPost_ret (v := .int .i64 0) (by simp [results, Try.results88, go_sem]) rfl ⟨by rw [HE.out], ⟨_, _, _, by rw [HE.out]; exact J10'.out⟩, B10'.out, F10'.out⟩
  · skip
    by_cases hmax : (1000000 : Int) ≤ n
    · have HE : Hid (Dm.order (⟨1, owner, id, buy, price, amount, 3, false, peak, guard⟩ : Cm.C) X = (9, X)) := by show _ = _; unfold Dm.order; rw [if_pos (by rw [← HNN.out]; simp [hmax])]
      go_enter Try.func88, Try.ntmps88
      go_wp2_with fail
      rw [← HW.out]
      have r0 := cell_regrown i0
      have r1 := cell_regrown i1
      have r2 := cell_regrown i2
      have dn : decide ((1000000 : Int) ≤ n) = true := decide_eq_true hmax
      go_wp2_with fail
      refine wp_region_quiet_below (by kernel_rfl) (by kernel_rfl) ?_
      repeat (go_big_quiet_step (fail))
      refine wpQuiet_nil ?_
      intro w4 hw'
      obtain ⟨⟨dq, osq⟩, hw''⟩ := hw'
      have kw4 : Below W.heap.size W w4 := by rw [hw'']; exact below_regrown W dq osq
      clear hw''
      have B4 := Fk.hide (HBW.out.trans (kw4.mono (Nat.le_trans hw HWz.out)))
      have F4 := Fk.hide (HFW.out.trans (Bw.Fr.of_below kw4))
      have J4 := Fk.hide (HI.out.below kw4)
      have HK4 := Fk.hide kw4
      have s0 := (kw4.cell (p := ⟨w.heap.size, 0, none⟩) (by exact kC.out.lt)).trans o0
      have s1 := (kw4.cell (p := ⟨w.heap.size, 1, none⟩) (by exact kC.out.lt)).trans o1
      have s3 := (kw4.cell (p := ⟨w.heap.size, 3, none⟩) (by exact kC.out.lt)).trans o3
      have s4 := (kw4.cell (p := ⟨w.heap.size, 4, none⟩) (by exact kC.out.lt)).trans o4
      have s5 := (kw4.cell (p := ⟨w.heap.size, 5, none⟩) (by exact kC.out.lt)).trans o5
      have s6 := (kw4.cell (p := ⟨w.heap.size, 6, none⟩) (by exact kC.out.lt)).trans o6
      have s7 := (kw4.cell (p := ⟨w.heap.size, 7, none⟩) (by exact kC.out.lt)).trans o7
      have s8 := (kw4.cell (p := ⟨w.heap.size, 8, none⟩) (by exact kC.out.lt)).trans o8
      have s9 := (kw4.cell (p := ⟨w.heap.size, 9, none⟩) (by exact kC.out.lt)).trans o9
      have kC4 : Hid (Wq.Kind w4 w.heap.size 27) := kC.out.of_block (kw4.block _ kC.out.lt)
      have hw4 : base ≤ w4.heap.size := Nat.le_trans hw B4.out.size
      have j0 := J4.out.c0
      have j1 := J4.out.c1
      have HSX : Hid (∃ a n c, Value.slice ax X.b.length cx = .slice a n c) := ⟨_, _, _, rfl⟩
      have HSY : Hid (∃ a n c, Value.slice ay X.a.length cy = .slice a n c) := ⟨_, _, _, rfl⟩
      clear kw4 r0 r1 r2
      go_wp2_with fail
      refine bodyPost_ret (v := .int .i64 9) (by simp [results, Try.results88, go_sem]) rfl ⟨by rw [HE.out], ⟨_, _, _, by rw [HE.out]; exact J4.out⟩, B4.out, F4.out⟩
    · have hq : (decide ((1000000 : Int) ≤ X.n) || (Dm.rests (⟨1, owner, id, buy, price, amount, 3, false, peak, guard⟩ : Cm.C) && decide ((24 : Int) ≤ (X.b.length : Int) + X.a.length))) = false := by rw [← HNN.out]; simp [Dm.rests, hmax] <;> omega
      go_enter Try.func88, Try.ntmps88
      go_wp2_with fail
      rw [← HW.out]
      have r0 := cell_regrown i0
      have r1 := cell_regrown i1
      have r2 := cell_regrown i2
      have dn : decide ((1000000 : Int) ≤ n) = false := decide_eq_false (by omega)
      go_wp2_with fail
      refine wp_region_quiet_below (by kernel_rfl) (by kernel_rfl) ?_
      repeat (go_big_quiet_step (fail))
      refine wpQuiet_nil ?_
      intro w4 hw'
      obtain ⟨⟨dq, osq⟩, hw''⟩ := hw'
      have kw4 : Below W.heap.size W w4 := by rw [hw'']; exact below_regrown W dq osq
      clear hw''
      have B4 := Fk.hide (HBW.out.trans (kw4.mono (Nat.le_trans hw HWz.out)))
      have F4 := Fk.hide (HFW.out.trans (Bw.Fr.of_below kw4))
      have J4 := Fk.hide (HI.out.below kw4)
      have HK4 := Fk.hide kw4
      have s0 := (kw4.cell (p := ⟨w.heap.size, 0, none⟩) (by exact kC.out.lt)).trans o0
      have s1 := (kw4.cell (p := ⟨w.heap.size, 1, none⟩) (by exact kC.out.lt)).trans o1
      have s3 := (kw4.cell (p := ⟨w.heap.size, 3, none⟩) (by exact kC.out.lt)).trans o3
      have s4 := (kw4.cell (p := ⟨w.heap.size, 4, none⟩) (by exact kC.out.lt)).trans o4
      have s5 := (kw4.cell (p := ⟨w.heap.size, 5, none⟩) (by exact kC.out.lt)).trans o5
      have s6 := (kw4.cell (p := ⟨w.heap.size, 6, none⟩) (by exact kC.out.lt)).trans o6
      have s7 := (kw4.cell (p := ⟨w.heap.size, 7, none⟩) (by exact kC.out.lt)).trans o7
      have s8 := (kw4.cell (p := ⟨w.heap.size, 8, none⟩) (by exact kC.out.lt)).trans o8
      have s9 := (kw4.cell (p := ⟨w.heap.size, 9, none⟩) (by exact kC.out.lt)).trans o9
      have kC4 : Hid (Wq.Kind w4 w.heap.size 27) := kC.out.of_block (kw4.block _ kC.out.lt)
      have hw4 : base ≤ w4.heap.size := Nat.le_trans hw B4.out.size
      have j0 := J4.out.c0
      have j1 := J4.out.c1
      have HSX : Hid (∃ a n c, Value.slice ax X.b.length cx = .slice a n c) := ⟨_, _, _, rfl⟩
      have HSY : Hid (∃ a n c, Value.slice ay X.a.length cy = .slice a n c) := ⟨_, _, _, rfl⟩
      clear kw4 r0 r1 r2
      go_wp2_with fail
      refine (side_any b _ _ (!buy) w4 j0 j1 HSX.out HSY.out).mono ?_
      rintro e w5 ⟨rfl, hw5⟩
      obtain rfl := hw5.symm
      obtain ⟨vs, hvs⟩ : ∃ v, v = Ob.pick (!buy) (Value.slice ax X.b.length cx) (Value.slice ay X.a.length cy) := ⟨_, rfl⟩
      rw [← hvs]
      obtain ⟨avs, nvs, cvs, rfl⟩ : ∃ a n c, vs = .slice a n c := by rw [hvs]; cases buy; exact ⟨_, _, _, rfl⟩; exact ⟨_, _, _, rfl⟩
      clear hvs j0 j1
      go_wp2_with fail
      have r7 := cell_regrown s7
      refine wp_region_quiet_below (by kernel_rfl) (by kernel_rfl) ?_
      repeat (go_big_quiet_step (fail))
      refine wpQuiet_nil ?_
      intro w6 hw'
      obtain ⟨⟨dq, osq⟩, hw''⟩ := hw'
      have kw6 : Below w4.heap.size w4 w6 := by rw [hw'']; exact below_regrown w4 dq osq
      clear hw''
      have B6 := Fk.hide (B4.out.trans (kw6.mono hw4))
      have F6 := Fk.hide (F4.out.trans (Bw.Fr.of_below kw6))
      have J6 := Fk.hide (J4.out.below kw6)
      have t0 := (kw6.cell (p := ⟨w.heap.size, 0, none⟩) (by exact kC4.out.lt)).trans s0
      have t1 := (kw6.cell (p := ⟨w.heap.size, 1, none⟩) (by exact kC4.out.lt)).trans s1
      have t3 := (kw6.cell (p := ⟨w.heap.size, 3, none⟩) (by exact kC4.out.lt)).trans s3
      have t4 := (kw6.cell (p := ⟨w.heap.size, 4, none⟩) (by exact kC4.out.lt)).trans s4
      have t5 := (kw6.cell (p := ⟨w.heap.size, 5, none⟩) (by exact kC4.out.lt)).trans s5
      have t6 := (kw6.cell (p := ⟨w.heap.size, 6, none⟩) (by exact kC4.out.lt)).trans s6
      have t7 := (kw6.cell (p := ⟨w.heap.size, 7, none⟩) (by exact kC4.out.lt)).trans s7
      have t8 := (kw6.cell (p := ⟨w.heap.size, 8, none⟩) (by exact kC4.out.lt)).trans s8
      have t9 := (kw6.cell (p := ⟨w.heap.size, 9, none⟩) (by exact kC4.out.lt)).trans s9
      have kC6 : Hid (Wq.Kind w6 w.heap.size 27) := kC4.out.of_block (kw6.block _ kC4.out.lt)
      have hw6 : base ≤ w6.heap.size := Nat.le_trans hw B6.out.size
      have j2 : w6.cell? ⟨b, 2, none⟩ = some (.int .i64 n) := J6.out.c2.trans (by rw [HNN.out])
      have jf := J6.out.fr 2
      clear kw6 r7 s0 s1 s3 s4 s5 s6 s7 s8 s9 B4 F4 J4 kC4
      have hc6 : w.heap.size < w6.heap.size := kC6.out.lt
      have hb6 : b < w6.heap.size := J6.out.kind.lt
      go_wp2_with fail
      go_region_held3 (fun w' => w'.cell? ⟨b, 2, none⟩ = some (.int .i64 n) ∧ w'.cell? ⟨w.heap.size, 1, none⟩ = some (.int .i64 owner) ∧ w'.cell? ⟨w.heap.size, 4, none⟩ = some (.int .i64 price) ∧ w'.cell? ⟨w.heap.size, 6, none⟩ = some (.int .i64 3) ∧ w'.cell? ⟨w.heap.size, 8, none⟩ = some (.int .i64 peak) ∧ w'.cell? ⟨w.heap.size, 9, none⟩ = some (.bool guard))
        (first | go_keep | (go_split_ands; exact ⟨by assumption, by assumption, by assumption, by assumption, by assumption, by assumption⟩))
        (fail)
      all_goals
        obtain ⟨W7, hW7⟩ : ∃ W, W = (w6.alloc (.cells #[.int .i64 n, .int .i64 owner, .int .i64 price, .int .i64 0, .bool false, .int .i64 peak, .int .i64 0, .bool guard] 40)).drew := ⟨_, rfl⟩
        have b7 : Below w6.heap.size w6 W7 := by rw [hW7]; exact Below.drew ((Below.refl _ _).alloc (Nat.le_refl _) _)
        have kO7 : Hid (Wq.Kind W7 w6.heap.size 40) := by show Wq.Kind _ _ _; rw [hW7]; exact ⟨_, _, heap_alloc_new w6 _⟩
        have p0 : W7.cell? ⟨w6.heap.size, 0, none⟩ = some (.int .i64 n) := by rw [hW7]; exact Fk.cellTop w6 _ _ _ _ rfl
        have p1 : W7.cell? ⟨w6.heap.size, 1, none⟩ = some (.int .i64 owner) := by rw [hW7]; exact Fk.cellTop w6 _ _ _ _ rfl
        have p2 : W7.cell? ⟨w6.heap.size, 2, none⟩ = some (.int .i64 price) := by rw [hW7]; exact Fk.cellTop w6 _ _ _ _ rfl
        have p3 : W7.cell? ⟨w6.heap.size, 3, none⟩ = some (.int .i64 0) := by rw [hW7]; exact Fk.cellTop w6 _ _ _ _ rfl
        have p4 : W7.cell? ⟨w6.heap.size, 4, none⟩ = some (.bool false) := by rw [hW7]; exact Fk.cellTop w6 _ _ _ _ rfl
        have p5 : W7.cell? ⟨w6.heap.size, 5, none⟩ = some (.int .i64 peak) := by rw [hW7]; exact Fk.cellTop w6 _ _ _ _ rfl
        have p6 : W7.cell? ⟨w6.heap.size, 6, none⟩ = some (.int .i64 0) := by rw [hW7]; exact Fk.cellTop w6 _ _ _ _ rfl
        have p7 : W7.cell? ⟨w6.heap.size, 7, none⟩ = some (.bool guard) := by rw [hW7]; exact Fk.cellTop w6 _ _ _ _ rfl
        have J7 := Fk.hide (J6.out.below b7)
        have B7 := Fk.hide (B6.out.trans (b7.mono hw6))
        have F7 := Fk.hide (F6.out.trans (Bw.Fr.of_below b7))
        have kC7 : Hid (Wq.Kind W7 w.heap.size 27) := kC6.out.of_block (b7.block _ hc6)
        have e0 := (b7.cell (p := ⟨w.heap.size, 0, none⟩) (by exact hc6)).trans t0
        have e1 := (b7.cell (p := ⟨w.heap.size, 1, none⟩) (by exact hc6)).trans t1
        have e3 := (b7.cell (p := ⟨w.heap.size, 3, none⟩) (by exact hc6)).trans t3
        have e4 := (b7.cell (p := ⟨w.heap.size, 4, none⟩) (by exact hc6)).trans t4
        have e5 := (b7.cell (p := ⟨w.heap.size, 5, none⟩) (by exact hc6)).trans t5
        have e6 := (b7.cell (p := ⟨w.heap.size, 6, none⟩) (by exact hc6)).trans t6
        have e7 := (b7.cell (p := ⟨w.heap.size, 7, none⟩) (by exact hc6)).trans t7
        have e8 := (b7.cell (p := ⟨w.heap.size, 8, none⟩) (by exact hc6)).trans t8
        have e9 := (b7.cell (p := ⟨w.heap.size, 9, none⟩) (by exact hc6)).trans t9
        have g2 := (b7.cell (p := ⟨b, 2, none⟩) (by exact hb6)).trans j2
        have gf := (b7.frozen (p := ⟨b, 2, none⟩) (by exact hb6)).trans jf
        have hw7 : base ≤ W7.heap.size := Nat.le_trans hw6 b7.size
        rw [← hW7]
        clear hW7 b7 t0 t1 t3 t4 t5 t6 t7 t8 t9 j2 jf J6 B6 F6 kC6
        have hbo : Hid ((⟨b, 2, none⟩ : Addr) ≠ ⟨w6.heap.size, 0, none⟩) := fun e => by have := congrArg Addr.block e; simp at this; omega
        have l0 : (W7.setCell ⟨b, 2, none⟩ (.int .i64 (n + 1))).cell? ⟨w6.heap.size, 0, none⟩ = some (.int .i64 n) := (World.cell?_setCell_other _ _ _ _ hbo.out).trans p0
        have n1 : IntKind.i64.wrap (n + 1) = n + 1 := by rw [IntKind.wrap_i64]; omega
        clear hc6 hb6
        go_wp2_with fail
        have J8 : Hid (Bw.Is (W7.setCell ⟨b, 2, none⟩ (.int .i64 (n + 1))) base b (.slice ax X.b.length cx) (.slice ay X.a.length cy) z X.next) := by show Bw.Is _ _ _ _ _ _ _; have h := J7.out.setNext (n + 1); unfold Dm.Bk.next; rw [← HNN.out]; exact h
        have B8 : Hid (Below base w (W7.setCell ⟨b, 2, none⟩ (.int .i64 (n + 1)))) := B7.out.setCell J7.out.hb _
        have F8 : Hid (Bw.Fr w (W7.setCell ⟨b, 2, none⟩ (.int .i64 (n + 1)))) := F7.out.trans (Bw.Fr.setBook J7.out.kind)
        have F78 : Hid (Bw.Fr W7 (W7.setCell ⟨b, 2, none⟩ (.int .i64 (n + 1)))) := Bw.Fr.setBook J7.out.kind
        refine (bookTell_any base b _ _ z X.next 1 n 0 0 0 _ J8.out (Nat.le_trans hw B8.out.size) (by simp only [Dm.Bk.next]; omega)).mono ?_
        rintro e w9 ⟨rfl, ⟨z9, J9⟩, B9, F9⟩
        have J9' : Hid (Bw.Is w9 base b (.slice ax X.b.length cx) (.slice ay X.a.length cy) z9 (Dm.taken X)) := by show Bw.Is _ _ _ _ _ _ _; unfold Dm.taken; rw [← HNN.out]; exact J9
        have B9' := Fk.hide (B8.out.trans B9)
        have F9' := Fk.hide (F8.out.trans F9)
        have F79 := Fk.hide (F78.out.trans F9)
        have q0 := (F79.out.cell (j := 0) kO7.out (by decide) (by decide)).trans p0
        have q1 := (F79.out.cell (j := 1) kO7.out (by decide) (by decide)).trans p1
        have q2 := (F79.out.cell (j := 2) kO7.out (by decide) (by decide)).trans p2
        have q3 := (F79.out.cell (j := 3) kO7.out (by decide) (by decide)).trans p3
        have q4 := (F79.out.cell (j := 4) kO7.out (by decide) (by decide)).trans p4
        have q5 := (F79.out.cell (j := 5) kO7.out (by decide) (by decide)).trans p5
        have q6 := (F79.out.cell (j := 6) kO7.out (by decide) (by decide)).trans p6
        have q7 := (F79.out.cell (j := 7) kO7.out (by decide) (by decide)).trans p7
        have v0 := (F79.out.cell (j := 0) kC7.out (by decide) (by decide)).trans e0
        have v1 := (F79.out.cell (j := 1) kC7.out (by decide) (by decide)).trans e1
        have v3 := (F79.out.cell (j := 3) kC7.out (by decide) (by decide)).trans e3
        have v4 := (F79.out.cell (j := 4) kC7.out (by decide) (by decide)).trans e4
        have v5 := (F79.out.cell (j := 5) kC7.out (by decide) (by decide)).trans e5
        have v6 := (F79.out.cell (j := 6) kC7.out (by decide) (by decide)).trans e6
        have v7 := (F79.out.cell (j := 7) kC7.out (by decide) (by decide)).trans e7
        have v8 := (F79.out.cell (j := 8) kC7.out (by decide) (by decide)).trans e8
        have v9 := (F79.out.cell (j := 9) kC7.out (by decide) (by decide)).trans e9
        have kO9 : Hid (Wq.Kind w9 w6.heap.size 40) := by
          obtain ⟨cs, fr, hq⟩ := kO7.out
          exact ⟨cs, fr, (F79.out _ _ _ _ hq (by decide) (by decide)).trans hq⟩
        have kC9 : Hid (Wq.Kind w9 w.heap.size 27) := by
          obtain ⟨cs, fr, hq⟩ := kC7.out
          exact ⟨cs, fr, (F79.out _ _ _ _ hq (by decide) (by decide)).trans hq⟩
        have hw9 : base ≤ w9.heap.size := Nat.le_trans hw B9'.out.size
        clear p0 p1 p2 p3 p4 p5 p6 p7 e0 e1 e3 e4 e5 e6 e7 e8 e9 g2 gf l0 J9 B9 F9 J8 B8 F8 F78 J7 B7 F7 F79 kO7 kC7 n1
        have HFT : Hid (∀ o ∈ (Dm.taken X).side (!buy), Dm.Fine o) := by show ∀ o ∈ _, _; rw [Dm.side_taken]; exact HFN.out _
        have HL1 : Hid (((Dm.taken X).side (!buy)).length ≤ 100000) := by show _ ≤ _; rw [Dm.side_taken]; have := HLN.out (!buy); omega
        have HL2 : Hid (((Dm.taken X).side buy).length ≤ 100000) := by show _ ≤ _; rw [Dm.side_taken]; have := HLN.out buy; omega
        have HLE : Hid ((Dm.taken X).ev.length ≤ 100000) := by show _ ≤ _; rw [Dm.ev_taken]; omega
        obtain ⟨M, hM⟩ : ∃ M, M = Dm.meetB (n, owner, price, 0, false, peak, 0, guard) buy price amount.toNat amount (Dm.taken X).mute := ⟨_, rfl⟩
        have HD : Hid (Below w9.heap.size w9 w9.drew) := Below.drew (Below.refl _ _)
        have FC : Hid (∀ w', Below w9.heap.size w9 w' → Calls Try.prog 99 #[.pointer (some ⟨b, 0, none⟩)] w' fun e w'' => (∃ x y z b, e = .returned (.pointer (some ⟨b, 0, none⟩)) ∧ Bw.Is w'' w'.heap.size b x y z (Dm.taken X).mute) ∧ Below w'.heap.size w' w'') := fun w' h => bookClone_any b _ _ _ (Dm.taken X).b (Dm.taken X).a w' (J9'.out.below h).two.b.view (J9'.out.below h).two.a.view (J9'.out.below h).two.b.shut (J9'.out.below h).two.a.shut (by have := HLB.out; show X.b.length ≤ _; omega) (by have := HLA.out; show X.a.length ≤ _; omega) (J9'.out.below h).kind.lt (J9'.out.below h).c0 (J9'.out.below h).c1 (J9'.out.below h).c2
        have FM : Hid (∀ (w' : World) (ba b2 : Nat) (x y z : Value), Bw.Is w' ba b2 x y z (Dm.taken X).mute → ba ≤ w'.heap.size → Calls Try.prog 100 #[.pointer (some ⟨b2, 0, none⟩), .agg #[.int .i64 n, .int .i64 owner, .int .i64 price, .int .i64 0, .bool false, .int .i64 peak, .int .i64 0, .bool guard], .bool buy, .int .i64 price, .int .i64 amount] w' fun e w'' => e = .returned (.tuple #[.int .i64 M.1, .bool M.2.1]) ∧ Below ba w' w'') := fun w' ba b2 x y z hi hb => (bookMeet_any ba b2 x y z (Dm.taken X).mute n owner price 0 false peak 0 guard buy price amount w' hi hb ha.1 ha.2 (by intro o ho; exact HFT.out o (by cases buy <;> exact ho)) (by have := HL1.out; cases buy <;> exact this) (by simp [Dm.Bk.mute])).mono (fun e w'' h => ⟨by rw [hM]; exact h.1, h.2.2.1⟩)
        have HM := Fk.hide hM
        clear hM
        obtain ⟨m1, m2, mB⟩ := M
        dsimp only at FM
        go_wp2_with fail
        go_region_held3 (fun w' => w'.cell? ⟨w6.heap.size, 0, none⟩ = some (.int .i64 n) ∧ w'.cell? ⟨w6.heap.size, 1, none⟩ = some (.int .i64 owner) ∧ w'.cell? ⟨w6.heap.size, 2, none⟩ = some (.int .i64 price) ∧ w'.cell? ⟨w6.heap.size, 3, none⟩ = some (.int .i64 0) ∧ w'.cell? ⟨w6.heap.size, 4, none⟩ = some (.bool false) ∧ w'.cell? ⟨w6.heap.size, 5, none⟩ = some (.int .i64 peak) ∧ w'.cell? ⟨w6.heap.size, 6, none⟩ = some (.int .i64 0) ∧ w'.cell? ⟨w6.heap.size, 7, none⟩ = some (.bool guard) ∧ w'.cell? ⟨w.heap.size, 3, none⟩ = some (.bool buy) ∧ w'.cell? ⟨w.heap.size, 4, none⟩ = some (.int .i64 price) ∧ w'.cell? ⟨w.heap.size, 5, none⟩ = some (.int .i64 amount))
          (first | go_keep | (go_split_ands; exact ⟨by assumption, by assumption, by assumption, by assumption, by assumption, by assumption, by assumption, by assumption, by assumption, by assumption, by assumption⟩))
          (first
            | (have hchk := HB10.out; clear hchk; go_at_call 100; refine (FM.out _ _ _ _ _ _ HJ10.out HZ10.out).mono ?_; rintro e w11 ⟨rfl, b11⟩; have B11 : Below w9.heap.size w9 w11 := HB10.out.trans b11; have yq0 := (B11.cell (p := ⟨w6.heap.size, 0, none⟩) (by exact kO9.out.lt)).trans q0; have yq1 := (B11.cell (p := ⟨w6.heap.size, 1, none⟩) (by exact kO9.out.lt)).trans q1; have yq2 := (B11.cell (p := ⟨w6.heap.size, 2, none⟩) (by exact kO9.out.lt)).trans q2; have yq3 := (B11.cell (p := ⟨w6.heap.size, 3, none⟩) (by exact kO9.out.lt)).trans q3; have yq4 := (B11.cell (p := ⟨w6.heap.size, 4, none⟩) (by exact kO9.out.lt)).trans q4; have yq5 := (B11.cell (p := ⟨w6.heap.size, 5, none⟩) (by exact kO9.out.lt)).trans q5; have yq6 := (B11.cell (p := ⟨w6.heap.size, 6, none⟩) (by exact kO9.out.lt)).trans q6; have yq7 := (B11.cell (p := ⟨w6.heap.size, 7, none⟩) (by exact kO9.out.lt)).trans q7; have yv3 := (B11.cell (p := ⟨w.heap.size, 3, none⟩) (by exact kC9.out.lt)).trans v3; have yv4 := (B11.cell (p := ⟨w.heap.size, 4, none⟩) (by exact kC9.out.lt)).trans v4; have yv5 := (B11.cell (p := ⟨w.heap.size, 5, none⟩) (by exact kC9.out.lt)).trans v5; have HB11 := Fk.hide B11; clear B11 b11)
            | (go_at_call 99; refine (FC.out _ HD.out).mono ?_; rintro e w10 ⟨⟨xx, xy, xz, b2, rfl, j10⟩, b10⟩; have B10 : Below w9.heap.size w9 w10 := HD.out.trans b10; have xq0 := (B10.cell (p := ⟨w6.heap.size, 0, none⟩) (by exact kO9.out.lt)).trans q0; have xq1 := (B10.cell (p := ⟨w6.heap.size, 1, none⟩) (by exact kO9.out.lt)).trans q1; have xq2 := (B10.cell (p := ⟨w6.heap.size, 2, none⟩) (by exact kO9.out.lt)).trans q2; have xq3 := (B10.cell (p := ⟨w6.heap.size, 3, none⟩) (by exact kO9.out.lt)).trans q3; have xq4 := (B10.cell (p := ⟨w6.heap.size, 4, none⟩) (by exact kO9.out.lt)).trans q4; have xq5 := (B10.cell (p := ⟨w6.heap.size, 5, none⟩) (by exact kO9.out.lt)).trans q5; have xq6 := (B10.cell (p := ⟨w6.heap.size, 6, none⟩) (by exact kO9.out.lt)).trans q6; have xq7 := (B10.cell (p := ⟨w6.heap.size, 7, none⟩) (by exact kO9.out.lt)).trans q7; have xv3 := (B10.cell (p := ⟨w.heap.size, 3, none⟩) (by exact kC9.out.lt)).trans v3; have xv4 := (B10.cell (p := ⟨w.heap.size, 4, none⟩) (by exact kC9.out.lt)).trans v4; have xv5 := (B10.cell (p := ⟨w.heap.size, 5, none⟩) (by exact kC9.out.lt)).trans v5; have HJ10 := Fk.hide j10; have HZ10 : Hid (w9.drew.heap.size ≤ w10.heap.size) := b10.size; have HB10 := Fk.hide B10; clear B10 b10 j10))
        all_goals
          have J11 := Fk.hide (J9'.out.below HB11.out)
          have B11' := Fk.hide (B9'.out.trans (HB11.out.mono hw9))
          have F11' := Fk.hide (F9'.out.trans (Bw.Fr.of_below HB11.out))
          have yv6 := (HB11.out.cell (p := ⟨w.heap.size, 6, none⟩) (by exact kC9.out.lt)).trans v6
          have kO11 : Hid (Wq.Kind w11 w6.heap.size 40) := kO9.out.of_block (HB11.out.block _ kO9.out.lt)
          have kC11 : Hid (Wq.Kind w11 w.heap.size 27) := kC9.out.of_block (HB11.out.block _ kC9.out.lt)
          have hw11 : base ≤ w11.heap.size := Nat.le_trans hw B11'.out.size
          by_cases hml : 0 < m1
          · have HE : Hid (Dm.order (⟨1, owner, id, buy, price, amount, 3, false, peak, guard⟩ : Cm.C) X = (0, (Dm.taken X).tell (3, n, 0, 0, amount))) := by show _ = _; rw [Dm.order_all hq rfl rfl, if_pos (by rw [← HNN.out]; have h := congrArg Prod.fst HM.out; exact h ▸ hml), HNN.out]
            have HD1 : Hid (Below w11.heap.size w11 w11.drew) := Below.drew (Below.refl _ _)
            go_wp2_with fail
            refine (bookTell_any base b _ _ z9 (Dm.taken X) 3 n 0 0 amount w11 J11.out hw11 (by have := HLE.out; omega)).mono ?_
            rintro e w12 ⟨rfl, ⟨z12, J12⟩, B12, F12⟩
            have J12' := Fk.hide J12
            have B12' := Fk.hide (B11'.out.trans B12)
            have F12' := Fk.hide (F11'.out.trans F12)
            clear J12 B12 F12
            go_wp2_with fail
            refine bodyPost_ret (v := .int .i64 0) (by simp [results, Try.results88, go_sem]) rfl ⟨by rw [HE.out], ⟨_, _, _, by rw [HE.out]; exact J12'.out⟩, B12'.out, F12'.out⟩
          · skip
            have HE : Hid (Dm.order (⟨1, owner, id, buy, price, amount, 3, false, peak, guard⟩ : Cm.C) X = (0, Dm.come (n, owner, price, 0, false, peak, 0, guard) buy price amount false (Dm.taken X))) := by show _ = _; rw [Dm.order_all hq rfl rfl, if_neg (by rw [← HNN.out]; have h := congrArg Prod.fst HM.out; exact h ▸ hml), HNN.out]; rfl
            go_wp2_with fail
            refine (bookCome_any base b _ _ z9 (Dm.taken X) n owner price 0 false peak 0 guard buy price amount false w11 J11.out (Nat.le_trans hw B11'.out.size) ha.1 ha.2 (by omega) HFT.out HL1.out HL2.out HLE.out).mono ?_
            rintro e w10 ⟨rfl, ⟨x10, y10, z10, J10⟩, B10, F10⟩
            have J10' := Fk.hide J10
            have B10' := Fk.hide (B11'.out.trans B10)
            have F10' := Fk.hide (F11'.out.trans F10)
            clear J10 B10 F10
            go_wp2_with fail
            refine bodyPost_ret (v := .int .i64 0) (by simp [results, Try.results88, go_sem]) rfl ⟨by rw [HE.out], ⟨_, _, _, by rw [HE.out]; exact J10'.out⟩, B10'.out, F10'.out⟩
  · skip
    by_cases hmax : (1000000 : Int) ≤ n
    · have HE : Hid (Dm.order (⟨2, owner, id, buy, price, amount, 0, false, peak, guard⟩ : Cm.C) X = (9, X)) := by show _ = _; unfold Dm.order; rw [if_pos (by rw [← HNN.out]; simp [hmax])]
      go_enter Try.func88, Try.ntmps88
      go_wp2_with fail
      rw [← HW.out]
      have r0 := cell_regrown i0
      have r1 := cell_regrown i1
      have r2 := cell_regrown i2
      have dn : decide ((1000000 : Int) ≤ n) = true := decide_eq_true hmax
      go_wp2_with fail
      refine wp_region_quiet_below (by kernel_rfl) (by kernel_rfl) ?_
      repeat (go_big_quiet_step (fail))
      refine wpQuiet_nil ?_
      intro w4 hw'
      obtain ⟨⟨dq, osq⟩, hw''⟩ := hw'
      have kw4 : Below W.heap.size W w4 := by rw [hw'']; exact below_regrown W dq osq
      clear hw''
      have B4 := Fk.hide (HBW.out.trans (kw4.mono (Nat.le_trans hw HWz.out)))
      have F4 := Fk.hide (HFW.out.trans (Bw.Fr.of_below kw4))
      have J4 := Fk.hide (HI.out.below kw4)
      have HK4 := Fk.hide kw4
      have s0 := (kw4.cell (p := ⟨w.heap.size, 0, none⟩) (by exact kC.out.lt)).trans o0
      have s1 := (kw4.cell (p := ⟨w.heap.size, 1, none⟩) (by exact kC.out.lt)).trans o1
      have s3 := (kw4.cell (p := ⟨w.heap.size, 3, none⟩) (by exact kC.out.lt)).trans o3
      have s4 := (kw4.cell (p := ⟨w.heap.size, 4, none⟩) (by exact kC.out.lt)).trans o4
      have s5 := (kw4.cell (p := ⟨w.heap.size, 5, none⟩) (by exact kC.out.lt)).trans o5
      have s6 := (kw4.cell (p := ⟨w.heap.size, 6, none⟩) (by exact kC.out.lt)).trans o6
      have s7 := (kw4.cell (p := ⟨w.heap.size, 7, none⟩) (by exact kC.out.lt)).trans o7
      have s8 := (kw4.cell (p := ⟨w.heap.size, 8, none⟩) (by exact kC.out.lt)).trans o8
      have s9 := (kw4.cell (p := ⟨w.heap.size, 9, none⟩) (by exact kC.out.lt)).trans o9
      have kC4 : Hid (Wq.Kind w4 w.heap.size 27) := kC.out.of_block (kw4.block _ kC.out.lt)
      have hw4 : base ≤ w4.heap.size := Nat.le_trans hw B4.out.size
      have j0 := J4.out.c0
      have j1 := J4.out.c1
      have HSX : Hid (∃ a n c, Value.slice ax X.b.length cx = .slice a n c) := ⟨_, _, _, rfl⟩
      have HSY : Hid (∃ a n c, Value.slice ay X.a.length cy = .slice a n c) := ⟨_, _, _, rfl⟩
      clear kw4 r0 r1 r2
      go_wp2_with fail
      refine bodyPost_ret (v := .int .i64 9) (by simp [results, Try.results88, go_sem]) rfl ⟨by rw [HE.out], ⟨_, _, _, by rw [HE.out]; exact J4.out⟩, B4.out, F4.out⟩
    · have hq : (decide ((1000000 : Int) ≤ X.n) || (Dm.rests (⟨2, owner, id, buy, price, amount, 0, false, peak, guard⟩ : Cm.C) && decide ((24 : Int) ≤ (X.b.length : Int) + X.a.length))) = false := by rw [← HNN.out]; simp [Dm.rests, hmax] <;> omega
      go_enter Try.func88, Try.ntmps88
      go_wp2_with fail
      rw [← HW.out]
      have r0 := cell_regrown i0
      have r1 := cell_regrown i1
      have r2 := cell_regrown i2
      have dn : decide ((1000000 : Int) ≤ n) = false := decide_eq_false (by omega)
      go_wp2_with fail
      refine wp_region_quiet_below (by kernel_rfl) (by kernel_rfl) ?_
      repeat (go_big_quiet_step (fail))
      refine wpQuiet_nil ?_
      intro w4 hw'
      obtain ⟨⟨dq, osq⟩, hw''⟩ := hw'
      have kw4 : Below W.heap.size W w4 := by rw [hw'']; exact below_regrown W dq osq
      clear hw''
      have B4 := Fk.hide (HBW.out.trans (kw4.mono (Nat.le_trans hw HWz.out)))
      have F4 := Fk.hide (HFW.out.trans (Bw.Fr.of_below kw4))
      have J4 := Fk.hide (HI.out.below kw4)
      have HK4 := Fk.hide kw4
      have s0 := (kw4.cell (p := ⟨w.heap.size, 0, none⟩) (by exact kC.out.lt)).trans o0
      have s1 := (kw4.cell (p := ⟨w.heap.size, 1, none⟩) (by exact kC.out.lt)).trans o1
      have s3 := (kw4.cell (p := ⟨w.heap.size, 3, none⟩) (by exact kC.out.lt)).trans o3
      have s4 := (kw4.cell (p := ⟨w.heap.size, 4, none⟩) (by exact kC.out.lt)).trans o4
      have s5 := (kw4.cell (p := ⟨w.heap.size, 5, none⟩) (by exact kC.out.lt)).trans o5
      have s6 := (kw4.cell (p := ⟨w.heap.size, 6, none⟩) (by exact kC.out.lt)).trans o6
      have s7 := (kw4.cell (p := ⟨w.heap.size, 7, none⟩) (by exact kC.out.lt)).trans o7
      have s8 := (kw4.cell (p := ⟨w.heap.size, 8, none⟩) (by exact kC.out.lt)).trans o8
      have s9 := (kw4.cell (p := ⟨w.heap.size, 9, none⟩) (by exact kC.out.lt)).trans o9
      have kC4 : Hid (Wq.Kind w4 w.heap.size 27) := kC.out.of_block (kw4.block _ kC.out.lt)
      have hw4 : base ≤ w4.heap.size := Nat.le_trans hw B4.out.size
      have j0 := J4.out.c0
      have j1 := J4.out.c1
      have HSX : Hid (∃ a n c, Value.slice ax X.b.length cx = .slice a n c) := ⟨_, _, _, rfl⟩
      have HSY : Hid (∃ a n c, Value.slice ay X.a.length cy = .slice a n c) := ⟨_, _, _, rfl⟩
      clear kw4 r0 r1 r2
      go_wp2_with fail
      refine (side_any b _ _ (!buy) w4 j0 j1 HSX.out HSY.out).mono ?_
      rintro e w5 ⟨rfl, hw5⟩
      obtain rfl := hw5.symm
      obtain ⟨vs, hvs⟩ : ∃ v, v = Ob.pick (!buy) (Value.slice ax X.b.length cx) (Value.slice ay X.a.length cy) := ⟨_, rfl⟩
      rw [← hvs]
      obtain ⟨avs, nvs, cvs, rfl⟩ : ∃ a n c, vs = .slice a n c := by rw [hvs]; cases buy; exact ⟨_, _, _, rfl⟩; exact ⟨_, _, _, rfl⟩
      clear hvs j0 j1
      go_wp2_with fail
      have r7 := cell_regrown s7
      refine wp_region_quiet_below (by kernel_rfl) (by kernel_rfl) ?_
      repeat (go_big_quiet_step (fail))
      refine wpQuiet_nil ?_
      intro w6 hw'
      obtain ⟨⟨dq, osq⟩, hw''⟩ := hw'
      have kw6 : Below w4.heap.size w4 w6 := by rw [hw'']; exact below_regrown w4 dq osq
      clear hw''
      have B6 := Fk.hide (B4.out.trans (kw6.mono hw4))
      have F6 := Fk.hide (F4.out.trans (Bw.Fr.of_below kw6))
      have J6 := Fk.hide (J4.out.below kw6)
      have t0 := (kw6.cell (p := ⟨w.heap.size, 0, none⟩) (by exact kC4.out.lt)).trans s0
      have t1 := (kw6.cell (p := ⟨w.heap.size, 1, none⟩) (by exact kC4.out.lt)).trans s1
      have t3 := (kw6.cell (p := ⟨w.heap.size, 3, none⟩) (by exact kC4.out.lt)).trans s3
      have t4 := (kw6.cell (p := ⟨w.heap.size, 4, none⟩) (by exact kC4.out.lt)).trans s4
      have t5 := (kw6.cell (p := ⟨w.heap.size, 5, none⟩) (by exact kC4.out.lt)).trans s5
      have t6 := (kw6.cell (p := ⟨w.heap.size, 6, none⟩) (by exact kC4.out.lt)).trans s6
      have t7 := (kw6.cell (p := ⟨w.heap.size, 7, none⟩) (by exact kC4.out.lt)).trans s7
      have t8 := (kw6.cell (p := ⟨w.heap.size, 8, none⟩) (by exact kC4.out.lt)).trans s8
      have t9 := (kw6.cell (p := ⟨w.heap.size, 9, none⟩) (by exact kC4.out.lt)).trans s9
      have kC6 : Hid (Wq.Kind w6 w.heap.size 27) := kC4.out.of_block (kw6.block _ kC4.out.lt)
      have hw6 : base ≤ w6.heap.size := Nat.le_trans hw B6.out.size
      have j2 : w6.cell? ⟨b, 2, none⟩ = some (.int .i64 n) := J6.out.c2.trans (by rw [HNN.out])
      have jf := J6.out.fr 2
      clear kw6 r7 s0 s1 s3 s4 s5 s6 s7 s8 s9 B4 F4 J4 kC4
      have hc6 : w.heap.size < w6.heap.size := kC6.out.lt
      have hb6 : b < w6.heap.size := J6.out.kind.lt
      go_wp2_with fail
      go_region_held3 (fun w' => w'.cell? ⟨b, 2, none⟩ = some (.int .i64 n) ∧ w'.cell? ⟨w.heap.size, 1, none⟩ = some (.int .i64 owner) ∧ w'.cell? ⟨w.heap.size, 4, none⟩ = some (.int .i64 price) ∧ w'.cell? ⟨w.heap.size, 6, none⟩ = some (.int .i64 0) ∧ w'.cell? ⟨w.heap.size, 8, none⟩ = some (.int .i64 peak) ∧ w'.cell? ⟨w.heap.size, 9, none⟩ = some (.bool guard))
        (first | go_keep | (go_split_ands; exact ⟨by assumption, by assumption, by assumption, by assumption, by assumption, by assumption⟩))
        (fail)
      all_goals
        obtain ⟨W7, hW7⟩ : ∃ W, W = (w6.alloc (.cells #[.int .i64 n, .int .i64 owner, .int .i64 price, .int .i64 0, .bool false, .int .i64 peak, .int .i64 0, .bool guard] 40)).drew := ⟨_, rfl⟩
        have b7 : Below w6.heap.size w6 W7 := by rw [hW7]; exact Below.drew ((Below.refl _ _).alloc (Nat.le_refl _) _)
        have kO7 : Hid (Wq.Kind W7 w6.heap.size 40) := by show Wq.Kind _ _ _; rw [hW7]; exact ⟨_, _, heap_alloc_new w6 _⟩
        have p0 : W7.cell? ⟨w6.heap.size, 0, none⟩ = some (.int .i64 n) := by rw [hW7]; exact Fk.cellTop w6 _ _ _ _ rfl
        have p1 : W7.cell? ⟨w6.heap.size, 1, none⟩ = some (.int .i64 owner) := by rw [hW7]; exact Fk.cellTop w6 _ _ _ _ rfl
        have p2 : W7.cell? ⟨w6.heap.size, 2, none⟩ = some (.int .i64 price) := by rw [hW7]; exact Fk.cellTop w6 _ _ _ _ rfl
        have p3 : W7.cell? ⟨w6.heap.size, 3, none⟩ = some (.int .i64 0) := by rw [hW7]; exact Fk.cellTop w6 _ _ _ _ rfl
        have p4 : W7.cell? ⟨w6.heap.size, 4, none⟩ = some (.bool false) := by rw [hW7]; exact Fk.cellTop w6 _ _ _ _ rfl
        have p5 : W7.cell? ⟨w6.heap.size, 5, none⟩ = some (.int .i64 peak) := by rw [hW7]; exact Fk.cellTop w6 _ _ _ _ rfl
        have p6 : W7.cell? ⟨w6.heap.size, 6, none⟩ = some (.int .i64 0) := by rw [hW7]; exact Fk.cellTop w6 _ _ _ _ rfl
        have p7 : W7.cell? ⟨w6.heap.size, 7, none⟩ = some (.bool guard) := by rw [hW7]; exact Fk.cellTop w6 _ _ _ _ rfl
        have J7 := Fk.hide (J6.out.below b7)
        have B7 := Fk.hide (B6.out.trans (b7.mono hw6))
        have F7 := Fk.hide (F6.out.trans (Bw.Fr.of_below b7))
        have kC7 : Hid (Wq.Kind W7 w.heap.size 27) := kC6.out.of_block (b7.block _ hc6)
        have e0 := (b7.cell (p := ⟨w.heap.size, 0, none⟩) (by exact hc6)).trans t0
        have e1 := (b7.cell (p := ⟨w.heap.size, 1, none⟩) (by exact hc6)).trans t1
        have e3 := (b7.cell (p := ⟨w.heap.size, 3, none⟩) (by exact hc6)).trans t3
        have e4 := (b7.cell (p := ⟨w.heap.size, 4, none⟩) (by exact hc6)).trans t4
        have e5 := (b7.cell (p := ⟨w.heap.size, 5, none⟩) (by exact hc6)).trans t5
        have e6 := (b7.cell (p := ⟨w.heap.size, 6, none⟩) (by exact hc6)).trans t6
        have e7 := (b7.cell (p := ⟨w.heap.size, 7, none⟩) (by exact hc6)).trans t7
        have e8 := (b7.cell (p := ⟨w.heap.size, 8, none⟩) (by exact hc6)).trans t8
        have e9 := (b7.cell (p := ⟨w.heap.size, 9, none⟩) (by exact hc6)).trans t9
        have g2 := (b7.cell (p := ⟨b, 2, none⟩) (by exact hb6)).trans j2
        have gf := (b7.frozen (p := ⟨b, 2, none⟩) (by exact hb6)).trans jf
        have hw7 : base ≤ W7.heap.size := Nat.le_trans hw6 b7.size
        rw [← hW7]
        clear hW7 b7 t0 t1 t3 t4 t5 t6 t7 t8 t9 j2 jf J6 B6 F6 kC6
        have hbo : Hid ((⟨b, 2, none⟩ : Addr) ≠ ⟨w6.heap.size, 0, none⟩) := fun e => by have := congrArg Addr.block e; simp at this; omega
        have l0 : (W7.setCell ⟨b, 2, none⟩ (.int .i64 (n + 1))).cell? ⟨w6.heap.size, 0, none⟩ = some (.int .i64 n) := (World.cell?_setCell_other _ _ _ _ hbo.out).trans p0
        have n1 : IntKind.i64.wrap (n + 1) = n + 1 := by rw [IntKind.wrap_i64]; omega
        clear hc6 hb6
        go_wp2_with fail
        have J8 : Hid (Bw.Is (W7.setCell ⟨b, 2, none⟩ (.int .i64 (n + 1))) base b (.slice ax X.b.length cx) (.slice ay X.a.length cy) z X.next) := by show Bw.Is _ _ _ _ _ _ _; have h := J7.out.setNext (n + 1); unfold Dm.Bk.next; rw [← HNN.out]; exact h
        have B8 : Hid (Below base w (W7.setCell ⟨b, 2, none⟩ (.int .i64 (n + 1)))) := B7.out.setCell J7.out.hb _
        have F8 : Hid (Bw.Fr w (W7.setCell ⟨b, 2, none⟩ (.int .i64 (n + 1)))) := F7.out.trans (Bw.Fr.setBook J7.out.kind)
        have F78 : Hid (Bw.Fr W7 (W7.setCell ⟨b, 2, none⟩ (.int .i64 (n + 1)))) := Bw.Fr.setBook J7.out.kind
        refine (bookTell_any base b _ _ z X.next 1 n 0 0 0 _ J8.out (Nat.le_trans hw B8.out.size) (by simp only [Dm.Bk.next]; omega)).mono ?_
        rintro e w9 ⟨rfl, ⟨z9, J9⟩, B9, F9⟩
        have J9' : Hid (Bw.Is w9 base b (.slice ax X.b.length cx) (.slice ay X.a.length cy) z9 (Dm.taken X)) := by show Bw.Is _ _ _ _ _ _ _; unfold Dm.taken; rw [← HNN.out]; exact J9
        have B9' := Fk.hide (B8.out.trans B9)
        have F9' := Fk.hide (F8.out.trans F9)
        have F79 := Fk.hide (F78.out.trans F9)
        have q0 := (F79.out.cell (j := 0) kO7.out (by decide) (by decide)).trans p0
        have q1 := (F79.out.cell (j := 1) kO7.out (by decide) (by decide)).trans p1
        have q2 := (F79.out.cell (j := 2) kO7.out (by decide) (by decide)).trans p2
        have q3 := (F79.out.cell (j := 3) kO7.out (by decide) (by decide)).trans p3
        have q4 := (F79.out.cell (j := 4) kO7.out (by decide) (by decide)).trans p4
        have q5 := (F79.out.cell (j := 5) kO7.out (by decide) (by decide)).trans p5
        have q6 := (F79.out.cell (j := 6) kO7.out (by decide) (by decide)).trans p6
        have q7 := (F79.out.cell (j := 7) kO7.out (by decide) (by decide)).trans p7
        have v0 := (F79.out.cell (j := 0) kC7.out (by decide) (by decide)).trans e0
        have v1 := (F79.out.cell (j := 1) kC7.out (by decide) (by decide)).trans e1
        have v3 := (F79.out.cell (j := 3) kC7.out (by decide) (by decide)).trans e3
        have v4 := (F79.out.cell (j := 4) kC7.out (by decide) (by decide)).trans e4
        have v5 := (F79.out.cell (j := 5) kC7.out (by decide) (by decide)).trans e5
        have v6 := (F79.out.cell (j := 6) kC7.out (by decide) (by decide)).trans e6
        have v7 := (F79.out.cell (j := 7) kC7.out (by decide) (by decide)).trans e7
        have v8 := (F79.out.cell (j := 8) kC7.out (by decide) (by decide)).trans e8
        have v9 := (F79.out.cell (j := 9) kC7.out (by decide) (by decide)).trans e9
        have kO9 : Hid (Wq.Kind w9 w6.heap.size 40) := by
          obtain ⟨cs, fr, hq⟩ := kO7.out
          exact ⟨cs, fr, (F79.out _ _ _ _ hq (by decide) (by decide)).trans hq⟩
        have kC9 : Hid (Wq.Kind w9 w.heap.size 27) := by
          obtain ⟨cs, fr, hq⟩ := kC7.out
          exact ⟨cs, fr, (F79.out _ _ _ _ hq (by decide) (by decide)).trans hq⟩
        have hw9 : base ≤ w9.heap.size := Nat.le_trans hw B9'.out.size
        clear p0 p1 p2 p3 p4 p5 p6 p7 e0 e1 e3 e4 e5 e6 e7 e8 e9 g2 gf l0 J9 B9 F9 J8 B8 F8 F78 J7 B7 F7 F79 kO7 kC7 n1
        have HFT : Hid (∀ o ∈ (Dm.taken X).side (!buy), Dm.Fine o) := by show ∀ o ∈ _, _; rw [Dm.side_taken]; exact HFN.out _
        have HL1 : Hid (((Dm.taken X).side (!buy)).length ≤ 100000) := by show _ ≤ _; rw [Dm.side_taken]; have := HLN.out (!buy); omega
        have HL2 : Hid (((Dm.taken X).side buy).length ≤ 100000) := by show _ ≤ _; rw [Dm.side_taken]; have := HLN.out buy; omega
        have HLE : Hid ((Dm.taken X).ev.length ≤ 100000) := by show _ ≤ _; rw [Dm.ev_taken]; omega
        have HE : Hid (Dm.order (⟨2, owner, id, buy, price, amount, 0, false, peak, guard⟩ : Cm.C) X = (0, Dm.come (n, owner, price, 0, false, peak, 0, guard) buy price amount false (Dm.taken X))) := by show _ = _; rw [Dm.order_rest hq rfl (by show (0 : Int) ≠ 3; decide), HNN.out]; rfl
        go_wp2_with fail
        refine (bookCome_any base b _ _ z9 (Dm.taken X) n owner price 0 false peak 0 guard buy price amount false w9 J9'.out (Nat.le_trans hw B9'.out.size) ha.1 ha.2 (by omega) HFT.out HL1.out HL2.out HLE.out).mono ?_
        rintro e w10 ⟨rfl, ⟨x10, y10, z10, J10⟩, B10, F10⟩
        have J10' := Fk.hide J10
        have B10' := Fk.hide (B9'.out.trans B10)
        have F10' := Fk.hide (F9'.out.trans F10)
        clear J10 B10 F10
        go_wp2_with fail
        refine bodyPost_ret (v := .int .i64 0) (by simp [results, Try.results88, go_sem]) rfl ⟨by rw [HE.out], ⟨_, _, _, by rw [HE.out]; exact J10'.out⟩, B10'.out, F10'.out⟩
end Go.Proofs.Ytfagldipjpaceaa
