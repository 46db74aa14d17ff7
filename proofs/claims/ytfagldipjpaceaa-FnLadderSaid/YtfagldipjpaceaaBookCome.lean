/- The walk of the specification's come: an order meets, and rests, if it may. -/
import Derived.Test.YtfagldipjpaceaaBookMeet
import Derived.Test.YtfagldipjpaceaaJoined3
namespace Go.Proofs.Ytfagldipjpaceaa
open Go.RowKit
set_option linter.unusedVariables false
set_option linter.unusedSimpArgs false
/-- a list in new memory is apart from the sides -/
theorem Bw.apart {w5 : World} {q : Nat} {x y u : Value} {e : TypeId} {N : List Or.E} (c : Bool) (hx : ∀ k, x.ownBlock = some k → k < q) (hy : ∀ k, y.ownBlock = some k → k < q) (ho : Rk.Own Or.S w5 q e u N) : ∀ k, u.ownBlock = some k → (Ob.pick c y x).ownBlock ≠ some k := fun k hk e => by
  have h1 := (ho.lt k hk).1
  have h3 := Bw.pick_lt c hx hy k e
  omega
set_option maxRecDepth 100000 in
set_option maxHeartbeats 8000000 in
theorem bookCome_any (base b : Nat) (x0 y0 z0 : Value) (X : Dm.Bk) (i ow p0 a : Int) (d : Bool) (pk h : Int) (g buy : Bool) (p left : Int) (rests : Bool) (w : World) (hI : Bw.Is w base b x0 y0 z0 X) (hw : base ≤ w.heap.size) (hl0 : 0 ≤ left) (hl1 : left ≤ 100000) (hpk : 0 ≤ pk ∧ pk ≤ 1000000000) (hF : ∀ x ∈ X.side (!buy), Dm.Fine x) (hn : (X.side (!buy)).length ≤ 100000) (hn' : (X.side buy).length ≤ 100000) (he : X.ev.length ≤ 100000) :
    Calls Try.prog 101 #[.pointer (some ⟨b, 0, none⟩), .agg #[.int .i64 i, .int .i64 ow, .int .i64 p0, .int .i64 a, .bool d, .int .i64 pk, .int .i64 h, .bool g], .bool buy, .int .i64 p, .int .i64 left, .bool rests] w fun e w' => e = .returned (.tuple #[]) ∧ (∃ x y z, Bw.Is w' base b x y z (Dm.come (i, ow, p0, a, d, pk, h, g) buy p left rests X)) ∧ Below base w w' ∧ Bw.Fr w w' := by
  obtain ⟨R, hR⟩ : ∃ R, R = Dm.meetB (i, ow, p0, a, d, pk, h, g) buy p left.toNat left X := ⟨_, rfl⟩
  have HC : Hid (Dm.come (i, ow, p0, a, d, pk, h, g) buy p left rests X = (if R.1 = 0 then R.2.2 else if R.2.1 || !rests then R.2.2.tell (3, i, 0, 0, R.1) else R.2.2.put buy (Dm.inn buy (Dm.shown (i, ow, p0, a, d, pk, h, g) R.1) (R.2.2.side buy)))) := by show _ = _; rw [hR]; rfl
  have HRS : Hid (R.2.2.side buy = X.side buy) := by show _ = _; rw [hR]; exact Dm.meetB_side _ _ _ _ _ _
  have HRE : Hid (R.2.2.ev.length ≤ X.ev.length + left.toNat) := by show _ ≤ _; rw [hR]; exact Dm.meetB_ev _ _ _ _ _ _
  have HRL : Hid (0 ≤ R.1 ∧ R.1 ≤ left) := by show _ ∧ _; rw [hR]; exact Dm.meetB_left _ _ _ _ _ _ hl0 hF
  obtain ⟨W, hW⟩ : ∃ W, W = w.alloc (.cells #[.int .i64 i, .int .i64 ow, .int .i64 p0, .int .i64 a, .bool d, .int .i64 pk, .int .i64 h, .bool g] 40) := ⟨_, rfl⟩
  have bW : Below w.heap.size w W := by rw [hW]; exact (Below.refl _ _).alloc (Nat.le_refl _) _
  have kO : Hid (Wq.Kind W w.heap.size 40) := by show Wq.Kind _ _ _; rw [hW]; exact ⟨_, _, heap_alloc_new w _⟩
  have o0 : W.cell? ⟨w.heap.size, 0, none⟩ = some (.int .i64 i) := by rw [hW, Fk.cellTop _ _ _ _ _ rfl]; rfl
  have o1 : W.cell? ⟨w.heap.size, 1, none⟩ = some (.int .i64 ow) := by rw [hW, Fk.cellTop _ _ _ _ _ rfl]; rfl
  have o2 : W.cell? ⟨w.heap.size, 2, none⟩ = some (.int .i64 p0) := by rw [hW, Fk.cellTop _ _ _ _ _ rfl]; rfl
  have o3 : W.cell? ⟨w.heap.size, 3, none⟩ = some (.int .i64 a) := by rw [hW, Fk.cellTop _ _ _ _ _ rfl]; rfl
  have o4 : W.cell? ⟨w.heap.size, 4, none⟩ = some (.bool d) := by rw [hW, Fk.cellTop _ _ _ _ _ rfl]; rfl
  have o5 : W.cell? ⟨w.heap.size, 5, none⟩ = some (.int .i64 pk) := by rw [hW, Fk.cellTop _ _ _ _ _ rfl]; rfl
  have o6 : W.cell? ⟨w.heap.size, 6, none⟩ = some (.int .i64 h) := by rw [hW, Fk.cellTop _ _ _ _ _ rfl]; rfl
  have o7 : W.cell? ⟨w.heap.size, 7, none⟩ = some (.bool g) := by rw [hW, Fk.cellTop _ _ _ _ _ rfl]; rfl
  have HW := Fk.hide hW
  have HBW := Fk.hide (bW.mono hw)
  have HFW := Fk.hide (Bw.Fr.of_below bW)
  have HI := Fk.hide (hI.below bW)
  have HR := Fk.hide hR
  have HFN := Fk.hide hF
  have HN' := Fk.hide hn'
  clear hW bW hI hR hF hn'
  go_enter Try.func101, Try.ntmps101
  go_wp2_with fail
  rw [← HW.out]
  refine (bookMeet_any base b x0 y0 z0 X i ow p0 a d pk h g buy p left W HI.out (Nat.le_trans hw (by have := HBW.out.size; omega)) hl0 hl1 HFN.out hn he).mono ?_
  rintro e w2 ⟨rfl, ⟨x, y, z, J2⟩, B2, F2⟩
  rw [← HR.out] at J2 ⊢
  have J2' := Fk.hide J2
  have B2' := Fk.hide (HBW.out.trans B2)
  have F2' := Fk.hide (HFW.out.trans F2)
  have q0 := (F2.cell (j := 0) kO.out (by decide) (by decide)).trans o0
  have q1 := (F2.cell (j := 1) kO.out (by decide) (by decide)).trans o1
  have q2 := (F2.cell (j := 2) kO.out (by decide) (by decide)).trans o2
  have q3 := (F2.cell (j := 3) kO.out (by decide) (by decide)).trans o3
  have q4 := (F2.cell (j := 4) kO.out (by decide) (by decide)).trans o4
  have q5 := (F2.cell (j := 5) kO.out (by decide) (by decide)).trans o5
  have q6 := (F2.cell (j := 6) kO.out (by decide) (by decide)).trans o6
  have q7 := (F2.cell (j := 7) kO.out (by decide) (by decide)).trans o7
  have kO2 : Hid (Wq.Kind w2 w.heap.size 40) := by
    obtain ⟨cs, fr, hq⟩ := kO.out
    exact ⟨cs, fr, (F2 _ _ _ _ hq (by decide) (by decide)).trans hq⟩
  clear J2 B2 F2 o0 o1 o2 o3 o4 o5 o6 o7 HI HR
  obtain ⟨rl, rc, RB⟩ := R
  have HRL1 := HRL.out.1
  have HRL2 := HRL.out.2
  dsimp only at HRL1 HRL2 HRS HRE HC J2' ⊢
  have hw2 : base ≤ w2.heap.size := Nat.le_trans hw B2'.out.size
  have hev : RB.ev.length ≤ 1048576 := by have h1 : RB.ev.length ≤ X.ev.length + left.toNat := HRE.out; omega
  by_cases hz : rl = 0
  · subst hz
    have HE : Hid (Dm.come (i, ow, p0, a, d, pk, h, g) buy p left rests X = RB) := HC.out.trans (if_pos rfl)
    go_wp2_with fail
    refine bodyPost_end (v := .tuple #[]) (by simp [results, Try.results101, go_sem] <;> rfl) rfl ⟨rfl, ⟨x, y, z, by rw [HE.out]; exact J2'.out⟩, B2'.out, F2'.out⟩
  · have hz' : (rl == 0) = false := by simpa using hz
    have HC1 : Hid (Dm.come (i, ow, p0, a, d, pk, h, g) buy p left rests X = (if rc || !rests then RB.tell (3, i, 0, 0, rl) else RB.put buy (Dm.inn buy (Dm.shown (i, ow, p0, a, d, pk, h, g) rl) (RB.side buy)))) := HC.out.trans (if_neg hz)
    by_cases hcut : (rc || !rests) = true
    · have HE : Hid (Dm.come (i, ow, p0, a, d, pk, h, g) buy p left rests X = RB.tell (3, i, 0, 0, rl)) := HC1.out.trans (if_pos hcut)
      have hcut' : rc = true ∨ (rc = false ∧ rests = false) := by cases rc <;> cases rests <;> simp_all
      rcases hcut' with rfl | ⟨rfl, rfl⟩
      all_goals
        go_wp2_with fail
        refine (bookTell_any base b x y z RB 3 i 0 0 rl w2 J2'.out hw2 hev).mono ?_
        rintro e w3 ⟨rfl, ⟨z3, J3⟩, B3, F3⟩
        have J3' := Fk.hide J3
        have B3' := Fk.hide (B2'.out.trans B3)
        have F3' := Fk.hide (F2'.out.trans F3)
        clear J3 B3 F3
        go_wp2_with fail
        refine bodyPost_end (v := .tuple #[]) (by simp [results, Try.results101, go_sem] <;> rfl) rfl ⟨rfl, ⟨x, y, z3, by rw [HE.out]; exact J3'.out⟩, B3'.out, F3'.out⟩
    · have hr : rc = false ∧ rests = true := by cases rc <;> cases rests <;> simp_all
      obtain ⟨rfl, rfl⟩ := hr
      have HE : Hid (Dm.come (i, ow, p0, a, d, pk, h, g) buy p left true X = RB.put buy (Dm.inn buy (Dm.shown (i, ow, p0, a, d, pk, h, g) rl) (RB.side buy))) := HC1.out
      have HSX : Hid (∃ a n c, x = .slice a n c) := J2'.out.two.b.slice'
      have HSY : Hid (∃ a n c, y = .slice a n c) := J2'.out.two.a.slice'
      have HV : Hid (Rk.Own Or.S w2 base 40 (Ob.pick buy x y) (RB.side buy)) := by cases buy; exact J2'.out.two.a; exact J2'.out.two.b
      obtain ⟨av, nv, cv, hv⟩ := HV.out.slice'
      have FS : Hid (∀ w', Below w2.heap.size w2 w' → Calls Try.prog 46 #[.pointer (some ⟨b, 0, none⟩), .bool buy] w' fun e w'' => e = .returned (.slice av nv cv) ∧ w'' = w') := fun w' hb => by rw [← hv]; exact side_any b x y buy w' (J2'.out.below hb).c0 (J2'.out.below hb).c1 HSX.out HSY.out
      rw [hv] at HV
      clear hv
      obtain ⟨so, hso⟩ : ∃ o, o = Dm.shown (i, ow, p0, a, d, pk, h, g) rl := ⟨_, rfl⟩
      have HSO := Fk.hide hso
      have FSH : Hid (∀ w', Calls Try.prog 104 #[.agg #[.int .i64 i, .int .i64 ow, .int .i64 p0, .int .i64 a, .bool d, .int .i64 pk, .int .i64 h, .bool g], .int .i64 rl] w' fun e w'' => e = .returned (Or.vl so) ∧ Below w'.heap.size w' w'') := fun w' => by rw [hso]; exact l06Show_any i ow p0 a d pk h g rl (by omega) hpk w'
      clear hso
      obtain ⟨s0, s1, s2, s3, s4, s5, s6, s7⟩ := so
      dsimp only [Or.vl] at FSH
      have HLN : Hid ((RB.side buy).length ≤ 1048576) := by show _ ≤ _; have h1 : RB.side buy = X.side buy := HRS.out; rw [h1]; have := HN'.out; omega
      have FIN : Hid (∀ w', Below w2.heap.size w2 w' → Calls Try.prog 107 #[.slice av nv cv, .agg #[.int .i64 s0, .int .i64 s1, .int .i64 s2, .int .i64 s3, .bool s4, .int .i64 s5, .int .i64 s6, .bool s7], .bool buy] w' fun e w'' => (∃ u, e = .returned u ∧ Rk.Own Or.S w'' w'.heap.size 40 u (Dm.inn buy (s0, s1, s2, s3, s4, s5, s6, s7) (RB.side buy))) ∧ Below w'.heap.size w' w'') := fun w' hb => l06In_any _ (RB.side buy) s0 s1 s2 s3 s4 s5 s6 s7 buy base w' (HV.out.below hb) HLN.out
      have HD : Hid (Below w2.heap.size w2 w2.drew) := Below.drew (Below.refl _ _)
      have HLX : Hid (∀ k, x.ownBlock = some k → k < w2.heap.size) := fun k hk => (J2'.out.two.b.lt k hk).2
      have HLY : Hid (∀ k, y.ownBlock = some k → k < w2.heap.size) := fun k hk => (J2'.out.two.a.lt k hk).2
      obtain ⟨ax, nx, cx, rfl⟩ := HSX.out
      obtain ⟨ay, ny, cy, rfl⟩ := HSY.out
      go_wp2_with fail
      go_region_held3 (fun w' => w'.cell? ⟨w.heap.size, 0, none⟩ = some (.int .i64 i) ∧ w'.cell? ⟨w.heap.size, 1, none⟩ = some (.int .i64 ow) ∧ w'.cell? ⟨w.heap.size, 2, none⟩ = some (.int .i64 p0) ∧ w'.cell? ⟨w.heap.size, 3, none⟩ = some (.int .i64 a) ∧ w'.cell? ⟨w.heap.size, 4, none⟩ = some (.bool d) ∧ w'.cell? ⟨w.heap.size, 5, none⟩ = some (.int .i64 pk) ∧ w'.cell? ⟨w.heap.size, 6, none⟩ = some (.int .i64 h) ∧ w'.cell? ⟨w.heap.size, 7, none⟩ = some (.bool g))
        (first | go_keep | (go_split_ands; exact ⟨by assumption, by assumption, by assumption, by assumption, by assumption, by assumption, by assumption, by assumption⟩))
        (first
          | (have hchk := HB5.out; clear hchk; go_at_call 102; refine (bookPut_any base b _ _ z _ RB (Dm.inn buy (s0, s1, s2, s3, s4, s5, s6, s7) (RB.side buy)) buy w5 (J2'.out.below HB5.out) (Nat.le_trans hw2 HB5.out.size) (HO5.out.mono hw2) HN5.out).mono ?_; rintro e w6 ⟨rfl, J6, B6, F6⟩; have KK5 := kO2.out.of_block (HB5.out.block _ kO2.out.lt); have u6q0 := (F6.cell (j := 0) KK5 (by decide) (by decide)).trans v5q0; have u6q1 := (F6.cell (j := 1) KK5 (by decide) (by decide)).trans v5q1; have u6q2 := (F6.cell (j := 2) KK5 (by decide) (by decide)).trans v5q2; have u6q3 := (F6.cell (j := 3) KK5 (by decide) (by decide)).trans v5q3; have u6q4 := (F6.cell (j := 4) KK5 (by decide) (by decide)).trans v5q4; have u6q5 := (F6.cell (j := 5) KK5 (by decide) (by decide)).trans v5q5; have u6q6 := (F6.cell (j := 6) KK5 (by decide) (by decide)).trans v5q6; have u6q7 := (F6.cell (j := 7) KK5 (by decide) (by decide)).trans v5q7; have J6' := Fk.hide J6; have B6' := Fk.hide ((B2'.out.trans (HB5.out.mono hw2)).trans B6); have F6' := Fk.hide ((F2'.out.trans (Bw.Fr.of_below HB5.out)).trans F6); clear J6 B6 F6 KK5)
          | (have hchk := HB4.out; clear hchk; go_at_call 107; refine (FIN.out _ HB4.out).mono ?_; rintro e w5 ⟨⟨u5, rfl, o5⟩, b5⟩; have B5 : Below w2.heap.size w2 w5 := HB4.out.trans (b5.mono HB4.out.size); have v5q0 := (B5.cell (p := ⟨w.heap.size, 0, none⟩) (by exact kO2.out.lt)).trans q0; have v5q1 := (B5.cell (p := ⟨w.heap.size, 1, none⟩) (by exact kO2.out.lt)).trans q1; have v5q2 := (B5.cell (p := ⟨w.heap.size, 2, none⟩) (by exact kO2.out.lt)).trans q2; have v5q3 := (B5.cell (p := ⟨w.heap.size, 3, none⟩) (by exact kO2.out.lt)).trans q3; have v5q4 := (B5.cell (p := ⟨w.heap.size, 4, none⟩) (by exact kO2.out.lt)).trans q4; have v5q5 := (B5.cell (p := ⟨w.heap.size, 5, none⟩) (by exact kO2.out.lt)).trans q5; have v5q6 := (B5.cell (p := ⟨w.heap.size, 6, none⟩) (by exact kO2.out.lt)).trans q6; have v5q7 := (B5.cell (p := ⟨w.heap.size, 7, none⟩) (by exact kO2.out.lt)).trans q7; have HO5 := Fk.hide (o5.mono HB4.out.size); have HN5 := Fk.hide (Bw.apart buy HLX.out HLY.out HO5.out); obtain ⟨a5, n5, c5, rfl⟩ := o5.slice'; have HB5 := Fk.hide B5; clear B5 b5 o5)
          | (have hchk := HB3.out; clear hchk; go_at_call 104; refine (FSH.out _).mono ?_; rintro e w4 ⟨rfl, b4⟩; have B4 : Below w2.heap.size w2 w4 := HB3.out.trans (b4.mono HB3.out.size); have v4q0 := (B4.cell (p := ⟨w.heap.size, 0, none⟩) (by exact kO2.out.lt)).trans q0; have v4q1 := (B4.cell (p := ⟨w.heap.size, 1, none⟩) (by exact kO2.out.lt)).trans q1; have v4q2 := (B4.cell (p := ⟨w.heap.size, 2, none⟩) (by exact kO2.out.lt)).trans q2; have v4q3 := (B4.cell (p := ⟨w.heap.size, 3, none⟩) (by exact kO2.out.lt)).trans q3; have v4q4 := (B4.cell (p := ⟨w.heap.size, 4, none⟩) (by exact kO2.out.lt)).trans q4; have v4q5 := (B4.cell (p := ⟨w.heap.size, 5, none⟩) (by exact kO2.out.lt)).trans q5; have v4q6 := (B4.cell (p := ⟨w.heap.size, 6, none⟩) (by exact kO2.out.lt)).trans q6; have v4q7 := (B4.cell (p := ⟨w.heap.size, 7, none⟩) (by exact kO2.out.lt)).trans q7; have HB4 := Fk.hide B4; clear B4 b4)
          | (go_at_call 46; refine (FS.out _ HD.out).mono ?_; rintro e w3 ⟨rfl, hw3⟩; have B3 : Below w2.heap.size w2 w3 := (by rw [hw3]; exact HD.out); have v3q0 := (B3.cell (p := ⟨w.heap.size, 0, none⟩) (by exact kO2.out.lt)).trans q0; have v3q1 := (B3.cell (p := ⟨w.heap.size, 1, none⟩) (by exact kO2.out.lt)).trans q1; have v3q2 := (B3.cell (p := ⟨w.heap.size, 2, none⟩) (by exact kO2.out.lt)).trans q2; have v3q3 := (B3.cell (p := ⟨w.heap.size, 3, none⟩) (by exact kO2.out.lt)).trans q3; have v3q4 := (B3.cell (p := ⟨w.heap.size, 4, none⟩) (by exact kO2.out.lt)).trans q4; have v3q5 := (B3.cell (p := ⟨w.heap.size, 5, none⟩) (by exact kO2.out.lt)).trans q5; have v3q6 := (B3.cell (p := ⟨w.heap.size, 6, none⟩) (by exact kO2.out.lt)).trans q6; have v3q7 := (B3.cell (p := ⟨w.heap.size, 7, none⟩) (by exact kO2.out.lt)).trans q7; have HB3 := Fk.hide B3; clear B3 hw3))
      go_wp2_with fail
      refine bodyPost_end (v := .tuple #[]) (by simp [results, Try.results101, go_sem] <;> rfl) rfl ⟨rfl, ⟨_, _, z, by rw [HE.out, ← HSO.out]; exact J6'.out⟩, B6'.out, F6'.out⟩
end Go.Proofs.Ytfagldipjpaceaa
