/- The walk of the specification's roll: the end of the day. -/
import Derived.Test.YtfagldipjpaceaaJoined3
import Derived.Test.YtfagldipjpaceaaBookCome
namespace Go.Proofs.Ytfagldipjpaceaa
open Go.RowKit
set_option linter.unusedVariables false
set_option linter.unusedSimpArgs false
/-- a book stays where a list of orders that is no part of it grows -/
theorem Bw.Is.grown {w w' : World} {base b q : Nat} {x y z : Value} {X : Dm.Bk} {row : Option Nat} (h : Bw.Is w base b x y z X) (hg : w.grownBy w' row) (hrow : ∀ k, row = some k → Wq.Kind w k 40 ∧ q ≤ k) (hx : ∀ k, x.ownBlock = some k → k < q) (hy : ∀ k, y.ownBlock = some k → k < q) : Bw.Is w' base b x y z X := by
  have hb : some b ≠ row := fun e => by
    obtain ⟨⟨cs, fr, hc⟩, _⟩ := hrow b e.symm
    exact h.kind.ne hc (by decide) rfl
  have he : w'.heap[b]? = w.heap[b]? := hg.block b h.kind.lt hb
  refine ⟨⟨h.two.b.kept hg (fun k hk e => by have := (hrow k e.symm).2; have := hx k hk; omega), h.two.a.kept hg (fun k hk e => by have := (hrow k e.symm).2; have := hy k hk; omega), h.two.ne⟩, h.evs.kept hg (fun k hk e => (hrow k e.symm).1.off h.evs (by decide) hk), h.hb, h.kind.of_block he, ?_, ?_, ?_, ?_, fun j => (World.frozen?_of_block (a := ⟨b, j, none⟩) he).trans (h.fr j)⟩
  · exact (World.cell?_of_block (a := ⟨b, 0, none⟩) he).trans h.c0
  · exact (World.cell?_of_block (a := ⟨b, 1, none⟩) he).trans h.c1
  · exact (World.cell?_of_block (a := ⟨b, 2, none⟩) he).trans h.c2
  · exact (World.cell?_of_block (a := ⟨b, 3, none⟩) he).trans h.c3
theorem Bw.kind_own {α : Type} {S : Rk.Shape α} {w : World} {base q : Nat} {e : TypeId} {v : Value} {L : List α} (h : Rk.Own S w base e v L) (hq : v.ownBlock = some q) : Wq.Kind w q e := by
  obtain ⟨_, hn | ⟨g, cap, cur, hv, _, hg, _⟩⟩ := h
  · rw [hn.1] at hq; cases hq
  · have : g = q := by rw [hv] at hq; simpa [Value.ownBlock] using hq
    subst this
    exact ⟨_, _, hg⟩
/-- blocks that were there before a new list stay while it grows -/
theorem Bw.Fr.grown {wo wr w6 w7 : World} {row : Option Nat} (h : Bw.Fr wo wr) (hB : Below wr.heap.size wr w6) (hg : w6.grownBy w7 row) (hrow : ∀ q, row = some q → wo.heap.size ≤ q) : Bw.Fr wo w7 := fun q cs T fr hq h1 h2 => by
  have hlt := (Array.getElem?_eq_some_iff.1 hq).1
  have e1 := h q cs T fr hq h1 h2
  have hl1 := (Array.getElem?_eq_some_iff.1 (e1.trans hq)).1
  have e2 := hB.block q hl1
  exact (hg.block q (Nat.lt_of_lt_of_le hl1 hB.size) (fun e => by have := hrow q e.symm; omega)).trans (e2.trans e1)
set_option maxRecDepth 100000 in
set_option maxHeartbeats 8000000 in
theorem bookRoll_any (base b : Nat) (x y z : Value) (X : Dm.Bk) (w : World) (hI : Bw.Is w base b x y z X) (hw : base ≤ w.heap.size) (hF : ∀ c, ∀ o ∈ X.side c, Dm.Fine o) (hn : ∀ c, (X.side c).length ≤ 1000) (he : X.ev.length ≤ 1000) :
    Calls Try.prog 90 #[.pointer (some ⟨b, 0, none⟩)] w fun e w' => e = .returned (.tuple #[]) ∧ (∃ x y z, Bw.Is w' base b x y z (Dm.roll X)) ∧ Below base w w' ∧ Bw.Fr w w' := by
  obtain ⟨i0, hi, hz0, hz1, hz2⟩ := info_parts infoOrdS
  have HI := Fk.hide hI
  have HFN := Fk.hide hF
  have HLN := Fk.hide hn
  clear hI hF hn
  go_enter Try.func90, Try.ntmps90
  go_wp2_with fail
  go_loopw [2] (fun s wr => ∃ (k : Nat) (x y z : Value) (Y : Dm.Bk), k ≤ 2 ∧ s = .int .i64 k ∧ Y.ev.length ≤ 1000 + 1000 * k ∧ Hid (Bw.Is wr base b x y z Y) ∧ Hid ((k = 0 ∧ Y = X) ∨ (k = 1 ∧ Y = Dm.roll1 true X) ∨ (k = 2 ∧ Y = Dm.roll X)) ∧ Hid (Below base w wr) ∧ Hid (Bw.Fr w wr)) (fun s _ => 2 - (intOf s).toNat)
  case atStart => exact ⟨0, x, y, z, X, by omega, rfl, by omega, HI.out, .inl ⟨rfl, rfl⟩, Below.refl _ _, Bw.Fr.refl _⟩
  case round =>
    obtain ⟨k, x, y, z, Y, hk, rfl, hev, HJ, HY, HB, HFr⟩ := hrel
    rcases HY.out with ⟨rfl, hY⟩ | ⟨rfl, hY⟩ | ⟨rfl, hY⟩
    · have HYS : Hid (Y.side true = X.side true) := by show _ = _; rw [hY]
      have HYE := Fk.hide hY
      clear hY
      obtain ⟨wo, hwo⟩ : ∃ x, x = wr := ⟨_, rfl⟩
      subst hwo
      obtain ⟨S, hS⟩ : ∃ S, S = Y.side true := ⟨_, rfl⟩
      have HSE := Fk.hide hS
      have hsl : S.length ≤ 1000 := by rw [hS, HYS.out]; exact HLN.out true
      have HSF : Hid (∀ o ∈ S, Dm.Fine o) := by show ∀ o ∈ _, _; rw [hS, HYS.out]; exact HFN.out true
      clear hS
      have HSX : Hid (∃ a n c, x = .slice a n c) := HJ.out.two.b.slice'
      have HSY : Hid (∃ a n c, y = .slice a n c) := HJ.out.two.a.slice'
      have j0 := HJ.out.c0
      have j1 := HJ.out.c1
      have hww : base ≤ wo.heap.size := Nat.le_trans hw HB.out.size
      have HLX : Hid (∀ k, x.ownBlock = some k → k < wo.heap.size) := fun k hk => (HJ.out.two.b.lt k hk).2
      have HLY : Hid (∀ k, y.ownBlock = some k → k < wo.heap.size) := fun k hk => (HJ.out.two.a.lt k hk).2
      go_wp2_with fail
      refine (side_any b x y true wo j0 j1 HSX.out HSY.out).mono ?_
      rintro e w5 ⟨rfl, hw5⟩
      obtain rfl := hw5.symm
      have hpk : Ob.pick true x y = x := rfl
      rw [hpk]
      clear hpk j0 j1
      have HV : Hid (Rk.Own Or.S wo base 40 x S) := by show Rk.Own _ _ _ _ _ _; rw [HSE.out]; exact HJ.out.two.b
      have bE : Below wo.heap.size wo (wo.alloc (.cells #[] 40)) := (Below.refl _ _).alloc (Nat.le_refl _) _
      have HJE := Fk.hide (HJ.out.below bE)
      have HBE := Fk.hide bE
      clear bE
      obtain ⟨av, cv, hv⟩ := HV.out.slice
      have HVV := Fk.hide hv
      rw [hv]
      clear hv
      go_wp2_with fail
      go_loopw [5, 6] (fun rest i wi => ∃ (j : Nat) (ur : Option Addr) (un uc : Nat) (zz : Value), j ≤ S.length ∧ i = .int .i64 j ∧ rest = .slice ur un uc ∧ Hid (Rk.Own Or.S wi wo.heap.size 40 (.slice ur un uc) (Dm.kept S j)) ∧ Hid (Bw.Is wi base b x y zz (Y.told (Dm.cuts S j))) ∧ Hid (Below base wo wi) ∧ Hid (Bw.Fr wo wi)) (fun _ i _ => S.length - (intOf i).toNat)
      case atStart => exact ⟨0, _, _, _, z, Nat.zero_le _, rfl, rfl, Rk.own_empty wo _ _ (Nat.le_refl _), (by show Bw.Is _ _ _ _ _ _ _; rw [Dm.cuts, Dm.told_nil]; exact HJE.out), HBE.out.mono hww, Bw.Fr.of_below HBE.out⟩
      case round =>
        obtain ⟨j, ur, un, uc, zz, hj, rfl, rfl, HR, HI2, HB2, HF2⟩ := hrel
        by_cases hlt : j < S.length
        · have HVI0 : Rk.Own Or.S wr base 40 x S := by show Rk.Own _ _ _ _ _ _; rw [HSE.out]; exact HI2.out.two.b
          rw [HVV.out] at HVI0
          rcases HVI0.form with ⟨_, hn0⟩ | ⟨g0, c0, hv0, _, hg0⟩
          · rw [hn0] at hlt; exact absurd hlt (by simp)
          simp only [Value.slice.injEq, true_and] at hv0
          obtain ⟨rfl, rfl⟩ := hv0
          have HVI := Fk.hide HVI0
          have x0 := Or.o0 HVI0 hlt
          have x1 := Or.o1 HVI0 hlt
          have x2 := Or.o2 HVI0 hlt
          have x3 := Or.o3 HVI0 hlt
          have x4 := Or.o4 HVI0 hlt
          have x5 := Or.o5 HVI0 hlt
          have x6 := Or.o6 HVI0 hlt
          have x7 := Or.o7 HVI0 hlt
          have hfine := HSF.out _ (Rk.at_mem (S := Or.S) S j hlt)
          have hkp : Dm.kept S (j + 1) = (if (Rk.at_ Or.S S j).2.2.2.2.1 then Dm.kept S j else Dm.kept S j ++ [Rk.at_ Or.S S j]) := rfl
          have hct : Dm.cuts S (j + 1) = (if (Rk.at_ Or.S S j).2.2.2.2.1 then Dm.cuts S j ++ [Dm.cutOf (Rk.at_ Or.S S j)] else Dm.cuts S j) := rfl
          obtain ⟨f, hf⟩ : ∃ f, f = Rk.at_ Or.S S j := ⟨_, rfl⟩
          have HF0 := Fk.hide hf
          rw [← hf] at x0 x1 x2 x3 x4 x5 x6 x7 hfine hkp hct
          clear hf HVI0
          obtain ⟨f0, f1, f2, f3, f4, f5, f6, f7⟩ := f
          dsimp only at x0 x1 x2 x3 x4 x5 x6 x7 hkp hct
          have g3 := hfine.1
          have g6 := hfine.2.2.1
          dsimp only at g3 g6
          have HKP := Fk.hide hkp
          have HCT := Fk.hide hct
          clear hkp hct hfine
          have k0 : (0 : Int) ≤ (j : Int) := Int.natCast_nonneg _
          have k1 : (j : Int) < (S.length : Int) := by omega
          have hwi : base ≤ wr.heap.size := Nat.le_trans hww HB2.out.size
          have hcl : (Dm.cuts S j).length ≤ 1000 := Nat.le_trans (Dm.cuts_length S j) (by omega)
          have HD : Hid (Below wr.heap.size wr wr.drew) := Below.drew (Below.refl _ _)
          cases f4 with
          | true =>
            have n1 : IntKind.i64.wrap (f3 + f6) = f3 + f6 := by rw [IntKind.wrap_i64]; omega
            go_wp2_with fail
            go_region_held3 (fun w' => w'.cell? ⟨g0, j * 8, none⟩ = some (.int .i64 f0) ∧ w'.cell? ⟨g0, j * 8 + 3, none⟩ = some (.int .i64 f3) ∧ w'.cell? ⟨g0, j * 8 + 6, none⟩ = some (.int .i64 f6))
              (first | go_keep | (go_split_ands; exact ⟨by assumption, by assumption, by assumption⟩))
              (first
                | (go_at_call 98; refine (bookTell_any base b x y zz _ 3 f0 0 0 (f3 + f6) wr.drew (HI2.out.below HD.out) (Nat.le_trans hwi HD.out.size) (by simp only [Dm.Bk.told, List.length_append]; omega)).mono ?_; rintro e w7 ⟨rfl, ⟨z7, J7⟩, B7, F7⟩; have V7 := F7.own (HVI.out.below HD.out) (by decide) (by decide); have u0 := Or.o0 V7 hlt; have u3 := Or.o3 V7 hlt; have u6 := Or.o6 V7 hlt; rw [← HF0.out] at u0 u3 u6; have HR7 := Fk.hide (F7.own (HR.out.below HD.out) (by decide) (by decide)); have J7' := Fk.hide J7; have B7' := Fk.hide (HB2.out.trans ((HD.out.mono hwi).trans B7)); have F7' := Fk.hide (HF2.out.trans ((Bw.Fr.of_below HD.out).trans F7)); clear J7 B7 F7 V7))
            go_wp2_with fail
            go_roundw
            case rel =>
              refine ⟨j + 1, ur, un, uc, z7, by omega, by go_num, rfl, ?_, ?_, B7'.out, F7'.out⟩
              · have e := HKP.out; simp only [if_true] at e; rw [e]; exact HR7.out
              · have e := HCT.out; simp only [if_true] at e; rw [e, ← Dm.told_tell]; exact J7'.out
            case measure => simp [intOf]; omega
          | false =>
            have bX : Below wr.heap.size wr (wr.alloc (.cells #[.int .i64 f0, .int .i64 f1, .int .i64 f2, .int .i64 f3, .bool false, .int .i64 f5, .int .i64 f6, .bool f7] 40)) := (Below.refl _ _).alloc (Nat.le_refl _) _
            have HBX := Fk.hide bX
            have HRX := Fk.hide (HR.out.below bX)
            have HVX := Fk.hide (Rk.view_lit1 (S := Or.S) wr 40 #[.int .i64 f0, .int .i64 f1, .int .i64 f2, .int .i64 f3, .bool false, .int .i64 f5, .int .i64 f6, .bool f7] (f0, f1, f2, f3, false, f5, f6, f7) rfl)
            have HLE : Hid ((Dm.kept S j).length + [((f0, f1, f2, f3, false, f5, f6, f7) : Or.E)].length ≤ 1000000000) := by show _ ≤ _; have := Dm.kept_length S j; simp; omega
            have HSZ : Hid (wo.heap.size ≤ (wr.alloc (.cells #[.int .i64 f0, .int .i64 f1, .int .i64 f2, .int .i64 f3, .bool false, .int .i64 f5, .int .i64 f6, .bool f7] 40)).heap.size) := Nat.le_trans HB2.out.size bX.size
            have HKD : Hid (∀ q, (Value.slice ur un uc).ownBlock = some q → Wq.Kind (wr.alloc (.cells #[.int .i64 f0, .int .i64 f1, .int .i64 f2, .int .i64 f3, .bool false, .int .i64 f5, .int .i64 f6, .bool f7] 40)) q 40 ∧ wo.heap.size ≤ q) := fun q hq => ⟨Bw.kind_own HRX.out hq, (HR.out.lt q hq).1⟩
            have l0 := (bX.cell (p := ⟨g0, j * 8, none⟩) (by exact hg0)).trans x0
            have l1 := (bX.cell (p := ⟨g0, j * 8 + 1, none⟩) (by exact hg0)).trans x1
            have l2 := (bX.cell (p := ⟨g0, j * 8 + 2, none⟩) (by exact hg0)).trans x2
            have l3 := (bX.cell (p := ⟨g0, j * 8 + 3, none⟩) (by exact hg0)).trans x3
            have l4 := (bX.cell (p := ⟨g0, j * 8 + 4, none⟩) (by exact hg0)).trans x4
            have l5 := (bX.cell (p := ⟨g0, j * 8 + 5, none⟩) (by exact hg0)).trans x5
            have l6 := (bX.cell (p := ⟨g0, j * 8 + 6, none⟩) (by exact hg0)).trans x6
            have l7 := (bX.cell (p := ⟨g0, j * 8 + 7, none⟩) (by exact hg0)).trans x7
            clear bX
            go_wp2_with (at_builtin; refine Rk.wpList_append_view _ rfl _ _ 23 rfl wo.heap.size 40 i0 _ 8 64 rfl Try.underlying23 hi hz0 hz1 hz2 rfl (by decide) (.slice ur un uc) (.slice (some ⟨wr.heap.size, 0, none⟩) 1 1) (Dm.kept S j) [(f0, f1, f2, f3, false, f5, f6, f7)] rfl rfl HRX.out HVX.out (Rk.shut_some _ _ _) HLE.out HSZ.out ?_; intro u7 w7 o7 g7; have HB7 : Hid (Below base wo w7) := (HB2.out.trans (HBX.out.mono hwi)).grown g7 (Nat.le_trans hwi HBX.out.size) (fun q hq => Nat.le_trans hww (HKD.out q hq).2); have HJ7 := Fk.hide ((HI2.out.below (HBX.out)).grown g7 (q := wo.heap.size) HKD.out HLX.out HLY.out); have HF7 : Hid (Bw.Fr wo w7) := Bw.Fr.grown HF2.out (HBX.out) g7 (fun q hq => (HKD.out q hq).2); have HO7 := Fk.hide o7; obtain ⟨a7, n7, c7, rfl⟩ := o7.slice'; clear o7 g7)
            go_wp2_with fail
            go_roundw
            case rel =>
              refine ⟨j + 1, _, _, _, zz, by omega, by go_num, rfl, ?_, ?_, HB7.out, HF7.out⟩
              · have e := HKP.out; simp only [Bool.false_eq_true, if_false] at e; rw [e]; exact HO7.out
              · have e := HCT.out; simp only [Bool.false_eq_true, if_false] at e; rw [e]; exact HJ7.out
            case measure => simp [intOf]; omega
        · have e : j = S.length := by omega
          subst e
          have hcl : (Dm.cuts S S.length).length ≤ 1000 := Nat.le_trans (Dm.cuts_length S _) (by omega)
          go_wp2_with fail
          refine (bookPut_any base b x y zz _ (Y.told (Dm.cuts S S.length)) (Dm.kept S S.length) true wr HI2.out (Nat.le_trans hww HB2.out.size) (HR.out.mono hww) (Bw.apart true HLX.out HLY.out HR.out)).mono ?_
          rintro e w8 ⟨rfl, J8, B8, F8⟩
          have J8' := Fk.hide J8
          have B8' := Fk.hide (HB.out.trans (HB2.out.trans B8))
          have F8' := Fk.hide (HFr.out.trans (HF2.out.trans F8))
          clear J8 B8 F8
          have HZ : Hid ((Y.told (Dm.cuts S S.length)).put true (Dm.kept S S.length) = Dm.roll1 true Y) := by show _ = _; unfold Dm.roll1; rw [← HSE.out]
          go_wp2_with fail
          go_roundw
          case rel =>
            exact ⟨1, _, _, zz, (Y.told (Dm.cuts S S.length)).put true (Dm.kept S S.length), by omega, by go_num, by rw [Dm.ev_put]; simp only [Dm.Bk.told, List.length_append]; omega, J8'.out, .inr (.inl ⟨rfl, by rw [HZ.out, HYE.out]⟩), B8'.out, F8'.out⟩
          case measure => simp [intOf]
    · have HYS : Hid (Y.side false = X.side false) := by show _ = _; rw [hY]; rfl
      have HYE := Fk.hide hY
      clear hY
      obtain ⟨wo, hwo⟩ : ∃ x, x = wr := ⟨_, rfl⟩
      subst hwo
      obtain ⟨S, hS⟩ : ∃ S, S = Y.side false := ⟨_, rfl⟩
      have HSE := Fk.hide hS
      have hsl : S.length ≤ 1000 := by rw [hS, HYS.out]; exact HLN.out false
      have HSF : Hid (∀ o ∈ S, Dm.Fine o) := by show ∀ o ∈ _, _; rw [hS, HYS.out]; exact HFN.out false
      clear hS
      have HSX : Hid (∃ a n c, x = .slice a n c) := HJ.out.two.b.slice'
      have HSY : Hid (∃ a n c, y = .slice a n c) := HJ.out.two.a.slice'
      have j0 := HJ.out.c0
      have j1 := HJ.out.c1
      have hww : base ≤ wo.heap.size := Nat.le_trans hw HB.out.size
      have HLX : Hid (∀ k, x.ownBlock = some k → k < wo.heap.size) := fun k hk => (HJ.out.two.b.lt k hk).2
      have HLY : Hid (∀ k, y.ownBlock = some k → k < wo.heap.size) := fun k hk => (HJ.out.two.a.lt k hk).2
      go_wp2_with fail
      refine (side_any b x y false wo j0 j1 HSX.out HSY.out).mono ?_
      rintro e w5 ⟨rfl, hw5⟩
      obtain rfl := hw5.symm
      have hpk : Ob.pick false x y = y := rfl
      rw [hpk]
      clear hpk j0 j1
      have HV : Hid (Rk.Own Or.S wo base 40 y S) := by show Rk.Own _ _ _ _ _ _; rw [HSE.out]; exact HJ.out.two.a
      have bE : Below wo.heap.size wo (wo.alloc (.cells #[] 40)) := (Below.refl _ _).alloc (Nat.le_refl _) _
      have HJE := Fk.hide (HJ.out.below bE)
      have HBE := Fk.hide bE
      clear bE
      obtain ⟨av, cv, hv⟩ := HV.out.slice
      have HVV := Fk.hide hv
      rw [hv]
      clear hv
      go_wp2_with fail
      go_loopw [5, 6] (fun rest i wi => ∃ (j : Nat) (ur : Option Addr) (un uc : Nat) (zz : Value), j ≤ S.length ∧ i = .int .i64 j ∧ rest = .slice ur un uc ∧ Hid (Rk.Own Or.S wi wo.heap.size 40 (.slice ur un uc) (Dm.kept S j)) ∧ Hid (Bw.Is wi base b x y zz (Y.told (Dm.cuts S j))) ∧ Hid (Below base wo wi) ∧ Hid (Bw.Fr wo wi)) (fun _ i _ => S.length - (intOf i).toNat)
      case atStart => exact ⟨0, _, _, _, z, Nat.zero_le _, rfl, rfl, Rk.own_empty wo _ _ (Nat.le_refl _), (by show Bw.Is _ _ _ _ _ _ _; rw [Dm.cuts, Dm.told_nil]; exact HJE.out), HBE.out.mono hww, Bw.Fr.of_below HBE.out⟩
      case round =>
        obtain ⟨j, ur, un, uc, zz, hj, rfl, rfl, HR, HI2, HB2, HF2⟩ := hrel
        by_cases hlt : j < S.length
        · have HVI0 : Rk.Own Or.S wr base 40 y S := by show Rk.Own _ _ _ _ _ _; rw [HSE.out]; exact HI2.out.two.a
          rw [HVV.out] at HVI0
          rcases HVI0.form with ⟨_, hn0⟩ | ⟨g0, c0, hv0, _, hg0⟩
          · rw [hn0] at hlt; exact absurd hlt (by simp)
          simp only [Value.slice.injEq, true_and] at hv0
          obtain ⟨rfl, rfl⟩ := hv0
          have HVI := Fk.hide HVI0
          have x0 := Or.o0 HVI0 hlt
          have x1 := Or.o1 HVI0 hlt
          have x2 := Or.o2 HVI0 hlt
          have x3 := Or.o3 HVI0 hlt
          have x4 := Or.o4 HVI0 hlt
          have x5 := Or.o5 HVI0 hlt
          have x6 := Or.o6 HVI0 hlt
          have x7 := Or.o7 HVI0 hlt
          have hfine := HSF.out _ (Rk.at_mem (S := Or.S) S j hlt)
          have hkp : Dm.kept S (j + 1) = (if (Rk.at_ Or.S S j).2.2.2.2.1 then Dm.kept S j else Dm.kept S j ++ [Rk.at_ Or.S S j]) := rfl
          have hct : Dm.cuts S (j + 1) = (if (Rk.at_ Or.S S j).2.2.2.2.1 then Dm.cuts S j ++ [Dm.cutOf (Rk.at_ Or.S S j)] else Dm.cuts S j) := rfl
          obtain ⟨f, hf⟩ : ∃ f, f = Rk.at_ Or.S S j := ⟨_, rfl⟩
          have HF0 := Fk.hide hf
          rw [← hf] at x0 x1 x2 x3 x4 x5 x6 x7 hfine hkp hct
          clear hf HVI0
          obtain ⟨f0, f1, f2, f3, f4, f5, f6, f7⟩ := f
          dsimp only at x0 x1 x2 x3 x4 x5 x6 x7 hkp hct
          have g3 := hfine.1
          have g6 := hfine.2.2.1
          dsimp only at g3 g6
          have HKP := Fk.hide hkp
          have HCT := Fk.hide hct
          clear hkp hct hfine
          have k0 : (0 : Int) ≤ (j : Int) := Int.natCast_nonneg _
          have k1 : (j : Int) < (S.length : Int) := by omega
          have hwi : base ≤ wr.heap.size := Nat.le_trans hww HB2.out.size
          have hcl : (Dm.cuts S j).length ≤ 1000 := Nat.le_trans (Dm.cuts_length S j) (by omega)
          have HD : Hid (Below wr.heap.size wr wr.drew) := Below.drew (Below.refl _ _)
          cases f4 with
          | true =>
            have n1 : IntKind.i64.wrap (f3 + f6) = f3 + f6 := by rw [IntKind.wrap_i64]; omega
            go_wp2_with fail
            go_region_held3 (fun w' => w'.cell? ⟨g0, j * 8, none⟩ = some (.int .i64 f0) ∧ w'.cell? ⟨g0, j * 8 + 3, none⟩ = some (.int .i64 f3) ∧ w'.cell? ⟨g0, j * 8 + 6, none⟩ = some (.int .i64 f6))
              (first | go_keep | (go_split_ands; exact ⟨by assumption, by assumption, by assumption⟩))
              (first
                | (go_at_call 98; refine (bookTell_any base b x y zz _ 3 f0 0 0 (f3 + f6) wr.drew (HI2.out.below HD.out) (Nat.le_trans hwi HD.out.size) (by simp only [Dm.Bk.told, List.length_append]; omega)).mono ?_; rintro e w7 ⟨rfl, ⟨z7, J7⟩, B7, F7⟩; have V7 := F7.own (HVI.out.below HD.out) (by decide) (by decide); have u0 := Or.o0 V7 hlt; have u3 := Or.o3 V7 hlt; have u6 := Or.o6 V7 hlt; rw [← HF0.out] at u0 u3 u6; have HR7 := Fk.hide (F7.own (HR.out.below HD.out) (by decide) (by decide)); have J7' := Fk.hide J7; have B7' := Fk.hide (HB2.out.trans ((HD.out.mono hwi).trans B7)); have F7' := Fk.hide (HF2.out.trans ((Bw.Fr.of_below HD.out).trans F7)); clear J7 B7 F7 V7))
            go_wp2_with fail
            go_roundw
            case rel =>
              refine ⟨j + 1, ur, un, uc, z7, by omega, by go_num, rfl, ?_, ?_, B7'.out, F7'.out⟩
              · have e := HKP.out; simp only [if_true] at e; rw [e]; exact HR7.out
              · have e := HCT.out; simp only [if_true] at e; rw [e, ← Dm.told_tell]; exact J7'.out
            case measure => simp [intOf]; omega
          | false =>
            have bX : Below wr.heap.size wr (wr.alloc (.cells #[.int .i64 f0, .int .i64 f1, .int .i64 f2, .int .i64 f3, .bool false, .int .i64 f5, .int .i64 f6, .bool f7] 40)) := (Below.refl _ _).alloc (Nat.le_refl _) _
            have HBX := Fk.hide bX
            have HRX := Fk.hide (HR.out.below bX)
            have HVX := Fk.hide (Rk.view_lit1 (S := Or.S) wr 40 #[.int .i64 f0, .int .i64 f1, .int .i64 f2, .int .i64 f3, .bool false, .int .i64 f5, .int .i64 f6, .bool f7] (f0, f1, f2, f3, false, f5, f6, f7) rfl)
            have HLE : Hid ((Dm.kept S j).length + [((f0, f1, f2, f3, false, f5, f6, f7) : Or.E)].length ≤ 1000000000) := by show _ ≤ _; have := Dm.kept_length S j; simp; omega
            have HSZ : Hid (wo.heap.size ≤ (wr.alloc (.cells #[.int .i64 f0, .int .i64 f1, .int .i64 f2, .int .i64 f3, .bool false, .int .i64 f5, .int .i64 f6, .bool f7] 40)).heap.size) := Nat.le_trans HB2.out.size bX.size
            have HKD : Hid (∀ q, (Value.slice ur un uc).ownBlock = some q → Wq.Kind (wr.alloc (.cells #[.int .i64 f0, .int .i64 f1, .int .i64 f2, .int .i64 f3, .bool false, .int .i64 f5, .int .i64 f6, .bool f7] 40)) q 40 ∧ wo.heap.size ≤ q) := fun q hq => ⟨Bw.kind_own HRX.out hq, (HR.out.lt q hq).1⟩
            have l0 := (bX.cell (p := ⟨g0, j * 8, none⟩) (by exact hg0)).trans x0
            have l1 := (bX.cell (p := ⟨g0, j * 8 + 1, none⟩) (by exact hg0)).trans x1
            have l2 := (bX.cell (p := ⟨g0, j * 8 + 2, none⟩) (by exact hg0)).trans x2
            have l3 := (bX.cell (p := ⟨g0, j * 8 + 3, none⟩) (by exact hg0)).trans x3
            have l4 := (bX.cell (p := ⟨g0, j * 8 + 4, none⟩) (by exact hg0)).trans x4
            have l5 := (bX.cell (p := ⟨g0, j * 8 + 5, none⟩) (by exact hg0)).trans x5
            have l6 := (bX.cell (p := ⟨g0, j * 8 + 6, none⟩) (by exact hg0)).trans x6
            have l7 := (bX.cell (p := ⟨g0, j * 8 + 7, none⟩) (by exact hg0)).trans x7
            clear bX
            go_wp2_with (at_builtin; refine Rk.wpList_append_view _ rfl _ _ 23 rfl wo.heap.size 40 i0 _ 8 64 rfl Try.underlying23 hi hz0 hz1 hz2 rfl (by decide) (.slice ur un uc) (.slice (some ⟨wr.heap.size, 0, none⟩) 1 1) (Dm.kept S j) [(f0, f1, f2, f3, false, f5, f6, f7)] rfl rfl HRX.out HVX.out (Rk.shut_some _ _ _) HLE.out HSZ.out ?_; intro u7 w7 o7 g7; have HB7 : Hid (Below base wo w7) := (HB2.out.trans (HBX.out.mono hwi)).grown g7 (Nat.le_trans hwi HBX.out.size) (fun q hq => Nat.le_trans hww (HKD.out q hq).2); have HJ7 := Fk.hide ((HI2.out.below (HBX.out)).grown g7 (q := wo.heap.size) HKD.out HLX.out HLY.out); have HF7 : Hid (Bw.Fr wo w7) := Bw.Fr.grown HF2.out (HBX.out) g7 (fun q hq => (HKD.out q hq).2); have HO7 := Fk.hide o7; obtain ⟨a7, n7, c7, rfl⟩ := o7.slice'; clear o7 g7)
            go_wp2_with fail
            go_roundw
            case rel =>
              refine ⟨j + 1, _, _, _, zz, by omega, by go_num, rfl, ?_, ?_, HB7.out, HF7.out⟩
              · have e := HKP.out; simp only [Bool.false_eq_true, if_false] at e; rw [e]; exact HO7.out
              · have e := HCT.out; simp only [Bool.false_eq_true, if_false] at e; rw [e]; exact HJ7.out
            case measure => simp [intOf]; omega
        · have e : j = S.length := by omega
          subst e
          have hcl : (Dm.cuts S S.length).length ≤ 1000 := Nat.le_trans (Dm.cuts_length S _) (by omega)
          go_wp2_with fail
          refine (bookPut_any base b x y zz _ (Y.told (Dm.cuts S S.length)) (Dm.kept S S.length) false wr HI2.out (Nat.le_trans hww HB2.out.size) (HR.out.mono hww) (Bw.apart false HLX.out HLY.out HR.out)).mono ?_
          rintro e w8 ⟨rfl, J8, B8, F8⟩
          have J8' := Fk.hide J8
          have B8' := Fk.hide (HB.out.trans (HB2.out.trans B8))
          have F8' := Fk.hide (HFr.out.trans (HF2.out.trans F8))
          clear J8 B8 F8
          have HZ : Hid ((Y.told (Dm.cuts S S.length)).put false (Dm.kept S S.length) = Dm.roll1 false Y) := by show _ = _; unfold Dm.roll1; rw [← HSE.out]
          go_wp2_with fail
          go_roundw
          case rel =>
            exact ⟨2, _, _, zz, (Y.told (Dm.cuts S S.length)).put false (Dm.kept S S.length), by omega, by go_num, by rw [Dm.ev_put]; simp only [Dm.Bk.told, List.length_append]; omega, J8'.out, .inr (.inr ⟨rfl, by rw [HZ.out, HYE.out]; rfl⟩), B8'.out, F8'.out⟩
          case measure => simp [intOf]
    · have HE := hY
      go_wp2_with fail
      refine bodyPost_end (v := .tuple #[]) (by simp [results, Try.results90, go_sem] <;> rfl) rfl ⟨rfl, ⟨x, y, z, by rw [← hY]; exact HJ.out⟩, HB.out, HFr.out⟩
end Go.Proofs.Ytfagldipjpaceaa
