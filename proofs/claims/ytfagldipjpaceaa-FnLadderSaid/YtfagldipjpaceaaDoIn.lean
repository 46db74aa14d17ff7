/- The walk of the specification's l06In: an order comes in behind all of its price, or a better one. -/
import Derived.Test.YtfagldipjpaceaaJoined5
namespace Go.Proofs.Ytfagldipjpaceaa
open Go.RowKit
set_option linter.unusedVariables false
set_option linter.unusedSimpArgs false
set_option maxRecDepth 100000 in
set_option maxHeartbeats 8000000 in
theorem l06In_any (v : Value) (L : List Or.E) (i ow p a : Int) (d : Bool) (pk h : Int) (g buy : Bool) (base : Nat) (w : World) (ho : Rk.Own Or.S w base 40 v L) (hl : L.length ≤ 1048576) :
    Calls Try.prog 107 #[v, .agg #[.int .i64 i, .int .i64 ow, .int .i64 p, .int .i64 a, .bool d, .int .i64 pk, .int .i64 h, .bool g], .bool buy] w fun e w' => (∃ u, e = .returned u ∧ Rk.Own Or.S w' w.heap.size 40 u (Dm.inn buy (i, ow, p, a, d, pk, h, g) L)) ∧ Below w.heap.size w w' := by
  obtain ⟨i0, hi, hz0, hz1, hz2⟩ := info_parts infoOrdS
  obtain ⟨W, hW⟩ : ∃ W, W = w.alloc (.cells #[.int .i64 i, .int .i64 ow, .int .i64 p, .int .i64 a, .bool d, .int .i64 pk, .int .i64 h, .bool g] 40) := ⟨_, rfl⟩
  have b0 : Below w.heap.size w W := by rw [hW]; exact (Below.refl _ _).alloc (Nat.le_refl _) _
  have hz : w.heap.size < W.heap.size := by rw [hW]; simp
  have c0 : W.cell? ⟨w.heap.size, 0, none⟩ = some (.int .i64 i) := by rw [hW, Fk.cellTop _ _ _ _ _ rfl]; rfl
  have c1 : W.cell? ⟨w.heap.size, 1, none⟩ = some (.int .i64 ow) := by rw [hW, Fk.cellTop _ _ _ _ _ rfl]; rfl
  have c2 : W.cell? ⟨w.heap.size, 2, none⟩ = some (.int .i64 p) := by rw [hW, Fk.cellTop _ _ _ _ _ rfl]; rfl
  have c3 : W.cell? ⟨w.heap.size, 3, none⟩ = some (.int .i64 a) := by rw [hW, Fk.cellTop _ _ _ _ _ rfl]; rfl
  have c4 : W.cell? ⟨w.heap.size, 4, none⟩ = some (.bool d) := by rw [hW, Fk.cellTop _ _ _ _ _ rfl]; rfl
  have c5 : W.cell? ⟨w.heap.size, 5, none⟩ = some (.int .i64 pk) := by rw [hW, Fk.cellTop _ _ _ _ _ rfl]; rfl
  have c6 : W.cell? ⟨w.heap.size, 6, none⟩ = some (.int .i64 h) := by rw [hW, Fk.cellTop _ _ _ _ _ rfl]; rfl
  have c7 : W.cell? ⟨w.heap.size, 7, none⟩ = some (.bool g) := by rw [hW, Fk.cellTop _ _ _ _ _ rfl]; rfl
  have HW := Fk.hide hW
  have HB0 := Fk.hide b0
  have ho' := ho.below b0
  clear hW b0 ho
  go_enter Try.func107, Try.ntmps107
  rcases ho'.form with ⟨hv, hnil⟩ | ⟨g0, cap, hv, hbg, hg⟩
  · subst hv hnil
    clear ho'
    go_wp2_with fail
    rw [← HW.out]
    go_loopw [7] (fun i wr => i = .int .i64 0 ∧ Hid (Below W.heap.size W wr)) (fun _ _ => 0)
    case atStart => exact ⟨rfl, Below.refl _ _⟩
    case round =>
      obtain ⟨rfl, bel⟩ := hrel
      have hd1 : decide ((0 : Int) < 0) = false := by decide
      go_wp2_with fail
      refine wp_region_quiet_below (by kernel_rfl) (by kernel_rfl) ?_
      repeat (go_big_quiet_step (fail))
      refine wpQuiet_nil ?_
      intro w4 hw'
      obtain ⟨⟨dq, osq⟩, hw''⟩ := hw'
      have k4 : Below wr.heap.size wr w4 := by rw [hw'']; exact below_regrown wr dq osq
      have B4 := Fk.hide (bel.out.trans (k4.mono bel.out.size))
      clear hw'' k4
      have e0 : w4.cell? ⟨w.heap.size, 0, none⟩ = some (.int .i64 i) := (B4.out.cell (by exact hz)).trans c0
      have e1 : w4.cell? ⟨w.heap.size, 1, none⟩ = some (.int .i64 ow) := (B4.out.cell (by exact hz)).trans c1
      have e2 : w4.cell? ⟨w.heap.size, 2, none⟩ = some (.int .i64 p) := (B4.out.cell (by exact hz)).trans c2
      have e3 : w4.cell? ⟨w.heap.size, 3, none⟩ = some (.int .i64 a) := (B4.out.cell (by exact hz)).trans c3
      have e4 : w4.cell? ⟨w.heap.size, 4, none⟩ = some (.bool d) := (B4.out.cell (by exact hz)).trans c4
      have e5 : w4.cell? ⟨w.heap.size, 5, none⟩ = some (.int .i64 pk) := (B4.out.cell (by exact hz)).trans c5
      have e6 : w4.cell? ⟨w.heap.size, 6, none⟩ = some (.int .i64 h) := (B4.out.cell (by exact hz)).trans c6
      have e7 : w4.cell? ⟨w.heap.size, 7, none⟩ = some (.bool g) := (B4.out.cell (by exact hz)).trans c7
      have HZ4 : Hid (W.heap.size ≤ w4.heap.size) := B4.out.size
      have B5 : Hid (Below W.heap.size W (w4.alloc (.cells #[] 40))) := B4.out.alloc HZ4.out _
      have hM : Hid (Rk.Own Or.S (w4.alloc (.cells #[] 40)) W.heap.size 40 (.slice (some ⟨w4.heap.size, 0, none⟩) 0 0) []) := Rk.own_empty w4 40 W.heap.size HZ4.out
      have hV : Hid (Rk.View Or.S (w4.alloc (.cells #[] 40)) (.slice none 0 0) ([] : List Or.E)) := Rk.view_none _
      have hS : Hid (Rk.Shut (.slice none 0 0)) := Rk.shut_none
      have hb5 : Hid (W.heap.size ≤ (w4.alloc (.cells #[] 40)).heap.size) := B5.out.size
      have hl1 : Hid (([] : List Or.E).length + ([] : List Or.E).length ≤ 1000000000) := by show _ ≤ _; simp <;> omega
      have hl2 : Hid (([] : List Or.E).length + [((i, ow, p, a, d, pk, h, g) : Or.E)].length ≤ 1000000000) := by show _ ≤ _; simp <;> omega
      have NX : Hid (∀ (w1 : World) (u1 : Value), Rk.Own Or.S w1 W.heap.size 40 u1 ([] : List Or.E) → (w4.alloc (.cells #[] 40)).grownBy w1 (Value.slice (some ⟨w4.heap.size, 0, none⟩) 0 0).ownBlock → Below W.heap.size W w1 ∧ Rk.Own Or.S (w1.alloc (.cells #[.int .i64 i, .int .i64 ow, .int .i64 p, .int .i64 a, .bool d, .int .i64 pk, .int .i64 h, .bool g] 40)) W.heap.size 40 u1 ([] : List Or.E) ∧ Below W.heap.size W (w1.alloc (.cells #[.int .i64 i, .int .i64 ow, .int .i64 p, .int .i64 a, .bool d, .int .i64 pk, .int .i64 h, .bool g] 40)) ∧ Rk.View Or.S (w1.alloc (.cells #[.int .i64 i, .int .i64 ow, .int .i64 p, .int .i64 a, .bool d, .int .i64 pk, .int .i64 h, .bool g] 40)) (.slice (some ⟨w1.heap.size, 0, none⟩) 1 1) [((i, ow, p, a, d, pk, h, g) : Or.E)] ∧ W.heap.size ≤ (w1.alloc (.cells #[.int .i64 i, .int .i64 ow, .int .i64 p, .int .i64 a, .bool d, .int .i64 pk, .int .i64 h, .bool g] 40)).heap.size) := by
        intro w1 u1 o1 g1
        have b1 : Below W.heap.size W w1 := B5.out.grown g1 B5.out.size (fun q hq => by have := HZ4.out; simp [Value.ownBlock] at hq; omega)
        have b2 : Below W.heap.size W (w1.alloc (.cells #[.int .i64 i, .int .i64 ow, .int .i64 p, .int .i64 a, .bool d, .int .i64 pk, .int .i64 h, .bool g] 40)) := b1.alloc b1.size _
        exact ⟨b1, o1.below ((Below.refl _ _).alloc (Nat.le_refl _) _), b2, Rk.view_lit1 _ _ _ _ rfl, b2.size⟩
      have hS1 : Hid (∀ a, Rk.Shut (.slice (some a) 1 1)) := fun a => Rk.shut_some a _ _
      have HV3 : Hid (∀ w', Below W.heap.size W w' → Rk.View Or.S w' (.slice none 0 0) ([] : List Or.E)) := fun w' _ => Rk.view_none _
      have hS3 : Hid (Rk.Shut (.slice none 0 0)) := Rk.shut_none
      have hl3 : Hid ((([] : List Or.E) ++ [((i, ow, p, a, d, pk, h, g) : Or.E)]).length + ([] : List Or.E).length ≤ 1000000000) := by show _ ≤ _; simp <;> omega
      go_wp2_with (first
        | (have hchk := HB2.out; clear hchk; at_builtin; refine Rk.wpList_append_view _ rfl _ _ 23 rfl W.heap.size 40 i0 _ 8 64 rfl Try.underlying23 hi hz0 hz1 hz2 rfl (by decide) (.slice a2 n2 c2) (.slice none 0 0) (([] : List Or.E) ++ [((i, ow, p, a, d, pk, h, g) : Or.E)]) ([] : List Or.E) rfl rfl HO2.out (HV3.out _ HB2.out) hS3.out hl3.out HB2.out.size ?_; intro u3 w3 o3 g3; have HB3 : Hid (Below W.heap.size W w3) := HB2.out.grown g3 HB2.out.size (fun j hj => (HO2.out.lt j hj).1); have HO3 := Fk.hide o3; obtain ⟨a3, n3, c3, rfl⟩ := o3.slice'; clear g3 o3)
        | (have hchk := HB1.out; clear hchk; at_builtin; refine Rk.wpList_append_view _ rfl _ _ 23 rfl W.heap.size 40 i0 _ 8 64 rfl Try.underlying23 hi hz0 hz1 hz2 rfl (by decide) (.slice a1 n1 c1) (.slice (some ⟨w1.heap.size, 0, none⟩) 1 1) ([] : List Or.E) [((i, ow, p, a, d, pk, h, g) : Or.E)] rfl rfl HN1.out.2.1 HN1.out.2.2.2.1 (hS1.out _) hl2.out HN1.out.2.2.2.2 ?_; intro u2 w2 o2 g2; have HB2 : Hid (Below W.heap.size W w2) := HN1.out.2.2.1.grown g2 HN1.out.2.2.2.2 (fun j hj => (HN1.out.2.1.lt j hj).1); have HO2 := Fk.hide o2; obtain ⟨a2, n2, c2, rfl⟩ := o2.slice'; clear g2 o2)
        | (at_builtin; refine Rk.wpList_append_view _ rfl _ _ 23 rfl W.heap.size 40 i0 _ 8 64 rfl Try.underlying23 hi hz0 hz1 hz2 rfl (by decide) (.slice (some ⟨w4.heap.size, 0, none⟩) 0 0) (.slice none 0 0) [] ([] : List Or.E) rfl rfl hM.out hV.out hS.out hl1.out hb5.out ?_; intro u1 w1 o1 g1; rw [List.nil_append] at o1; have HN1 := Fk.hide (NX.out w1 u1 o1 g1); have HB1 := Fk.hide HN1.out.1; have f0 : w1.cell? ⟨w.heap.size, 0, none⟩ = some (.int .i64 i) := (HB1.out.cell (by exact hz)).trans c0; have f1 : w1.cell? ⟨w.heap.size, 1, none⟩ = some (.int .i64 ow) := (HB1.out.cell (by exact hz)).trans c1; have f2 : w1.cell? ⟨w.heap.size, 2, none⟩ = some (.int .i64 p) := (HB1.out.cell (by exact hz)).trans c2; have f3 : w1.cell? ⟨w.heap.size, 3, none⟩ = some (.int .i64 a) := (HB1.out.cell (by exact hz)).trans c3; have f4 : w1.cell? ⟨w.heap.size, 4, none⟩ = some (.bool d) := (HB1.out.cell (by exact hz)).trans c4; have f5 : w1.cell? ⟨w.heap.size, 5, none⟩ = some (.int .i64 pk) := (HB1.out.cell (by exact hz)).trans c5; have f6 : w1.cell? ⟨w.heap.size, 6, none⟩ = some (.int .i64 h) := (HB1.out.cell (by exact hz)).trans c6; have f7 : w1.cell? ⟨w.heap.size, 7, none⟩ = some (.bool g) := (HB1.out.cell (by exact hz)).trans c7; obtain ⟨a1, n1, c1, rfl⟩ := o1.slice'; clear g1 o1))
      go_ret
      refine ⟨⟨_, rfl, ?_⟩, HB0.out.trans (HB3.out.mono HB0.out.size)⟩
      have o9 := HO3.out.mono (Nat.le_of_lt hz)
      simpa [Dm.inn] using o9
  · subst hv
    have HS : Hid (Rk.Sees Or.S W g0 0 L) := fun i hi j hj => by have := ho'.at hi j hj; simpa using this
    have hcap : L.length ≤ cap := by
      obtain ⟨_, h1 | ⟨g', cap', cur, hv, _, _, hc, _⟩⟩ := ho'
      · cases h1.1
      · simp only [Value.slice.injEq] at hv; omega
    clear ho' hbg
    go_wp2_with fail
    rw [← HW.out]
    go_loopw [7] (fun i wr => ∃ k : Nat, k ≤ L.length ∧ i = .int .i64 k ∧ Hid (∀ j, j < k → Dm.before buy p (Ob.at' L j) = true) ∧ Hid (Below W.heap.size W wr)) (fun i _ => L.length - (intOf i).toNat)
    case atStart => exact ⟨0, Nat.zero_le _, rfl, fun j hj => absurd hj (by omega), Below.refl _ _⟩
    case round =>
      obtain ⟨k, hk, rfl, HK, bel⟩ := hrel
      have q2 : wr.cell? ⟨w.heap.size, 2, none⟩ = some (.int .i64 p) := (bel.out.cell (by exact hz)).trans c2
      have k0 : (0 : Int) ≤ (k : Int) := Int.natCast_nonneg _
      by_cases hlt : k < L.length
      · have x2 := Or.c2 (HS.out.below hg bel.out) hlt
        rw [Nat.zero_add] at x2
        obtain ⟨f2, hf⟩ : ∃ f, f = (Rk.at_ Or.S L k).2.2.1 := ⟨_, rfl⟩
        have HF : Hid (Dm.before buy p (Ob.at' L k) = Ob.behind buy f2 p) := by show _ = _; rw [hf]; rfl
        rw [← hf] at x2
        clear hf
        have r2 := cell_regrown x2
        have r3 := cell_regrown q2
        have k1 : (k : Int) < (L.length : Int) := by omega
        have k2 : decide ((k : Int) < (L.length : Int)) = true := decide_eq_true k1
        obtain ⟨c, hc⟩ : ∃ c, c = Ob.behind buy f2 p := ⟨_, rfl⟩
        have HF' : Hid (Dm.before buy p (Ob.at' L k) = c) := HF.out.trans hc.symm
        clear HF
        cases c with
        | true =>
          cases buy with
          | false =>
            have dg := hc.symm
            simp only [Ob.behind, Bool.false_eq_true, if_false, if_true] at dg
            clear hc
            go_wp2_with fail
            refine wp_region_quiet_below (by kernel_rfl) (by kernel_rfl) ?_
            repeat (go_big_quiet_step (fail))
            refine wpQuiet_nil ?_
            intro w4 hw'
            obtain ⟨⟨dq, osq⟩, hw''⟩ := hw'
            have k4 : Below wr.heap.size wr w4 := by rw [hw'']; exact below_regrown wr dq osq
            have B4 := Fk.hide (bel.out.trans (k4.mono bel.out.size))
            clear hw'' k4
            clear r2 r3 x2 q2 dg
            go_wp2_with fail
            go_roundw
            case rel =>
              refine ⟨k + 1, by omega, by go_num, (fun j hj => ?_), B4.out⟩
              by_cases e : j = k
              · rw [e]; exact HF'.out
              · exact HK.out j (by omega)
            case measure => simp [intOf]; omega
          | true =>
            have dg := hc.symm
            simp only [Ob.behind, Bool.false_eq_true, if_false, if_true] at dg
            clear hc
            go_wp2_with fail
            refine wp_region_quiet_below (by kernel_rfl) (by kernel_rfl) ?_
            repeat (go_big_quiet_step (fail))
            refine wpQuiet_nil ?_
            intro w4 hw'
            obtain ⟨⟨dq, osq⟩, hw''⟩ := hw'
            have k4 : Below wr.heap.size wr w4 := by rw [hw'']; exact below_regrown wr dq osq
            have B4 := Fk.hide (bel.out.trans (k4.mono bel.out.size))
            clear hw'' k4
            clear r2 r3 x2 q2 dg
            go_wp2_with fail
            go_roundw
            case rel =>
              refine ⟨k + 1, by omega, by go_num, (fun j hj => ?_), B4.out⟩
              by_cases e : j = k
              · rw [e]; exact HF'.out
              · exact HK.out j (by omega)
            case measure => simp [intOf]; omega
        | false =>
          have HPL : Hid (Dm.place buy p L = k) := Dm.place_of hk HK.out (fun _ => HF'.out)
          have hck : ¬ cap = k := by omega
          have hkc : (k : Int) ≤ (cap : Int) := by omega
          cases buy with
          | false =>
            have dg := hc.symm
            simp only [Ob.behind, Bool.false_eq_true, if_false, if_true] at dg
            clear hc
            go_wp2_with fail
            refine wp_region_quiet_below (by kernel_rfl) (by kernel_rfl) ?_
            repeat (go_big_quiet_step (fail))
            refine wpQuiet_nil ?_
            intro w4 hw'
            obtain ⟨⟨dq, osq⟩, hw''⟩ := hw'
            have k4 : Below wr.heap.size wr w4 := by rw [hw'']; exact below_regrown wr dq osq
            have B4 := Fk.hide (bel.out.trans (k4.mono bel.out.size))
            clear hw'' k4
            clear r2 r3 x2 q2 dg
            have e0 : w4.cell? ⟨w.heap.size, 0, none⟩ = some (.int .i64 i) := (B4.out.cell (by exact hz)).trans c0
            have e1 : w4.cell? ⟨w.heap.size, 1, none⟩ = some (.int .i64 ow) := (B4.out.cell (by exact hz)).trans c1
            have e2 : w4.cell? ⟨w.heap.size, 2, none⟩ = some (.int .i64 p) := (B4.out.cell (by exact hz)).trans c2
            have e3 : w4.cell? ⟨w.heap.size, 3, none⟩ = some (.int .i64 a) := (B4.out.cell (by exact hz)).trans c3
            have e4 : w4.cell? ⟨w.heap.size, 4, none⟩ = some (.bool d) := (B4.out.cell (by exact hz)).trans c4
            have e5 : w4.cell? ⟨w.heap.size, 5, none⟩ = some (.int .i64 pk) := (B4.out.cell (by exact hz)).trans c5
            have e6 : w4.cell? ⟨w.heap.size, 6, none⟩ = some (.int .i64 h) := (B4.out.cell (by exact hz)).trans c6
            have e7 : w4.cell? ⟨w.heap.size, 7, none⟩ = some (.bool g) := (B4.out.cell (by exact hz)).trans c7
            have HZ4 : Hid (W.heap.size ≤ w4.heap.size) := B4.out.size
            have B5 : Hid (Below W.heap.size W (w4.alloc (.cells #[] 40))) := B4.out.alloc HZ4.out _
            have hM : Hid (Rk.Own Or.S (w4.alloc (.cells #[] 40)) W.heap.size 40 (.slice (some ⟨w4.heap.size, 0, none⟩) 0 0) []) := Rk.own_empty w4 40 W.heap.size HZ4.out
            have hV : Hid (Rk.View Or.S (w4.alloc (.cells #[] 40)) (.slice (some ⟨g0, 0, none⟩) k cap) (L.take k)) := Rk.view_of (Rk.sees_take (HS.out.below hg B5.out) k) (Nat.lt_of_lt_of_le hg B5.out.size) (by simp <;> omega)
            have hS : Hid (Rk.Shut (.slice (some ⟨g0, 0, none⟩) k cap)) := Rk.shut_some _ _ _
            have hb5 : Hid (W.heap.size ≤ (w4.alloc (.cells #[] 40)).heap.size) := B5.out.size
            have hl1 : Hid (([] : List Or.E).length + (L.take k).length ≤ 1000000000) := by show _ ≤ _; simp <;> omega
            have hl2 : Hid ((L.take k).length + [((i, ow, p, a, d, pk, h, g) : Or.E)].length ≤ 1000000000) := by show _ ≤ _; simp <;> omega
            have NX : Hid (∀ (w1 : World) (u1 : Value), Rk.Own Or.S w1 W.heap.size 40 u1 (L.take k) → (w4.alloc (.cells #[] 40)).grownBy w1 (Value.slice (some ⟨w4.heap.size, 0, none⟩) 0 0).ownBlock → Below W.heap.size W w1 ∧ Rk.Own Or.S (w1.alloc (.cells #[.int .i64 i, .int .i64 ow, .int .i64 p, .int .i64 a, .bool d, .int .i64 pk, .int .i64 h, .bool g] 40)) W.heap.size 40 u1 (L.take k) ∧ Below W.heap.size W (w1.alloc (.cells #[.int .i64 i, .int .i64 ow, .int .i64 p, .int .i64 a, .bool d, .int .i64 pk, .int .i64 h, .bool g] 40)) ∧ Rk.View Or.S (w1.alloc (.cells #[.int .i64 i, .int .i64 ow, .int .i64 p, .int .i64 a, .bool d, .int .i64 pk, .int .i64 h, .bool g] 40)) (.slice (some ⟨w1.heap.size, 0, none⟩) 1 1) [((i, ow, p, a, d, pk, h, g) : Or.E)] ∧ W.heap.size ≤ (w1.alloc (.cells #[.int .i64 i, .int .i64 ow, .int .i64 p, .int .i64 a, .bool d, .int .i64 pk, .int .i64 h, .bool g] 40)).heap.size) := by
              intro w1 u1 o1 g1
              have b1 : Below W.heap.size W w1 := B5.out.grown g1 B5.out.size (fun q hq => by have := HZ4.out; simp [Value.ownBlock] at hq; omega)
              have b2 : Below W.heap.size W (w1.alloc (.cells #[.int .i64 i, .int .i64 ow, .int .i64 p, .int .i64 a, .bool d, .int .i64 pk, .int .i64 h, .bool g] 40)) := b1.alloc b1.size _
              exact ⟨b1, o1.below ((Below.refl _ _).alloc (Nat.le_refl _) _), b2, Rk.view_lit1 _ _ _ _ rfl, b2.size⟩
            have hS1 : Hid (∀ a, Rk.Shut (.slice (some a) 1 1)) := fun a => Rk.shut_some a _ _
            have HV3 : Hid (∀ w', Below W.heap.size W w' → Rk.View Or.S w' (.slice (some ⟨g0, k * 8, none⟩) (L.length - k) (cap - k)) (L.drop k)) := fun w' h' => Rk.view_of (by have := Rk.sees_drop (HS.out.below hg h') k; rwa [Nat.zero_add] at this) (Nat.lt_of_lt_of_le hg h'.size) (by simp)
            have hS3 : Hid (Rk.Shut (.slice (some ⟨g0, k * 8, none⟩) (L.length - k) (cap - k))) := Rk.shut_some _ _ _
            have hl3 : Hid (((L.take k) ++ [((i, ow, p, a, d, pk, h, g) : Or.E)]).length + (L.drop k).length ≤ 1000000000) := by show _ ≤ _; simp <;> omega
            go_wp2_with (first
              | (have hchk := HB2.out; clear hchk; at_builtin; refine Rk.wpList_append_view _ rfl _ _ 23 rfl W.heap.size 40 i0 _ 8 64 rfl Try.underlying23 hi hz0 hz1 hz2 rfl (by decide) (.slice a2 n2 c2) (.slice (some ⟨g0, k * 8, none⟩) (L.length - k) (cap - k)) ((L.take k) ++ [((i, ow, p, a, d, pk, h, g) : Or.E)]) (L.drop k) rfl rfl HO2.out (HV3.out _ HB2.out) hS3.out hl3.out HB2.out.size ?_; intro u3 w3 o3 g3; have HB3 : Hid (Below W.heap.size W w3) := HB2.out.grown g3 HB2.out.size (fun j hj => (HO2.out.lt j hj).1); have HO3 := Fk.hide o3; obtain ⟨a3, n3, c3, rfl⟩ := o3.slice'; clear g3 o3)
              | (have hchk := HB1.out; clear hchk; at_builtin; refine Rk.wpList_append_view _ rfl _ _ 23 rfl W.heap.size 40 i0 _ 8 64 rfl Try.underlying23 hi hz0 hz1 hz2 rfl (by decide) (.slice a1 n1 c1) (.slice (some ⟨w1.heap.size, 0, none⟩) 1 1) (L.take k) [((i, ow, p, a, d, pk, h, g) : Or.E)] rfl rfl HN1.out.2.1 HN1.out.2.2.2.1 (hS1.out _) hl2.out HN1.out.2.2.2.2 ?_; intro u2 w2 o2 g2; have HB2 : Hid (Below W.heap.size W w2) := HN1.out.2.2.1.grown g2 HN1.out.2.2.2.2 (fun j hj => (HN1.out.2.1.lt j hj).1); have HO2 := Fk.hide o2; obtain ⟨a2, n2, c2, rfl⟩ := o2.slice'; clear g2 o2)
              | (at_builtin; refine Rk.wpList_append_view _ rfl _ _ 23 rfl W.heap.size 40 i0 _ 8 64 rfl Try.underlying23 hi hz0 hz1 hz2 rfl (by decide) (.slice (some ⟨w4.heap.size, 0, none⟩) 0 0) (.slice (some ⟨g0, 0, none⟩) k cap) [] (L.take k) rfl rfl hM.out hV.out hS.out hl1.out hb5.out ?_; intro u1 w1 o1 g1; rw [List.nil_append] at o1; have HN1 := Fk.hide (NX.out w1 u1 o1 g1); have HB1 := Fk.hide HN1.out.1; have f0 : w1.cell? ⟨w.heap.size, 0, none⟩ = some (.int .i64 i) := (HB1.out.cell (by exact hz)).trans c0; have f1 : w1.cell? ⟨w.heap.size, 1, none⟩ = some (.int .i64 ow) := (HB1.out.cell (by exact hz)).trans c1; have f2 : w1.cell? ⟨w.heap.size, 2, none⟩ = some (.int .i64 p) := (HB1.out.cell (by exact hz)).trans c2; have f3 : w1.cell? ⟨w.heap.size, 3, none⟩ = some (.int .i64 a) := (HB1.out.cell (by exact hz)).trans c3; have f4 : w1.cell? ⟨w.heap.size, 4, none⟩ = some (.bool d) := (HB1.out.cell (by exact hz)).trans c4; have f5 : w1.cell? ⟨w.heap.size, 5, none⟩ = some (.int .i64 pk) := (HB1.out.cell (by exact hz)).trans c5; have f6 : w1.cell? ⟨w.heap.size, 6, none⟩ = some (.int .i64 h) := (HB1.out.cell (by exact hz)).trans c6; have f7 : w1.cell? ⟨w.heap.size, 7, none⟩ = some (.bool g) := (HB1.out.cell (by exact hz)).trans c7; obtain ⟨a1, n1, c1, rfl⟩ := o1.slice'; clear g1 o1))
            go_ret
            refine ⟨⟨_, rfl, ?_⟩, HB0.out.trans (HB3.out.mono HB0.out.size)⟩
            have o9 := HO3.out.mono (Nat.le_of_lt hz)
            rw [Dm.inn_eq, HPL.out]
            simpa [List.append_assoc] using o9
          | true =>
            have dg := hc.symm
            simp only [Ob.behind, Bool.false_eq_true, if_false, if_true] at dg
            clear hc
            go_wp2_with fail
            refine wp_region_quiet_below (by kernel_rfl) (by kernel_rfl) ?_
            repeat (go_big_quiet_step (fail))
            refine wpQuiet_nil ?_
            intro w4 hw'
            obtain ⟨⟨dq, osq⟩, hw''⟩ := hw'
            have k4 : Below wr.heap.size wr w4 := by rw [hw'']; exact below_regrown wr dq osq
            have B4 := Fk.hide (bel.out.trans (k4.mono bel.out.size))
            clear hw'' k4
            clear r2 r3 x2 q2 dg
            have e0 : w4.cell? ⟨w.heap.size, 0, none⟩ = some (.int .i64 i) := (B4.out.cell (by exact hz)).trans c0
            have e1 : w4.cell? ⟨w.heap.size, 1, none⟩ = some (.int .i64 ow) := (B4.out.cell (by exact hz)).trans c1
            have e2 : w4.cell? ⟨w.heap.size, 2, none⟩ = some (.int .i64 p) := (B4.out.cell (by exact hz)).trans c2
            have e3 : w4.cell? ⟨w.heap.size, 3, none⟩ = some (.int .i64 a) := (B4.out.cell (by exact hz)).trans c3
            have e4 : w4.cell? ⟨w.heap.size, 4, none⟩ = some (.bool d) := (B4.out.cell (by exact hz)).trans c4
            have e5 : w4.cell? ⟨w.heap.size, 5, none⟩ = some (.int .i64 pk) := (B4.out.cell (by exact hz)).trans c5
            have e6 : w4.cell? ⟨w.heap.size, 6, none⟩ = some (.int .i64 h) := (B4.out.cell (by exact hz)).trans c6
            have e7 : w4.cell? ⟨w.heap.size, 7, none⟩ = some (.bool g) := (B4.out.cell (by exact hz)).trans c7
            have HZ4 : Hid (W.heap.size ≤ w4.heap.size) := B4.out.size
            have B5 : Hid (Below W.heap.size W (w4.alloc (.cells #[] 40))) := B4.out.alloc HZ4.out _
            have hM : Hid (Rk.Own Or.S (w4.alloc (.cells #[] 40)) W.heap.size 40 (.slice (some ⟨w4.heap.size, 0, none⟩) 0 0) []) := Rk.own_empty w4 40 W.heap.size HZ4.out
            have hV : Hid (Rk.View Or.S (w4.alloc (.cells #[] 40)) (.slice (some ⟨g0, 0, none⟩) k cap) (L.take k)) := Rk.view_of (Rk.sees_take (HS.out.below hg B5.out) k) (Nat.lt_of_lt_of_le hg B5.out.size) (by simp <;> omega)
            have hS : Hid (Rk.Shut (.slice (some ⟨g0, 0, none⟩) k cap)) := Rk.shut_some _ _ _
            have hb5 : Hid (W.heap.size ≤ (w4.alloc (.cells #[] 40)).heap.size) := B5.out.size
            have hl1 : Hid (([] : List Or.E).length + (L.take k).length ≤ 1000000000) := by show _ ≤ _; simp <;> omega
            have hl2 : Hid ((L.take k).length + [((i, ow, p, a, d, pk, h, g) : Or.E)].length ≤ 1000000000) := by show _ ≤ _; simp <;> omega
            have NX : Hid (∀ (w1 : World) (u1 : Value), Rk.Own Or.S w1 W.heap.size 40 u1 (L.take k) → (w4.alloc (.cells #[] 40)).grownBy w1 (Value.slice (some ⟨w4.heap.size, 0, none⟩) 0 0).ownBlock → Below W.heap.size W w1 ∧ Rk.Own Or.S (w1.alloc (.cells #[.int .i64 i, .int .i64 ow, .int .i64 p, .int .i64 a, .bool d, .int .i64 pk, .int .i64 h, .bool g] 40)) W.heap.size 40 u1 (L.take k) ∧ Below W.heap.size W (w1.alloc (.cells #[.int .i64 i, .int .i64 ow, .int .i64 p, .int .i64 a, .bool d, .int .i64 pk, .int .i64 h, .bool g] 40)) ∧ Rk.View Or.S (w1.alloc (.cells #[.int .i64 i, .int .i64 ow, .int .i64 p, .int .i64 a, .bool d, .int .i64 pk, .int .i64 h, .bool g] 40)) (.slice (some ⟨w1.heap.size, 0, none⟩) 1 1) [((i, ow, p, a, d, pk, h, g) : Or.E)] ∧ W.heap.size ≤ (w1.alloc (.cells #[.int .i64 i, .int .i64 ow, .int .i64 p, .int .i64 a, .bool d, .int .i64 pk, .int .i64 h, .bool g] 40)).heap.size) := by
              intro w1 u1 o1 g1
              have b1 : Below W.heap.size W w1 := B5.out.grown g1 B5.out.size (fun q hq => by have := HZ4.out; simp [Value.ownBlock] at hq; omega)
              have b2 : Below W.heap.size W (w1.alloc (.cells #[.int .i64 i, .int .i64 ow, .int .i64 p, .int .i64 a, .bool d, .int .i64 pk, .int .i64 h, .bool g] 40)) := b1.alloc b1.size _
              exact ⟨b1, o1.below ((Below.refl _ _).alloc (Nat.le_refl _) _), b2, Rk.view_lit1 _ _ _ _ rfl, b2.size⟩
            have hS1 : Hid (∀ a, Rk.Shut (.slice (some a) 1 1)) := fun a => Rk.shut_some a _ _
            have HV3 : Hid (∀ w', Below W.heap.size W w' → Rk.View Or.S w' (.slice (some ⟨g0, k * 8, none⟩) (L.length - k) (cap - k)) (L.drop k)) := fun w' h' => Rk.view_of (by have := Rk.sees_drop (HS.out.below hg h') k; rwa [Nat.zero_add] at this) (Nat.lt_of_lt_of_le hg h'.size) (by simp)
            have hS3 : Hid (Rk.Shut (.slice (some ⟨g0, k * 8, none⟩) (L.length - k) (cap - k))) := Rk.shut_some _ _ _
            have hl3 : Hid (((L.take k) ++ [((i, ow, p, a, d, pk, h, g) : Or.E)]).length + (L.drop k).length ≤ 1000000000) := by show _ ≤ _; simp <;> omega
            go_wp2_with (first
              | (have hchk := HB2.out; clear hchk; at_builtin; refine Rk.wpList_append_view _ rfl _ _ 23 rfl W.heap.size 40 i0 _ 8 64 rfl Try.underlying23 hi hz0 hz1 hz2 rfl (by decide) (.slice a2 n2 c2) (.slice (some ⟨g0, k * 8, none⟩) (L.length - k) (cap - k)) ((L.take k) ++ [((i, ow, p, a, d, pk, h, g) : Or.E)]) (L.drop k) rfl rfl HO2.out (HV3.out _ HB2.out) hS3.out hl3.out HB2.out.size ?_; intro u3 w3 o3 g3; have HB3 : Hid (Below W.heap.size W w3) := HB2.out.grown g3 HB2.out.size (fun j hj => (HO2.out.lt j hj).1); have HO3 := Fk.hide o3; obtain ⟨a3, n3, c3, rfl⟩ := o3.slice'; clear g3 o3)
              | (have hchk := HB1.out; clear hchk; at_builtin; refine Rk.wpList_append_view _ rfl _ _ 23 rfl W.heap.size 40 i0 _ 8 64 rfl Try.underlying23 hi hz0 hz1 hz2 rfl (by decide) (.slice a1 n1 c1) (.slice (some ⟨w1.heap.size, 0, none⟩) 1 1) (L.take k) [((i, ow, p, a, d, pk, h, g) : Or.E)] rfl rfl HN1.out.2.1 HN1.out.2.2.2.1 (hS1.out _) hl2.out HN1.out.2.2.2.2 ?_; intro u2 w2 o2 g2; have HB2 : Hid (Below W.heap.size W w2) := HN1.out.2.2.1.grown g2 HN1.out.2.2.2.2 (fun j hj => (HN1.out.2.1.lt j hj).1); have HO2 := Fk.hide o2; obtain ⟨a2, n2, c2, rfl⟩ := o2.slice'; clear g2 o2)
              | (at_builtin; refine Rk.wpList_append_view _ rfl _ _ 23 rfl W.heap.size 40 i0 _ 8 64 rfl Try.underlying23 hi hz0 hz1 hz2 rfl (by decide) (.slice (some ⟨w4.heap.size, 0, none⟩) 0 0) (.slice (some ⟨g0, 0, none⟩) k cap) [] (L.take k) rfl rfl hM.out hV.out hS.out hl1.out hb5.out ?_; intro u1 w1 o1 g1; rw [List.nil_append] at o1; have HN1 := Fk.hide (NX.out w1 u1 o1 g1); have HB1 := Fk.hide HN1.out.1; have f0 : w1.cell? ⟨w.heap.size, 0, none⟩ = some (.int .i64 i) := (HB1.out.cell (by exact hz)).trans c0; have f1 : w1.cell? ⟨w.heap.size, 1, none⟩ = some (.int .i64 ow) := (HB1.out.cell (by exact hz)).trans c1; have f2 : w1.cell? ⟨w.heap.size, 2, none⟩ = some (.int .i64 p) := (HB1.out.cell (by exact hz)).trans c2; have f3 : w1.cell? ⟨w.heap.size, 3, none⟩ = some (.int .i64 a) := (HB1.out.cell (by exact hz)).trans c3; have f4 : w1.cell? ⟨w.heap.size, 4, none⟩ = some (.bool d) := (HB1.out.cell (by exact hz)).trans c4; have f5 : w1.cell? ⟨w.heap.size, 5, none⟩ = some (.int .i64 pk) := (HB1.out.cell (by exact hz)).trans c5; have f6 : w1.cell? ⟨w.heap.size, 6, none⟩ = some (.int .i64 h) := (HB1.out.cell (by exact hz)).trans c6; have f7 : w1.cell? ⟨w.heap.size, 7, none⟩ = some (.bool g) := (HB1.out.cell (by exact hz)).trans c7; obtain ⟨a1, n1, c1, rfl⟩ := o1.slice'; clear g1 o1))
            go_ret
            refine ⟨⟨_, rfl, ?_⟩, HB0.out.trans (HB3.out.mono HB0.out.size)⟩
            have o9 := HO3.out.mono (Nat.le_of_lt hz)
            rw [Dm.inn_eq, HPL.out]
            simpa [List.append_assoc] using o9
      · obtain rfl : k = L.length := by omega
        have HPL : Hid (Dm.place buy p L = L.length) := Dm.place_of (Nat.le_refl _) HK.out (fun h => absurd h (Nat.lt_irrefl _))
        have HDR : Hid (L.drop L.length = []) := List.drop_eq_nil_of_le (Nat.le_refl _)
        have k2 : decide ((L.length : Int) < (L.length : Int)) = false := decide_eq_false (by omega)
        have hkc : (L.length : Int) ≤ (cap : Int) := by omega
        have r3 := cell_regrown q2
        clear hlt hk
        go_wp2_with fail
        refine wp_region_quiet_below (by kernel_rfl) (by kernel_rfl) ?_
        repeat (go_big_quiet_step (fail))
        refine wpQuiet_nil ?_
        intro w4 hw'
        obtain ⟨⟨dq, osq⟩, hw''⟩ := hw'
        have k4 : Below wr.heap.size wr w4 := by rw [hw'']; exact below_regrown wr dq osq
        have B4 := Fk.hide (bel.out.trans (k4.mono bel.out.size))
        clear hw'' k4
        clear r3 q2
        by_cases hck : cap = L.length
        · subst hck
          have e0 : w4.cell? ⟨w.heap.size, 0, none⟩ = some (.int .i64 i) := (B4.out.cell (by exact hz)).trans c0
          have e1 : w4.cell? ⟨w.heap.size, 1, none⟩ = some (.int .i64 ow) := (B4.out.cell (by exact hz)).trans c1
          have e2 : w4.cell? ⟨w.heap.size, 2, none⟩ = some (.int .i64 p) := (B4.out.cell (by exact hz)).trans c2
          have e3 : w4.cell? ⟨w.heap.size, 3, none⟩ = some (.int .i64 a) := (B4.out.cell (by exact hz)).trans c3
          have e4 : w4.cell? ⟨w.heap.size, 4, none⟩ = some (.bool d) := (B4.out.cell (by exact hz)).trans c4
          have e5 : w4.cell? ⟨w.heap.size, 5, none⟩ = some (.int .i64 pk) := (B4.out.cell (by exact hz)).trans c5
          have e6 : w4.cell? ⟨w.heap.size, 6, none⟩ = some (.int .i64 h) := (B4.out.cell (by exact hz)).trans c6
          have e7 : w4.cell? ⟨w.heap.size, 7, none⟩ = some (.bool g) := (B4.out.cell (by exact hz)).trans c7
          have HZ4 : Hid (W.heap.size ≤ w4.heap.size) := B4.out.size
          have B5 : Hid (Below W.heap.size W (w4.alloc (.cells #[] 40))) := B4.out.alloc HZ4.out _
          have hM : Hid (Rk.Own Or.S (w4.alloc (.cells #[] 40)) W.heap.size 40 (.slice (some ⟨w4.heap.size, 0, none⟩) 0 0) []) := Rk.own_empty w4 40 W.heap.size HZ4.out
          have hV : Hid (Rk.View Or.S (w4.alloc (.cells #[] 40)) (.slice (some ⟨g0, 0, none⟩) L.length L.length) (L.take L.length)) := Rk.view_of (Rk.sees_take (HS.out.below hg B5.out) L.length) (Nat.lt_of_lt_of_le hg B5.out.size) (by simp <;> omega)
          have hS : Hid (Rk.Shut (.slice (some ⟨g0, 0, none⟩) L.length L.length)) := Rk.shut_some _ _ _
          have hb5 : Hid (W.heap.size ≤ (w4.alloc (.cells #[] 40)).heap.size) := B5.out.size
          have hl1 : Hid (([] : List Or.E).length + (L.take L.length).length ≤ 1000000000) := by show _ ≤ _; simp <;> omega
          have hl2 : Hid ((L.take L.length).length + [((i, ow, p, a, d, pk, h, g) : Or.E)].length ≤ 1000000000) := by show _ ≤ _; simp <;> omega
          have NX : Hid (∀ (w1 : World) (u1 : Value), Rk.Own Or.S w1 W.heap.size 40 u1 (L.take L.length) → (w4.alloc (.cells #[] 40)).grownBy w1 (Value.slice (some ⟨w4.heap.size, 0, none⟩) 0 0).ownBlock → Below W.heap.size W w1 ∧ Rk.Own Or.S (w1.alloc (.cells #[.int .i64 i, .int .i64 ow, .int .i64 p, .int .i64 a, .bool d, .int .i64 pk, .int .i64 h, .bool g] 40)) W.heap.size 40 u1 (L.take L.length) ∧ Below W.heap.size W (w1.alloc (.cells #[.int .i64 i, .int .i64 ow, .int .i64 p, .int .i64 a, .bool d, .int .i64 pk, .int .i64 h, .bool g] 40)) ∧ Rk.View Or.S (w1.alloc (.cells #[.int .i64 i, .int .i64 ow, .int .i64 p, .int .i64 a, .bool d, .int .i64 pk, .int .i64 h, .bool g] 40)) (.slice (some ⟨w1.heap.size, 0, none⟩) 1 1) [((i, ow, p, a, d, pk, h, g) : Or.E)] ∧ W.heap.size ≤ (w1.alloc (.cells #[.int .i64 i, .int .i64 ow, .int .i64 p, .int .i64 a, .bool d, .int .i64 pk, .int .i64 h, .bool g] 40)).heap.size) := by
            intro w1 u1 o1 g1
            have b1 : Below W.heap.size W w1 := B5.out.grown g1 B5.out.size (fun q hq => by have := HZ4.out; simp [Value.ownBlock] at hq; omega)
            have b2 : Below W.heap.size W (w1.alloc (.cells #[.int .i64 i, .int .i64 ow, .int .i64 p, .int .i64 a, .bool d, .int .i64 pk, .int .i64 h, .bool g] 40)) := b1.alloc b1.size _
            exact ⟨b1, o1.below ((Below.refl _ _).alloc (Nat.le_refl _) _), b2, Rk.view_lit1 _ _ _ _ rfl, b2.size⟩
          have hS1 : Hid (∀ a, Rk.Shut (.slice (some a) 1 1)) := fun a => Rk.shut_some a _ _
          have HV3 : Hid (∀ w', Below W.heap.size W w' → Rk.View Or.S w' (.slice (some ⟨g0, 0, none⟩) 0 0) ([] : List Or.E)) := fun w' h' => Rk.view_of (fun i hi => absurd hi (by simp)) (Nat.lt_of_lt_of_le hg h'.size) rfl
          have hS3 : Hid (Rk.Shut (.slice (some ⟨g0, 0, none⟩) 0 0)) := Rk.shut_some _ _ _
          have hl3 : Hid (((L.take L.length) ++ [((i, ow, p, a, d, pk, h, g) : Or.E)]).length + ([] : List Or.E).length ≤ 1000000000) := by show _ ≤ _; simp <;> omega
          go_wp2_with (first
            | (have hchk := HB2.out; clear hchk; at_builtin; refine Rk.wpList_append_view _ rfl _ _ 23 rfl W.heap.size 40 i0 _ 8 64 rfl Try.underlying23 hi hz0 hz1 hz2 rfl (by decide) (.slice a2 n2 c2) (.slice (some ⟨g0, 0, none⟩) 0 0) ((L.take L.length) ++ [((i, ow, p, a, d, pk, h, g) : Or.E)]) ([] : List Or.E) rfl rfl HO2.out (HV3.out _ HB2.out) hS3.out hl3.out HB2.out.size ?_; intro u3 w3 o3 g3; have HB3 : Hid (Below W.heap.size W w3) := HB2.out.grown g3 HB2.out.size (fun j hj => (HO2.out.lt j hj).1); have HO3 := Fk.hide o3; obtain ⟨a3, n3, c3, rfl⟩ := o3.slice'; clear g3 o3)
            | (have hchk := HB1.out; clear hchk; at_builtin; refine Rk.wpList_append_view _ rfl _ _ 23 rfl W.heap.size 40 i0 _ 8 64 rfl Try.underlying23 hi hz0 hz1 hz2 rfl (by decide) (.slice a1 n1 c1) (.slice (some ⟨w1.heap.size, 0, none⟩) 1 1) (L.take L.length) [((i, ow, p, a, d, pk, h, g) : Or.E)] rfl rfl HN1.out.2.1 HN1.out.2.2.2.1 (hS1.out _) hl2.out HN1.out.2.2.2.2 ?_; intro u2 w2 o2 g2; have HB2 : Hid (Below W.heap.size W w2) := HN1.out.2.2.1.grown g2 HN1.out.2.2.2.2 (fun j hj => (HN1.out.2.1.lt j hj).1); have HO2 := Fk.hide o2; obtain ⟨a2, n2, c2, rfl⟩ := o2.slice'; clear g2 o2)
            | (at_builtin; refine Rk.wpList_append_view _ rfl _ _ 23 rfl W.heap.size 40 i0 _ 8 64 rfl Try.underlying23 hi hz0 hz1 hz2 rfl (by decide) (.slice (some ⟨w4.heap.size, 0, none⟩) 0 0) (.slice (some ⟨g0, 0, none⟩) L.length L.length) [] (L.take L.length) rfl rfl hM.out hV.out hS.out hl1.out hb5.out ?_; intro u1 w1 o1 g1; rw [List.nil_append] at o1; have HN1 := Fk.hide (NX.out w1 u1 o1 g1); have HB1 := Fk.hide HN1.out.1; have f0 : w1.cell? ⟨w.heap.size, 0, none⟩ = some (.int .i64 i) := (HB1.out.cell (by exact hz)).trans c0; have f1 : w1.cell? ⟨w.heap.size, 1, none⟩ = some (.int .i64 ow) := (HB1.out.cell (by exact hz)).trans c1; have f2 : w1.cell? ⟨w.heap.size, 2, none⟩ = some (.int .i64 p) := (HB1.out.cell (by exact hz)).trans c2; have f3 : w1.cell? ⟨w.heap.size, 3, none⟩ = some (.int .i64 a) := (HB1.out.cell (by exact hz)).trans c3; have f4 : w1.cell? ⟨w.heap.size, 4, none⟩ = some (.bool d) := (HB1.out.cell (by exact hz)).trans c4; have f5 : w1.cell? ⟨w.heap.size, 5, none⟩ = some (.int .i64 pk) := (HB1.out.cell (by exact hz)).trans c5; have f6 : w1.cell? ⟨w.heap.size, 6, none⟩ = some (.int .i64 h) := (HB1.out.cell (by exact hz)).trans c6; have f7 : w1.cell? ⟨w.heap.size, 7, none⟩ = some (.bool g) := (HB1.out.cell (by exact hz)).trans c7; obtain ⟨a1, n1, c1, rfl⟩ := o1.slice'; clear g1 o1))
          go_ret
          refine ⟨⟨_, rfl, ?_⟩, HB0.out.trans (HB3.out.mono HB0.out.size)⟩
          have o9 := HO3.out.mono (Nat.le_of_lt hz)
          rw [Dm.inn_eq, HPL.out]
          rw [HDR.out]
          simpa [List.append_assoc] using o9
        · skip
          have e0 : w4.cell? ⟨w.heap.size, 0, none⟩ = some (.int .i64 i) := (B4.out.cell (by exact hz)).trans c0
          have e1 : w4.cell? ⟨w.heap.size, 1, none⟩ = some (.int .i64 ow) := (B4.out.cell (by exact hz)).trans c1
          have e2 : w4.cell? ⟨w.heap.size, 2, none⟩ = some (.int .i64 p) := (B4.out.cell (by exact hz)).trans c2
          have e3 : w4.cell? ⟨w.heap.size, 3, none⟩ = some (.int .i64 a) := (B4.out.cell (by exact hz)).trans c3
          have e4 : w4.cell? ⟨w.heap.size, 4, none⟩ = some (.bool d) := (B4.out.cell (by exact hz)).trans c4
          have e5 : w4.cell? ⟨w.heap.size, 5, none⟩ = some (.int .i64 pk) := (B4.out.cell (by exact hz)).trans c5
          have e6 : w4.cell? ⟨w.heap.size, 6, none⟩ = some (.int .i64 h) := (B4.out.cell (by exact hz)).trans c6
          have e7 : w4.cell? ⟨w.heap.size, 7, none⟩ = some (.bool g) := (B4.out.cell (by exact hz)).trans c7
          have HZ4 : Hid (W.heap.size ≤ w4.heap.size) := B4.out.size
          have B5 : Hid (Below W.heap.size W (w4.alloc (.cells #[] 40))) := B4.out.alloc HZ4.out _
          have hM : Hid (Rk.Own Or.S (w4.alloc (.cells #[] 40)) W.heap.size 40 (.slice (some ⟨w4.heap.size, 0, none⟩) 0 0) []) := Rk.own_empty w4 40 W.heap.size HZ4.out
          have hV : Hid (Rk.View Or.S (w4.alloc (.cells #[] 40)) (.slice (some ⟨g0, 0, none⟩) L.length cap) (L.take L.length)) := Rk.view_of (Rk.sees_take (HS.out.below hg B5.out) L.length) (Nat.lt_of_lt_of_le hg B5.out.size) (by simp <;> omega)
          have hS : Hid (Rk.Shut (.slice (some ⟨g0, 0, none⟩) L.length cap)) := Rk.shut_some _ _ _
          have hb5 : Hid (W.heap.size ≤ (w4.alloc (.cells #[] 40)).heap.size) := B5.out.size
          have hl1 : Hid (([] : List Or.E).length + (L.take L.length).length ≤ 1000000000) := by show _ ≤ _; simp <;> omega
          have hl2 : Hid ((L.take L.length).length + [((i, ow, p, a, d, pk, h, g) : Or.E)].length ≤ 1000000000) := by show _ ≤ _; simp <;> omega
          have NX : Hid (∀ (w1 : World) (u1 : Value), Rk.Own Or.S w1 W.heap.size 40 u1 (L.take L.length) → (w4.alloc (.cells #[] 40)).grownBy w1 (Value.slice (some ⟨w4.heap.size, 0, none⟩) 0 0).ownBlock → Below W.heap.size W w1 ∧ Rk.Own Or.S (w1.alloc (.cells #[.int .i64 i, .int .i64 ow, .int .i64 p, .int .i64 a, .bool d, .int .i64 pk, .int .i64 h, .bool g] 40)) W.heap.size 40 u1 (L.take L.length) ∧ Below W.heap.size W (w1.alloc (.cells #[.int .i64 i, .int .i64 ow, .int .i64 p, .int .i64 a, .bool d, .int .i64 pk, .int .i64 h, .bool g] 40)) ∧ Rk.View Or.S (w1.alloc (.cells #[.int .i64 i, .int .i64 ow, .int .i64 p, .int .i64 a, .bool d, .int .i64 pk, .int .i64 h, .bool g] 40)) (.slice (some ⟨w1.heap.size, 0, none⟩) 1 1) [((i, ow, p, a, d, pk, h, g) : Or.E)] ∧ W.heap.size ≤ (w1.alloc (.cells #[.int .i64 i, .int .i64 ow, .int .i64 p, .int .i64 a, .bool d, .int .i64 pk, .int .i64 h, .bool g] 40)).heap.size) := by
            intro w1 u1 o1 g1
            have b1 : Below W.heap.size W w1 := B5.out.grown g1 B5.out.size (fun q hq => by have := HZ4.out; simp [Value.ownBlock] at hq; omega)
            have b2 : Below W.heap.size W (w1.alloc (.cells #[.int .i64 i, .int .i64 ow, .int .i64 p, .int .i64 a, .bool d, .int .i64 pk, .int .i64 h, .bool g] 40)) := b1.alloc b1.size _
            exact ⟨b1, o1.below ((Below.refl _ _).alloc (Nat.le_refl _) _), b2, Rk.view_lit1 _ _ _ _ rfl, b2.size⟩
          have hS1 : Hid (∀ a, Rk.Shut (.slice (some a) 1 1)) := fun a => Rk.shut_some a _ _
          have HV3 : Hid (∀ w', Below W.heap.size W w' → Rk.View Or.S w' (.slice (some ⟨g0, L.length * 8, none⟩) 0 (cap - L.length)) ([] : List Or.E)) := fun w' h' => Rk.view_of (fun i hi => absurd hi (by simp)) (Nat.lt_of_lt_of_le hg h'.size) rfl
          have hS3 : Hid (Rk.Shut (.slice (some ⟨g0, L.length * 8, none⟩) 0 (cap - L.length))) := Rk.shut_some _ _ _
          have hl3 : Hid (((L.take L.length) ++ [((i, ow, p, a, d, pk, h, g) : Or.E)]).length + ([] : List Or.E).length ≤ 1000000000) := by show _ ≤ _; simp <;> omega
          go_wp2_with (first
            | (have hchk := HB2.out; clear hchk; at_builtin; refine Rk.wpList_append_view _ rfl _ _ 23 rfl W.heap.size 40 i0 _ 8 64 rfl Try.underlying23 hi hz0 hz1 hz2 rfl (by decide) (.slice a2 n2 c2) (.slice (some ⟨g0, L.length * 8, none⟩) 0 (cap - L.length)) ((L.take L.length) ++ [((i, ow, p, a, d, pk, h, g) : Or.E)]) ([] : List Or.E) rfl rfl HO2.out (HV3.out _ HB2.out) hS3.out hl3.out HB2.out.size ?_; intro u3 w3 o3 g3; have HB3 : Hid (Below W.heap.size W w3) := HB2.out.grown g3 HB2.out.size (fun j hj => (HO2.out.lt j hj).1); have HO3 := Fk.hide o3; obtain ⟨a3, n3, c3, rfl⟩ := o3.slice'; clear g3 o3)
            | (have hchk := HB1.out; clear hchk; at_builtin; refine Rk.wpList_append_view _ rfl _ _ 23 rfl W.heap.size 40 i0 _ 8 64 rfl Try.underlying23 hi hz0 hz1 hz2 rfl (by decide) (.slice a1 n1 c1) (.slice (some ⟨w1.heap.size, 0, none⟩) 1 1) (L.take L.length) [((i, ow, p, a, d, pk, h, g) : Or.E)] rfl rfl HN1.out.2.1 HN1.out.2.2.2.1 (hS1.out _) hl2.out HN1.out.2.2.2.2 ?_; intro u2 w2 o2 g2; have HB2 : Hid (Below W.heap.size W w2) := HN1.out.2.2.1.grown g2 HN1.out.2.2.2.2 (fun j hj => (HN1.out.2.1.lt j hj).1); have HO2 := Fk.hide o2; obtain ⟨a2, n2, c2, rfl⟩ := o2.slice'; clear g2 o2)
            | (at_builtin; refine Rk.wpList_append_view _ rfl _ _ 23 rfl W.heap.size 40 i0 _ 8 64 rfl Try.underlying23 hi hz0 hz1 hz2 rfl (by decide) (.slice (some ⟨w4.heap.size, 0, none⟩) 0 0) (.slice (some ⟨g0, 0, none⟩) L.length cap) [] (L.take L.length) rfl rfl hM.out hV.out hS.out hl1.out hb5.out ?_; intro u1 w1 o1 g1; rw [List.nil_append] at o1; have HN1 := Fk.hide (NX.out w1 u1 o1 g1); have HB1 := Fk.hide HN1.out.1; have f0 : w1.cell? ⟨w.heap.size, 0, none⟩ = some (.int .i64 i) := (HB1.out.cell (by exact hz)).trans c0; have f1 : w1.cell? ⟨w.heap.size, 1, none⟩ = some (.int .i64 ow) := (HB1.out.cell (by exact hz)).trans c1; have f2 : w1.cell? ⟨w.heap.size, 2, none⟩ = some (.int .i64 p) := (HB1.out.cell (by exact hz)).trans c2; have f3 : w1.cell? ⟨w.heap.size, 3, none⟩ = some (.int .i64 a) := (HB1.out.cell (by exact hz)).trans c3; have f4 : w1.cell? ⟨w.heap.size, 4, none⟩ = some (.bool d) := (HB1.out.cell (by exact hz)).trans c4; have f5 : w1.cell? ⟨w.heap.size, 5, none⟩ = some (.int .i64 pk) := (HB1.out.cell (by exact hz)).trans c5; have f6 : w1.cell? ⟨w.heap.size, 6, none⟩ = some (.int .i64 h) := (HB1.out.cell (by exact hz)).trans c6; have f7 : w1.cell? ⟨w.heap.size, 7, none⟩ = some (.bool g) := (HB1.out.cell (by exact hz)).trans c7; obtain ⟨a1, n1, c1, rfl⟩ := o1.slice'; clear g1 o1))
          go_ret
          refine ⟨⟨_, rfl, ?_⟩, HB0.out.trans (HB3.out.mono HB0.out.size)⟩
          have o9 := HO3.out.mono (Nat.le_of_lt hz)
          rw [Dm.inn_eq, HPL.out]
          rw [HDR.out]
          simpa [List.append_assoc] using o9
end Go.Proofs.Ytfagldipjpaceaa
