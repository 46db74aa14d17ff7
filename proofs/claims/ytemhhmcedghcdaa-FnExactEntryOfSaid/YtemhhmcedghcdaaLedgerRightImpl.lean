/- The walks of the program's question whether a ledger is right. -/
import Derived.Test.YtemhhmcedghcdaaProg
import Derived.Test.YtemhhmcedghcdaaLedgerMath
import Derived.Test.YtemhhmcedghcdaaCmdRightBase
import Derived.WalkKit
import Derived.WalkSpells
import Derived.WalkLawsBesides
import Derived.BigRegion
import Derived.BigQuiet
import Derived.Deep.RegionWith
import Derived.Lib.QuietBelow
namespace Go.Proofs.Ytemhhmcedghcdaa
open Go.RowKit
set_option linter.unusedVariables false
set_option linter.unusedSimpArgs false

set_option maxHeartbeats 4000000 in
theorem entryRight_any (o : En.E) (w : World) :
    Calls Try.prog 37 #[.agg #[.int .i64 o.1, .int .i64 o.2.1, .bool o.2.2.1, .int .i64 o.2.2.2.1, .int .i64 o.2.2.2.2.1, .int .i64 o.2.2.2.2.2.1, .int .i64 o.2.2.2.2.2.2]] w fun e w' => e = .returned (.bool (Lg.ok o)) ∧ Below w.heap.size w w' := by
  obtain ⟨id, ow, by', am, fi, cu, pa⟩ := o
  show Calls _ _ #[.agg #[.int .i64 id, .int .i64 ow, .bool by', .int .i64 am, .int .i64 fi, .int .i64 cu, .int .i64 pa]] w fun e w' => e = .returned (.bool (Lg.ok (id, ow, by', am, fi, cu, pa))) ∧ Below w.heap.size w w'
  have HB : Hid (∀ o, Below w.heap.size w (w.alloc o)) := fun o => (Below.refl w.heap.size w).alloc (Nat.le_refl _) o
  by_cases h0 : Cm.inn am 0 1000000 = true ∧ Cm.inn fi 0 am = true
  · obtain ⟨h1, h2⟩ := h0
    have n1 : 0 ≤ am ∧ am ≤ 1000000 := by simpa [Cm.inn] using h1
    have n2 : 0 ≤ fi ∧ fi ≤ am := by simpa [Cm.inn] using h2
    obtain ⟨m1, m2⟩ := n1
    obtain ⟨m3, m4⟩ := n2
    go_enter Try.func37, Try.ntmps37
    go_wp2_with (go_at_call 60; refine (within_any _ _ _ _).mono ?_; rintro e w' ⟨rfl, rfl⟩)
    all_goals
      go_ret
      refine ⟨?_, HB.out _⟩
      first | (rw [Lg.ok_last (by assumption) (by assumption) (by assumption) (by assumption) (by assumption) (by assumption)]; rfl) | (rw [show Lg.ok _ = Cm.inn pa 0 (10000 * fi) from by simp_all [Lg.ok, Cm.inn] <;> omega]; rfl) | (rw [show Lg.ok _ = false from by simp_all [Lg.ok, Cm.inn] <;> omega]; rfl)
  · have hx : Cm.inn am 0 1000000 = false ∨ (Cm.inn am 0 1000000 = true ∧ Cm.inn fi 0 am = false) := by
      cases h1 : Cm.inn am 0 1000000 <;> cases h2 : Cm.inn fi 0 am <;> simp_all
    clear h0
    rcases hx with h1 | ⟨h1, h2⟩
    all_goals
      go_enter Try.func37, Try.ntmps37
      go_wp2_with (go_at_call 60; refine (within_any _ _ _ _).mono ?_; rintro e w' ⟨rfl, rfl⟩)
    all_goals
      go_ret
      refine ⟨?_, HB.out _⟩
      first | (rw [Lg.ok_last (by assumption) (by assumption) (by assumption) (by assumption) (by assumption) (by assumption)]; rfl) | (rw [show Lg.ok _ = Cm.inn pa 0 (10000 * fi) from by simp_all [Lg.ok, Cm.inn] <;> omega]; rfl) | (rw [show Lg.ok _ = false from by simp_all [Lg.ok, Cm.inn] <;> omega]; rfl)

theorem entryBefore_any (a b : En.E) (w : World) :
    Calls Try.prog 39 #[.agg #[.int .i64 a.1, .int .i64 a.2.1, .bool a.2.2.1, .int .i64 a.2.2.2.1, .int .i64 a.2.2.2.2.1, .int .i64 a.2.2.2.2.2.1, .int .i64 a.2.2.2.2.2.2], .agg #[.int .i64 b.1, .int .i64 b.2.1, .bool b.2.2.1, .int .i64 b.2.2.2.1, .int .i64 b.2.2.2.2.1, .int .i64 b.2.2.2.2.2.1, .int .i64 b.2.2.2.2.2.2]] w fun e w' => e = .returned (.bool (decide (a.1 < b.1))) ∧ Below w.heap.size w w' := by
  have HB : Hid (∀ o p, Below w.heap.size w ((w.alloc o).alloc p)) := fun o p => ((Below.refl w.heap.size w).alloc (Nat.le_refl _) o).alloc (by simp) p
  go_enter Try.func39, Try.ntmps39
  go_wp2_with fail
  go_ret
  exact ⟨rfl, HB.out _ _⟩

set_option maxHeartbeats 2000000 in
theorem risesEntries_any (v : Value) (L : List En.E) (w : World) (hv : Rk.View En.S w v L) (hl : L.length ≤ 1048576) :
    Calls Try.prog 38 #[v, .func (.func 39) #[] #[]] w fun e w' => e = .returned (.bool (Lg.upAll L)) ∧ Below w.heap.size w w' := by
  obtain ⟨a, cap, rfl, hs⟩ := hv
  go_enter Try.func38, Try.ntmps38
  go_wp2_with fail
  go_loopw [5] (fun i wr => ∃ k : Nat, 1 ≤ k ∧ (k ≤ L.length ∨ k = 1) ∧ i = .int .i64 k ∧ Hid (∀ j, j < k → Lg.up L j = true) ∧ Below w.heap.size w wr) (fun i _ => L.length - (intOf i).toNat)
  case atStart => exact ⟨1, Nat.le_refl _, .inr rfl, rfl, (fun j hj => by have e : j = 0 := by omega
                                                                          subst e; rfl), Below.refl _ _⟩
  case round =>
    obtain ⟨k, hk1, hk, rfl, HK, bel⟩ := hrel
    by_cases hlt : k < L.length
    · obtain ⟨b, o, rfl, hb, hs1⟩ := hs (by omega)
      have hs' := hs1.below hb bel
      have q0 := En.c0 hs' hlt
      have q1 := En.c1 hs' hlt
      have q2 := En.c2 hs' hlt
      have q3 := En.c3 hs' hlt
      have q4 := En.c4 hs' hlt
      have q5 := En.c5 hs' hlt
      have q6 := En.c6 hs' hlt
      have p0 := En.c0 hs' (k := k - 1) (by omega)
      have p1 := En.c1 hs' (k := k - 1) (by omega)
      have p2 := En.c2 hs' (k := k - 1) (by omega)
      have p3 := En.c3 hs' (k := k - 1) (by omega)
      have p4 := En.c4 hs' (k := k - 1) (by omega)
      have p5 := En.c5 hs' (k := k - 1) (by omega)
      have p6 := En.c6 hs' (k := k - 1) (by omega)
      have hu : Lg.up L k = decide ((Lg.at' L (k - 1)).1 < (Lg.at' L k).1) := by
        have : ¬ k = 0 := by omega
        simp [Lg.up, this]
      obtain ⟨f, hf⟩ : ∃ f, f = Rk.at_ En.S L k := ⟨_, rfl⟩
      obtain ⟨g, hg⟩ : ∃ g, g = Rk.at_ En.S L (k - 1) := ⟨_, rfl⟩
      rw [← hf] at q0 q1 q2 q3 q4 q5 q6
      rw [← hg] at p0 p1 p2 p3 p4 p5 p6
      have fb : ∀ w', Calls Try.prog 39 #[.agg #[.int .i64 g.1, .int .i64 g.2.1, .bool g.2.2.1, .int .i64 g.2.2.2.1, .int .i64 g.2.2.2.2.1, .int .i64 g.2.2.2.2.2.1, .int .i64 g.2.2.2.2.2.2], .agg #[.int .i64 f.1, .int .i64 f.2.1, .bool f.2.2.1, .int .i64 f.2.2.2.1, .int .i64 f.2.2.2.2.1, .int .i64 f.2.2.2.2.2.1, .int .i64 f.2.2.2.2.2.2]] w' fun e w'' => e = .returned (.bool (decide (g.1 < f.1))) ∧ Below w'.heap.size w' w'' := fun w' => entryBefore_any g f w'
      obtain ⟨d, hd⟩ : ∃ d, d = decide (g.1 < f.1) := ⟨_, rfl⟩
      have HD : Hid (d = Lg.up L k) := by show _ = _; rw [hd, hu, hf, hg]
      rw [← hd] at fb
      have k2 : ((k : Int) - 1).toNat = k - 1 := by omega
      have k3 : (0 : Int) ≤ (k : Int) - 1 := by omega
      have k4 : (k : Int) - 1 < (L.length : Int) := by omega
      clear hf hg hd hu hs'
      have rq0 := cell_regrown q0
      have rq1 := cell_regrown q1
      have rq2 := cell_regrown q2
      have rq3 := cell_regrown q3
      have rq4 := cell_regrown q4
      have rq5 := cell_regrown q5
      have rq6 := cell_regrown q6
      have rp0 := cell_regrown p0
      have rp1 := cell_regrown p1
      have rp2 := cell_regrown p2
      have rp3 := cell_regrown p3
      have rp4 := cell_regrown p4
      have rp5 := cell_regrown p5
      have rp6 := cell_regrown p6
      go_wp2_with fail
      refine wp_region_quiet_below (by kernel_rfl) (by kernel_rfl) ?_
      repeat (go_big_quiet_step (exact Calls.regrown_of (fb _)))
      refine wpQuiet_nil ?_
      intro w4 hw'
      obtain ⟨⟨dq, osq⟩, hw''⟩ := hw'
      have b4 : Below w.heap.size w w4 := by rw [hw'']; exact bel.trans ((below_regrown wr dq osq).mono bel.size)
      clear hw'' fb
      cases d with
      | false =>
        have HA : Hid (Lg.upAll L = false) := Lg.upTo_no hlt HD.out.symm
        go_wp2_with fail
        go_ret
        exact ⟨by rw [HA.out]; rfl, b4⟩
      | true =>
        go_wp2_with fail
        go_roundw
        case rel =>
          refine ⟨k + 1, by omega, .inl (by omega), by go_num, (fun j hj => ?_), b4⟩
          by_cases e : j = k
          · rw [e]; exact HD.out.symm
          · exact HK.out j (by omega)
        case measure => simp [intOf]; omega
    · have HA : Hid (Lg.upAll L = true) := Lg.upTo_yes (fun i hi => HK.out i (by omega))
      go_wp2_with fail
      go_ret
      exact ⟨by rw [HA.out]; rfl, bel⟩

set_option maxHeartbeats 4000000 in
theorem ledgerRight_impl (v : Value) (L : List En.E) (w : World) (hv : Rk.View En.S w v L) (hl : L.length ≤ 1048576) :
    Calls Try.prog 12 #[v] w fun e w' => e = .returned (.bool (Lg.right L)) ∧ Below w.heap.size w w' := by
  have HV := Fk.hide hv
  obtain ⟨a, cap, rfl, hs⟩ := hv
  by_cases c : (60 : Int) < (L.length : Int)
  · have HF := Fk.hide (Lg.right_long c)
    go_enter Try.func12, Try.ntmps12
    go_wp2_with fail
    go_ret
    exact ⟨by rw [HF.out]; rfl, Below.refl _ _⟩
  have HC : Hid ((L.length : Int) ≤ 60) := by show _ ≤ _; omega
  go_enter Try.func12, Try.ntmps12
  go_wp2_with fail
  go_loopw [10] (fun i wr => ∃ k : Nat, k ≤ L.length ∧ i = .int .i64 k ∧ Hid (∀ j, j < k → Lg.ok (Lg.at' L j) = true) ∧ Below w.heap.size w wr) (fun i _ => L.length - (intOf i).toNat)
  case atStart => exact ⟨0, Nat.zero_le _, rfl, fun j hj => absurd hj (by omega), Below.refl _ _⟩
  case round =>
    obtain ⟨k, hk, rfl, HK, bel⟩ := hrel
    by_cases hlt : k < L.length
    · obtain ⟨b, o, rfl, hb, hs1⟩ := hs (by omega)
      have hs' := hs1.below hb bel
      have q0 := En.c0 hs' hlt
      have q1 := En.c1 hs' hlt
      have q2 := En.c2 hs' hlt
      have q3 := En.c3 hs' hlt
      have q4 := En.c4 hs' hlt
      have q5 := En.c5 hs' hlt
      have q6 := En.c6 hs' hlt
      obtain ⟨f, hf⟩ : ∃ f, f = Rk.at_ En.S L k := ⟨_, rfl⟩
      have HF := Fk.hide hf
      rw [← hf] at q0 q1 q2 q3 q4 q5 q6
      clear hf hs'
      have bX : Below w.heap.size w (wr.alloc (.cells #[.int .i64 f.1, .int .i64 f.2.1, .bool f.2.2.1, .int .i64 f.2.2.2.1, .int .i64 f.2.2.2.2.1, .int .i64 f.2.2.2.2.2.1, .int .i64 f.2.2.2.2.2.2] 47)) := bel.alloc bel.size _
      have HX := Fk.hide bX
      clear bX
      go_wp2_with fail
      refine (entryRight_any f _).mono ?_
      rintro e w2 ⟨rfl, k2⟩
      have HB2 : Hid (Below w.heap.size w w2) := HX.out.trans (k2.mono HX.out.size)
      clear k2 HX
      obtain ⟨r, hr⟩ : ∃ r, r = Lg.ok f := ⟨_, rfl⟩
      rw [← hr]
      have HR : Hid (r = Lg.ok (Lg.at' L k)) := by show _ = _; rw [hr, HF.out]
      clear hr q0 q1 q2 q3 q4 q5 q6
      cases r with
      | false =>
        have HA : Hid (Lg.right L = false) := Lg.right_ill (Lg.upTo_no hlt HR.out.symm)
        go_wp2_with fail
        go_ret
        exact ⟨by rw [HA.out]; rfl, HB2.out⟩
      | true =>
        go_wp2_with fail
        go_roundw
        case rel =>
          refine ⟨k + 1, by omega, by go_num, (fun j hj => ?_), HB2.out⟩
          by_cases e : j = k
          · rw [e]; exact HR.out.symm
          · exact HK.out j (by omega)
        case measure => simp [intOf]; omega
    · have e : k = L.length := by omega
      have HA : Hid (Lg.right L = Lg.upAll L) := Lg.right_of HC.out (Lg.upTo_yes fun i hi => HK.out i (by omega))
      have HBE := Fk.hide bel
      go_wp2_with fail
      refine (risesEntries_any _ L _ (HV.out.below ?_) hl).mono ?_
      · exact (HBE.out.mono (Nat.le_refl _))
      rintro e w2 ⟨rfl, k2⟩
      have HB2 : Hid (Below w.heap.size w w2) := HBE.out.trans (k2.mono HBE.out.size)
      clear k2
      go_wp2_with fail
      go_ret
      exact ⟨by rw [HA.out]; rfl, HB2.out⟩
end Go.Proofs.Ytemhhmcedghcdaa
