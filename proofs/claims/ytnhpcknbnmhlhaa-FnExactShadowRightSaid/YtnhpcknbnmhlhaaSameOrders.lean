/- The walks of l09Same and of slices.Equal at orders: two lists compared. -/
import Derived.Test.YtnhpcknbnmhlhaaLevelsMath
import Derived.Test.YtnhpcknbnmhlhaaProg
import Derived.WalkKit
import Derived.WalkSpells
import Derived.WalkLawsBesides
import Derived.BigQuiet
import Derived.BigRegion
import Derived.Deep.RegionWith
namespace Go.Proofs.Ytnhpcknbnmhlhaa
open Go.RowKit
set_option linter.unusedVariables false
set_option linter.unusedSimpArgs false
theorem Ob.list_ext (F G : List Or.E) (hl : F.length = G.length) (h : ∀ i, i < F.length → Ob.at' F i = Ob.at' G i) : F = G := by
  apply List.ext_getElem hl
  intro i h1 h2
  have := h i h1
  simp only [Ob.at'] at this
  rw [Rk.at_get _ _ h1, Rk.at_get _ _ h2] at this
  exact this
set_option maxRecDepth 100000 in
set_option maxHeartbeats 8000000 in
theorem l09Same_any (v0 v1 : Value) (F G : List Or.E) (w : World) (h0 : Rk.View Or.S w v0 F) (h1 : Rk.View Or.S w v1 G) (l0 : F.length ≤ 2097152) (l1 : G.length ≤ 2097152) :
    Calls Try.prog 30 #[v0, v1] w fun e w' => e = .returned (.bool (decide (F = G))) ∧ Below w.heap.size w w' := by
  obtain ⟨a, cap, rfl, hs0⟩ := h0
  obtain ⟨a2, cap2, rfl, hs1⟩ := h1
  by_cases hle : F.length = G.length
  · obtain ⟨n, hn⟩ : ∃ n, n = F.length := ⟨_, rfl⟩
    have hn2 : G.length = n := by omega
    rw [← hn] at hs0 l0 ⊢
    rw [hn2] at hs1 l1 ⊢
    have HN := Fk.hide hn
    have HN2 := Fk.hide hn2
    clear hn hn2 hle
    go_enter Try.func30, Try.ntmps30
    go_wp2_with fail
    go_loopw [5] (fun i wr => ∃ k : Nat, k ≤ n ∧ i = .int .i64 k ∧ Hid (∀ i, i < k → Ob.at' F i = Ob.at' G i) ∧ Hid (Below w.heap.size w wr)) (fun i _ => n - (intOf i).toNat)
    case atStart => exact ⟨0, Nat.zero_le _, rfl, (fun i hi => absurd hi (by omega)), Below.refl _ _⟩
    case round =>
      obtain ⟨k, hk, rfl, HK, HB⟩ := hrel
      by_cases hlt : k < n
      · obtain ⟨b, o, rfl, hb, hsa⟩ := hs0 (by omega)
        obtain ⟨b2, o2, rfl, hb2, hsb⟩ := hs1 (by omega)
        have s0 := hsa.below hb HB.out
        have s1 := hsb.below hb2 HB.out
        have k0 : k < F.length := by have := HN.out; omega
        have k1 : k < G.length := by have := HN2.out; omega
        obtain ⟨⟨i, ow, pr, am, dy, pk, hd, gd⟩, hx⟩ : ∃ x, x = Ob.at' F k := ⟨_, rfl⟩
        obtain ⟨⟨i2, ow2, pr2, am2, dy2, pk2, hd2, gd2⟩, hy⟩ : ∃ x, x = Ob.at' G k := ⟨_, rfl⟩
        have q0 : wr.cell? ⟨b, o + k * 8, none⟩ = some (.int .i64 i) := by have := Or.c0 s0 k0; rw [show Rk.at_ Or.S F k = _ from hx.symm] at this; exact this
        have q1 : wr.cell? ⟨b, o + k * 8 + 1, none⟩ = some (.int .i64 ow) := by have := Or.c1 s0 k0; rw [show Rk.at_ Or.S F k = _ from hx.symm] at this; exact this
        have q2 : wr.cell? ⟨b, o + k * 8 + 2, none⟩ = some (.int .i64 pr) := by have := Or.c2 s0 k0; rw [show Rk.at_ Or.S F k = _ from hx.symm] at this; exact this
        have q3 : wr.cell? ⟨b, o + k * 8 + 3, none⟩ = some (.int .i64 am) := by have := Or.c3 s0 k0; rw [show Rk.at_ Or.S F k = _ from hx.symm] at this; exact this
        have q4 : wr.cell? ⟨b, o + k * 8 + 4, none⟩ = some (.bool dy) := by have := Or.c4 s0 k0; rw [show Rk.at_ Or.S F k = _ from hx.symm] at this; exact this
        have q5 : wr.cell? ⟨b, o + k * 8 + 5, none⟩ = some (.int .i64 pk) := by have := Or.c5 s0 k0; rw [show Rk.at_ Or.S F k = _ from hx.symm] at this; exact this
        have q6 : wr.cell? ⟨b, o + k * 8 + 6, none⟩ = some (.int .i64 hd) := by have := Or.c6 s0 k0; rw [show Rk.at_ Or.S F k = _ from hx.symm] at this; exact this
        have q7 : wr.cell? ⟨b, o + k * 8 + 7, none⟩ = some (.bool gd) := by have := Or.c7 s0 k0; rw [show Rk.at_ Or.S F k = _ from hx.symm] at this; exact this
        have t0 : wr.cell? ⟨b2, o2 + k * 8, none⟩ = some (.int .i64 i2) := by have := Or.c0 s1 k1; rw [show Rk.at_ Or.S G k = _ from hy.symm] at this; exact this
        have t1 : wr.cell? ⟨b2, o2 + k * 8 + 1, none⟩ = some (.int .i64 ow2) := by have := Or.c1 s1 k1; rw [show Rk.at_ Or.S G k = _ from hy.symm] at this; exact this
        have t2 : wr.cell? ⟨b2, o2 + k * 8 + 2, none⟩ = some (.int .i64 pr2) := by have := Or.c2 s1 k1; rw [show Rk.at_ Or.S G k = _ from hy.symm] at this; exact this
        have t3 : wr.cell? ⟨b2, o2 + k * 8 + 3, none⟩ = some (.int .i64 am2) := by have := Or.c3 s1 k1; rw [show Rk.at_ Or.S G k = _ from hy.symm] at this; exact this
        have t4 : wr.cell? ⟨b2, o2 + k * 8 + 4, none⟩ = some (.bool dy2) := by have := Or.c4 s1 k1; rw [show Rk.at_ Or.S G k = _ from hy.symm] at this; exact this
        have t5 : wr.cell? ⟨b2, o2 + k * 8 + 5, none⟩ = some (.int .i64 pk2) := by have := Or.c5 s1 k1; rw [show Rk.at_ Or.S G k = _ from hy.symm] at this; exact this
        have t6 : wr.cell? ⟨b2, o2 + k * 8 + 6, none⟩ = some (.int .i64 hd2) := by have := Or.c6 s1 k1; rw [show Rk.at_ Or.S G k = _ from hy.symm] at this; exact this
        have t7 : wr.cell? ⟨b2, o2 + k * 8 + 7, none⟩ = some (.bool gd2) := by have := Or.c7 s1 k1; rw [show Rk.at_ Or.S G k = _ from hy.symm] at this; exact this
        have HX := Fk.hide hx
        have HY := Fk.hide hy
        clear hx hy s0 s1 k0 k1
        have HBD : Hid (Below w.heap.size w wr.drew) := HB.out.trans ((Below.drew (Below.refl _ _)).mono HB.out.size)
        by_cases e0 : i2 = i
        case neg =>
          have d1 : decide (i = i2) = false := decide_eq_false (fun e => e0 e.symm)
          have d2 : (i == i2) = false := by rw [beq_eq_false_iff_ne]; exact fun e => e0 e.symm
          have d3 : ¬ i = i2 := fun e => e0 e.symm
          have HE : Hid (decide (F = G) = false) := decide_eq_false (fun e => e0 (by have h1 := HX.out; have h2 := HY.out; rw [e, ← h2] at h1; simp only [Prod.mk.injEq] at h1; exact h1.1.symm))
          clear e0
          go_wp2_with fail
          go_region
          all_goals
            go_wp2_with fail
            go_ret
            exact ⟨by rw [HE.out]; rfl, HBD.out⟩
        subst e0
        by_cases e1 : ow2 = ow
        case neg =>
          have d1 : decide (ow = ow2) = false := decide_eq_false (fun e => e1 e.symm)
          have d2 : (ow == ow2) = false := by rw [beq_eq_false_iff_ne]; exact fun e => e1 e.symm
          have d3 : ¬ ow = ow2 := fun e => e1 e.symm
          have HE : Hid (decide (F = G) = false) := decide_eq_false (fun e => e1 (by have h1 := HX.out; have h2 := HY.out; rw [e, ← h2] at h1; simp only [Prod.mk.injEq] at h1; exact h1.2.1.symm))
          clear e1
          go_wp2_with fail
          go_region
          all_goals
            go_wp2_with fail
            go_ret
            exact ⟨by rw [HE.out]; rfl, HBD.out⟩
        subst e1
        by_cases e2 : pr2 = pr
        case neg =>
          have d1 : decide (pr = pr2) = false := decide_eq_false (fun e => e2 e.symm)
          have d2 : (pr == pr2) = false := by rw [beq_eq_false_iff_ne]; exact fun e => e2 e.symm
          have d3 : ¬ pr = pr2 := fun e => e2 e.symm
          have HE : Hid (decide (F = G) = false) := decide_eq_false (fun e => e2 (by have h1 := HX.out; have h2 := HY.out; rw [e, ← h2] at h1; simp only [Prod.mk.injEq] at h1; exact h1.2.2.1.symm))
          clear e2
          go_wp2_with fail
          go_region
          all_goals
            go_wp2_with fail
            go_ret
            exact ⟨by rw [HE.out]; rfl, HBD.out⟩
        subst e2
        by_cases e3 : am2 = am
        case neg =>
          have d1 : decide (am = am2) = false := decide_eq_false (fun e => e3 e.symm)
          have d2 : (am == am2) = false := by rw [beq_eq_false_iff_ne]; exact fun e => e3 e.symm
          have d3 : ¬ am = am2 := fun e => e3 e.symm
          have HE : Hid (decide (F = G) = false) := decide_eq_false (fun e => e3 (by have h1 := HX.out; have h2 := HY.out; rw [e, ← h2] at h1; simp only [Prod.mk.injEq] at h1; exact h1.2.2.2.1.symm))
          clear e3
          go_wp2_with fail
          go_region
          all_goals
            go_wp2_with fail
            go_ret
            exact ⟨by rw [HE.out]; rfl, HBD.out⟩
        subst e3
        by_cases e4 : dy2 = dy
        case neg =>
          have d1 : decide (dy = dy2) = false := decide_eq_false (fun e => e4 e.symm)
          have d2 : (dy == dy2) = false := by rw [beq_eq_false_iff_ne]; exact fun e => e4 e.symm
          have d3 : ¬ dy = dy2 := fun e => e4 e.symm
          have HE : Hid (decide (F = G) = false) := decide_eq_false (fun e => e4 (by have h1 := HX.out; have h2 := HY.out; rw [e, ← h2] at h1; simp only [Prod.mk.injEq] at h1; exact h1.2.2.2.2.1.symm))
          clear e4
          go_wp2_with fail
          go_region
          all_goals
            go_wp2_with fail
            go_ret
            exact ⟨by rw [HE.out]; rfl, HBD.out⟩
        subst e4
        by_cases e5 : pk2 = pk
        case neg =>
          have d1 : decide (pk = pk2) = false := decide_eq_false (fun e => e5 e.symm)
          have d2 : (pk == pk2) = false := by rw [beq_eq_false_iff_ne]; exact fun e => e5 e.symm
          have d3 : ¬ pk = pk2 := fun e => e5 e.symm
          have HE : Hid (decide (F = G) = false) := decide_eq_false (fun e => e5 (by have h1 := HX.out; have h2 := HY.out; rw [e, ← h2] at h1; simp only [Prod.mk.injEq] at h1; exact h1.2.2.2.2.2.1.symm))
          clear e5
          go_wp2_with fail
          go_region
          all_goals
            go_wp2_with fail
            go_ret
            exact ⟨by rw [HE.out]; rfl, HBD.out⟩
        subst e5
        by_cases e6 : hd2 = hd
        case neg =>
          have d1 : decide (hd = hd2) = false := decide_eq_false (fun e => e6 e.symm)
          have d2 : (hd == hd2) = false := by rw [beq_eq_false_iff_ne]; exact fun e => e6 e.symm
          have d3 : ¬ hd = hd2 := fun e => e6 e.symm
          have HE : Hid (decide (F = G) = false) := decide_eq_false (fun e => e6 (by have h1 := HX.out; have h2 := HY.out; rw [e, ← h2] at h1; simp only [Prod.mk.injEq] at h1; exact h1.2.2.2.2.2.2.1.symm))
          clear e6
          go_wp2_with fail
          go_region
          all_goals
            go_wp2_with fail
            go_ret
            exact ⟨by rw [HE.out]; rfl, HBD.out⟩
        subst e6
        by_cases e7 : gd2 = gd
        case neg =>
          have d1 : decide (gd = gd2) = false := decide_eq_false (fun e => e7 e.symm)
          have d2 : (gd == gd2) = false := by rw [beq_eq_false_iff_ne]; exact fun e => e7 e.symm
          have d3 : ¬ gd = gd2 := fun e => e7 e.symm
          have HE : Hid (decide (F = G) = false) := decide_eq_false (fun e => e7 (by have h1 := HX.out; have h2 := HY.out; rw [e, ← h2] at h1; simp only [Prod.mk.injEq] at h1; exact h1.2.2.2.2.2.2.2.symm))
          clear e7
          go_wp2_with fail
          go_region
          all_goals
            go_wp2_with fail
            go_ret
            exact ⟨by rw [HE.out]; rfl, HBD.out⟩
        subst e7
        have HK2 : Hid (∀ i, i < k + 1 → Ob.at' F i = Ob.at' G i) := fun i' hi => by
          by_cases c : i' < k
          · exact HK.out i' c
          · rw [show i' = k by omega, ← HX.out, ← HY.out]
        go_wp2_with fail
        go_region
        all_goals
          go_wp2_with fail
          go_roundw
          case rel => exact ⟨k + 1, by omega, by go_num, HK2, HBD⟩
          case measure => simp [intOf]; omega
      · have e : k = n := by omega
        subst e
        have HE : Hid (decide (F = G) = true) := decide_eq_true (Ob.list_ext F G (by rw [← HN.out, HN2.out]) (fun i hi => HK.out i (by rw [HN.out]; exact hi)))
        go_wp2_with fail
        go_ret
        exact ⟨by rw [HE.out]; rfl, HB.out⟩
  · have HE : Hid (decide (F = G) = false) := decide_eq_false (fun e => hle (by rw [e]))
    have d1 : ¬ ((F.length : Int) = (G.length : Int)) := by omega
    have d2 : ((F.length : Int) == (G.length : Int)) = false := by rw [beq_eq_false_iff_ne]; exact d1
    have d3 : decide ((F.length : Int) = (G.length : Int)) = false := decide_eq_false d1
    clear hs0 hs1
    go_enter Try.func30, Try.ntmps30
    go_wp2_with fail
    go_ret
    exact ⟨by rw [HE.out]; rfl, Below.refl _ _⟩
set_option maxRecDepth 100000 in
set_option maxHeartbeats 8000000 in
theorem slicesEqual_any (v0 v1 : Value) (F G : List Or.E) (w : World) (h0 : Rk.View Or.S w v0 F) (h1 : Rk.View Or.S w v1 G) (l0 : F.length ≤ 2097152) (l1 : G.length ≤ 2097152) :
    Calls Try.prog 49 #[v0, v1] w fun e w' => e = .returned (.bool (decide (F = G))) ∧ Below w.heap.size w w' := by
  obtain ⟨a, cap, rfl, hs0⟩ := h0
  obtain ⟨a2, cap2, rfl, hs1⟩ := h1
  by_cases hle : F.length = G.length
  · obtain ⟨n, hn⟩ : ∃ n, n = F.length := ⟨_, rfl⟩
    have hn2 : G.length = n := by omega
    rw [← hn] at hs0 l0 ⊢
    rw [hn2] at hs1 l1 ⊢
    have HN := Fk.hide hn
    have HN2 := Fk.hide hn2
    clear hn hn2 hle
    go_enter Try.func49, Try.ntmps49
    go_wp2_with fail
    go_loopw [13] (fun i wr => ∃ k : Nat, k ≤ n ∧ i = .int .i64 k ∧ Hid (∀ i, i < k → Ob.at' F i = Ob.at' G i) ∧ Hid (Below w.heap.size w wr)) (fun i _ => n - (intOf i).toNat)
    case atStart => exact ⟨0, Nat.zero_le _, rfl, (fun i hi => absurd hi (by omega)), Below.refl _ _⟩
    case round =>
      obtain ⟨k, hk, rfl, HK, HB⟩ := hrel
      by_cases hlt : k < n
      · obtain ⟨b, o, rfl, hb, hsa⟩ := hs0 (by omega)
        obtain ⟨b2, o2, rfl, hb2, hsb⟩ := hs1 (by omega)
        have s0 := hsa.below hb HB.out
        have s1 := hsb.below hb2 HB.out
        have k0 : k < F.length := by have := HN.out; omega
        have k1 : k < G.length := by have := HN2.out; omega
        obtain ⟨⟨i, ow, pr, am, dy, pk, hd, gd⟩, hx⟩ : ∃ x, x = Ob.at' F k := ⟨_, rfl⟩
        obtain ⟨⟨i2, ow2, pr2, am2, dy2, pk2, hd2, gd2⟩, hy⟩ : ∃ x, x = Ob.at' G k := ⟨_, rfl⟩
        have q0 : wr.cell? ⟨b, o + k * 8, none⟩ = some (.int .i64 i) := by have := Or.c0 s0 k0; rw [show Rk.at_ Or.S F k = _ from hx.symm] at this; exact this
        have q1 : wr.cell? ⟨b, o + k * 8 + 1, none⟩ = some (.int .i64 ow) := by have := Or.c1 s0 k0; rw [show Rk.at_ Or.S F k = _ from hx.symm] at this; exact this
        have q2 : wr.cell? ⟨b, o + k * 8 + 2, none⟩ = some (.int .i64 pr) := by have := Or.c2 s0 k0; rw [show Rk.at_ Or.S F k = _ from hx.symm] at this; exact this
        have q3 : wr.cell? ⟨b, o + k * 8 + 3, none⟩ = some (.int .i64 am) := by have := Or.c3 s0 k0; rw [show Rk.at_ Or.S F k = _ from hx.symm] at this; exact this
        have q4 : wr.cell? ⟨b, o + k * 8 + 4, none⟩ = some (.bool dy) := by have := Or.c4 s0 k0; rw [show Rk.at_ Or.S F k = _ from hx.symm] at this; exact this
        have q5 : wr.cell? ⟨b, o + k * 8 + 5, none⟩ = some (.int .i64 pk) := by have := Or.c5 s0 k0; rw [show Rk.at_ Or.S F k = _ from hx.symm] at this; exact this
        have q6 : wr.cell? ⟨b, o + k * 8 + 6, none⟩ = some (.int .i64 hd) := by have := Or.c6 s0 k0; rw [show Rk.at_ Or.S F k = _ from hx.symm] at this; exact this
        have q7 : wr.cell? ⟨b, o + k * 8 + 7, none⟩ = some (.bool gd) := by have := Or.c7 s0 k0; rw [show Rk.at_ Or.S F k = _ from hx.symm] at this; exact this
        have t0 : wr.cell? ⟨b2, o2 + k * 8, none⟩ = some (.int .i64 i2) := by have := Or.c0 s1 k1; rw [show Rk.at_ Or.S G k = _ from hy.symm] at this; exact this
        have t1 : wr.cell? ⟨b2, o2 + k * 8 + 1, none⟩ = some (.int .i64 ow2) := by have := Or.c1 s1 k1; rw [show Rk.at_ Or.S G k = _ from hy.symm] at this; exact this
        have t2 : wr.cell? ⟨b2, o2 + k * 8 + 2, none⟩ = some (.int .i64 pr2) := by have := Or.c2 s1 k1; rw [show Rk.at_ Or.S G k = _ from hy.symm] at this; exact this
        have t3 : wr.cell? ⟨b2, o2 + k * 8 + 3, none⟩ = some (.int .i64 am2) := by have := Or.c3 s1 k1; rw [show Rk.at_ Or.S G k = _ from hy.symm] at this; exact this
        have t4 : wr.cell? ⟨b2, o2 + k * 8 + 4, none⟩ = some (.bool dy2) := by have := Or.c4 s1 k1; rw [show Rk.at_ Or.S G k = _ from hy.symm] at this; exact this
        have t5 : wr.cell? ⟨b2, o2 + k * 8 + 5, none⟩ = some (.int .i64 pk2) := by have := Or.c5 s1 k1; rw [show Rk.at_ Or.S G k = _ from hy.symm] at this; exact this
        have t6 : wr.cell? ⟨b2, o2 + k * 8 + 6, none⟩ = some (.int .i64 hd2) := by have := Or.c6 s1 k1; rw [show Rk.at_ Or.S G k = _ from hy.symm] at this; exact this
        have t7 : wr.cell? ⟨b2, o2 + k * 8 + 7, none⟩ = some (.bool gd2) := by have := Or.c7 s1 k1; rw [show Rk.at_ Or.S G k = _ from hy.symm] at this; exact this
        have HX := Fk.hide hx
        have HY := Fk.hide hy
        clear hx hy s0 s1 k0 k1
        have HBD : Hid (Below w.heap.size w wr.drew) := HB.out.trans ((Below.drew (Below.refl _ _)).mono HB.out.size)
        by_cases e0 : i2 = i
        case neg =>
          have d1 : decide (i = i2) = false := decide_eq_false (fun e => e0 e.symm)
          have d2 : (i == i2) = false := by rw [beq_eq_false_iff_ne]; exact fun e => e0 e.symm
          have d3 : ¬ i = i2 := fun e => e0 e.symm
          have HE : Hid (decide (F = G) = false) := decide_eq_false (fun e => e0 (by have h1 := HX.out; have h2 := HY.out; rw [e, ← h2] at h1; simp only [Prod.mk.injEq] at h1; exact h1.1.symm))
          clear e0
          go_wp2_with fail
          go_region
          all_goals
            go_wp2_with fail
            go_ret
            exact ⟨by rw [HE.out]; rfl, HBD.out⟩
        subst e0
        by_cases e1 : ow2 = ow
        case neg =>
          have d1 : decide (ow = ow2) = false := decide_eq_false (fun e => e1 e.symm)
          have d2 : (ow == ow2) = false := by rw [beq_eq_false_iff_ne]; exact fun e => e1 e.symm
          have d3 : ¬ ow = ow2 := fun e => e1 e.symm
          have HE : Hid (decide (F = G) = false) := decide_eq_false (fun e => e1 (by have h1 := HX.out; have h2 := HY.out; rw [e, ← h2] at h1; simp only [Prod.mk.injEq] at h1; exact h1.2.1.symm))
          clear e1
          go_wp2_with fail
          go_region
          all_goals
            go_wp2_with fail
            go_ret
            exact ⟨by rw [HE.out]; rfl, HBD.out⟩
        subst e1
        by_cases e2 : pr2 = pr
        case neg =>
          have d1 : decide (pr = pr2) = false := decide_eq_false (fun e => e2 e.symm)
          have d2 : (pr == pr2) = false := by rw [beq_eq_false_iff_ne]; exact fun e => e2 e.symm
          have d3 : ¬ pr = pr2 := fun e => e2 e.symm
          have HE : Hid (decide (F = G) = false) := decide_eq_false (fun e => e2 (by have h1 := HX.out; have h2 := HY.out; rw [e, ← h2] at h1; simp only [Prod.mk.injEq] at h1; exact h1.2.2.1.symm))
          clear e2
          go_wp2_with fail
          go_region
          all_goals
            go_wp2_with fail
            go_ret
            exact ⟨by rw [HE.out]; rfl, HBD.out⟩
        subst e2
        by_cases e3 : am2 = am
        case neg =>
          have d1 : decide (am = am2) = false := decide_eq_false (fun e => e3 e.symm)
          have d2 : (am == am2) = false := by rw [beq_eq_false_iff_ne]; exact fun e => e3 e.symm
          have d3 : ¬ am = am2 := fun e => e3 e.symm
          have HE : Hid (decide (F = G) = false) := decide_eq_false (fun e => e3 (by have h1 := HX.out; have h2 := HY.out; rw [e, ← h2] at h1; simp only [Prod.mk.injEq] at h1; exact h1.2.2.2.1.symm))
          clear e3
          go_wp2_with fail
          go_region
          all_goals
            go_wp2_with fail
            go_ret
            exact ⟨by rw [HE.out]; rfl, HBD.out⟩
        subst e3
        by_cases e4 : dy2 = dy
        case neg =>
          have d1 : decide (dy = dy2) = false := decide_eq_false (fun e => e4 e.symm)
          have d2 : (dy == dy2) = false := by rw [beq_eq_false_iff_ne]; exact fun e => e4 e.symm
          have d3 : ¬ dy = dy2 := fun e => e4 e.symm
          have HE : Hid (decide (F = G) = false) := decide_eq_false (fun e => e4 (by have h1 := HX.out; have h2 := HY.out; rw [e, ← h2] at h1; simp only [Prod.mk.injEq] at h1; exact h1.2.2.2.2.1.symm))
          clear e4
          go_wp2_with fail
          go_region
          all_goals
            go_wp2_with fail
            go_ret
            exact ⟨by rw [HE.out]; rfl, HBD.out⟩
        subst e4
        by_cases e5 : pk2 = pk
        case neg =>
          have d1 : decide (pk = pk2) = false := decide_eq_false (fun e => e5 e.symm)
          have d2 : (pk == pk2) = false := by rw [beq_eq_false_iff_ne]; exact fun e => e5 e.symm
          have d3 : ¬ pk = pk2 := fun e => e5 e.symm
          have HE : Hid (decide (F = G) = false) := decide_eq_false (fun e => e5 (by have h1 := HX.out; have h2 := HY.out; rw [e, ← h2] at h1; simp only [Prod.mk.injEq] at h1; exact h1.2.2.2.2.2.1.symm))
          clear e5
          go_wp2_with fail
          go_region
          all_goals
            go_wp2_with fail
            go_ret
            exact ⟨by rw [HE.out]; rfl, HBD.out⟩
        subst e5
        by_cases e6 : hd2 = hd
        case neg =>
          have d1 : decide (hd = hd2) = false := decide_eq_false (fun e => e6 e.symm)
          have d2 : (hd == hd2) = false := by rw [beq_eq_false_iff_ne]; exact fun e => e6 e.symm
          have d3 : ¬ hd = hd2 := fun e => e6 e.symm
          have HE : Hid (decide (F = G) = false) := decide_eq_false (fun e => e6 (by have h1 := HX.out; have h2 := HY.out; rw [e, ← h2] at h1; simp only [Prod.mk.injEq] at h1; exact h1.2.2.2.2.2.2.1.symm))
          clear e6
          go_wp2_with fail
          go_region
          all_goals
            go_wp2_with fail
            go_ret
            exact ⟨by rw [HE.out]; rfl, HBD.out⟩
        subst e6
        by_cases e7 : gd2 = gd
        case neg =>
          have d1 : decide (gd = gd2) = false := decide_eq_false (fun e => e7 e.symm)
          have d2 : (gd == gd2) = false := by rw [beq_eq_false_iff_ne]; exact fun e => e7 e.symm
          have d3 : ¬ gd = gd2 := fun e => e7 e.symm
          have HE : Hid (decide (F = G) = false) := decide_eq_false (fun e => e7 (by have h1 := HX.out; have h2 := HY.out; rw [e, ← h2] at h1; simp only [Prod.mk.injEq] at h1; exact h1.2.2.2.2.2.2.2.symm))
          clear e7
          go_wp2_with fail
          go_region
          all_goals
            go_wp2_with fail
            go_ret
            exact ⟨by rw [HE.out]; rfl, HBD.out⟩
        subst e7
        have HK2 : Hid (∀ i, i < k + 1 → Ob.at' F i = Ob.at' G i) := fun i' hi => by
          by_cases c : i' < k
          · exact HK.out i' c
          · rw [show i' = k by omega, ← HX.out, ← HY.out]
        go_wp2_with fail
        go_region
        all_goals
          go_wp2_with fail
          go_roundw
          case rel => exact ⟨k + 1, by omega, by go_num, HK2, HBD⟩
          case measure => simp [intOf]; omega
      · have e : k = n := by omega
        subst e
        have HE : Hid (decide (F = G) = true) := decide_eq_true (Ob.list_ext F G (by rw [← HN.out, HN2.out]) (fun i hi => HK.out i (by rw [HN.out]; exact hi)))
        go_wp2_with fail
        go_ret
        exact ⟨by rw [HE.out]; rfl, HB.out⟩
  · have HE : Hid (decide (F = G) = false) := decide_eq_false (fun e => hle (by rw [e]))
    have d1 : ¬ ((F.length : Int) = (G.length : Int)) := by omega
    have d2 : ((F.length : Int) == (G.length : Int)) = false := by rw [beq_eq_false_iff_ne]; exact d1
    have d3 : decide ((F.length : Int) = (G.length : Int)) = false := decide_eq_false d1
    clear hs0 hs1
    go_enter Try.func49, Try.ntmps49
    go_wp2_with fail
    go_ret
    exact ⟨by rw [HE.out]; rfl, Below.refl _ _⟩
end Go.Proofs.Ytnhpcknbnmhlhaa
