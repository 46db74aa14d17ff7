/- The walks of levelsAlike and of slices.EqualFunc at levels. -/
import Derived.Test.YtnhpcknbnmhlhaaSameOrders
import Derived.Test.YtnhpcknbnmhlhaaLevelKit
namespace Go.Proofs.Ytnhpcknbnmhlhaa
open Go.RowKit
set_option linter.unusedVariables false
set_option linter.unusedSimpArgs false
set_option maxRecDepth 100000 in
set_option maxHeartbeats 8000000 in
theorem levelsAlike_any (p q : Int) (v u : Value) (F G : List Or.E) (w : World) (h0 : Rk.View Or.S w v F) (h1 : Rk.View Or.S w u G) (l0 : F.length ≤ 2097152) (l1 : G.length ≤ 2097152) :
    Calls Try.prog 36 #[.agg #[.int .i64 p, v], .agg #[.int .i64 q, u]] w fun e w' => e = .returned (.bool (decide (((p, F) : Lv.E) = (q, G)))) ∧ Below w.heap.size w w' := by
  obtain ⟨W, hW⟩ : ∃ W, W = (w.alloc (.cells #[.int .i64 p, v] 76)).alloc (.cells #[.int .i64 q, u] 76) := ⟨_, rfl⟩
  have b0 : Below w.heap.size w W := by
    rw [hW]
    repeat (first | exact Below.refl _ _ | refine Below.alloc ?_ (by simp <;> omega) _)
  have hz : W.heap.size = w.heap.size + 2 := by rw [hW]; simp
  have c0 : W.cell? ⟨w.heap.size, 0, none⟩ = some (.int .i64 p) := by rw [hW, Fk.cellOld _ _ _ _ (by simp), Fk.cellTop _ _ _ _ _ rfl]; rfl
  have c1 : W.cell? ⟨w.heap.size, 1, none⟩ = some v := by rw [hW, Fk.cellOld _ _ _ _ (by simp), Fk.cellTop _ _ _ _ _ rfl]; rfl
  have d0 : W.cell? ⟨w.heap.size + 1, 0, none⟩ = some (.int .i64 q) := by rw [hW, Fk.cellTop _ _ _ _ _ (by simp)]; rfl
  have d1 : W.cell? ⟨w.heap.size + 1, 1, none⟩ = some u := by rw [hW, Fk.cellTop _ _ _ _ _ (by simp)]; rfl
  have HU := Fk.hide (h0.below b0)
  have HV := Fk.hide (h1.below b0)
  have HB0 := Fk.hide b0
  have HW := Fk.hide hW
  obtain ⟨_, _, rfl, _⟩ := h0
  obtain ⟨_, _, rfl, _⟩ := h1
  clear hW b0 hz
  by_cases hpq : p = q
  · subst hpq
    have HE : Hid (decide (((p, F) : Lv.E) = (p, G)) = decide (F = G)) := by show _ = _; rw [decide_eq_decide]; constructor <;> intro h <;> simp_all
    go_enter Try.func36, Try.ntmps36
    go_wp2_with fail
    rw [← HW.out]
    refine (slicesEqual_any _ _ F G _ HU.out HV.out l0 l1).mono ?_
    rintro e w2 ⟨rfl, k2⟩
    have HB2 : Hid (Below w.heap.size w w2) := HB0.out.trans (k2.mono HB0.out.size)
    clear k2
    obtain ⟨r, hr⟩ : ∃ r, r = decide (F = G) := ⟨_, rfl⟩
    rw [← hr]
    have HR := Fk.hide hr
    clear hr
    go_wp2_with fail
    go_ret
    exact ⟨by rw [HE.out, ← HR.out]; rfl, HB2.out⟩
  · have HE : Hid (decide (((p, F) : Lv.E) = (q, G)) = false) := decide_eq_false (fun e => hpq (by simp only [Prod.mk.injEq] at e; exact e.1))
    have x1 : decide (p = q) = false := decide_eq_false hpq
    have x2 : (p == q) = false := by simpa using hpq
    go_enter Try.func36, Try.ntmps36
    go_wp2_with fail
    rw [← HW.out]
    go_ret
    exact ⟨by rw [HE.out]; rfl, HB0.out⟩
theorem Lv.list_ext (F G : List Lv.E) (hl : F.length = G.length) (h : ∀ i, i < F.length → Lv.at' F i = Lv.at' G i) : F = G := by
  apply List.ext_getElem hl
  intro i h1 h2
  have := h i h1
  rw [Lv.at_get _ _ h1, Lv.at_get _ _ h2] at this
  exact this
set_option maxRecDepth 100000 in
set_option maxHeartbeats 8000000 in
theorem equalFunc_any (v0 v1 : Value) (P M : List Lv.E) (w : World) (h0 : Lv.View w v0 P) (h1 : Lv.View w v1 M) (l0 : P.length ≤ 1048576) (l1 : M.length ≤ 1048576) (m0 : ∀ i, i < P.length → (Lv.at' P i).2.length ≤ 1048576) (m1 : ∀ i, i < M.length → (Lv.at' M i).2.length ≤ 1048576) :
    Calls Try.prog 35 #[v0, v1, .func (.func 36) #[] #[]] w fun e w' => e = .returned (.bool (decide (P = M))) ∧ Below w.heap.size w w' := by
  have H0 := Fk.hide h0
  have H1 := Fk.hide h1
  have M0 := Fk.hide m0
  have M1 := Fk.hide m1
  obtain ⟨a, cap, rfl⟩ := h0.slice
  obtain ⟨a2, cap2, rfl⟩ := h1.slice
  clear h0 h1 m0 m1
  by_cases hle : P.length = M.length
  · obtain ⟨n, hn⟩ : ∃ n, n = P.length := ⟨_, rfl⟩
    have hn2 : M.length = n := by omega
    rw [← hn] at H0 l0 ⊢
    rw [hn2] at H1 l1 ⊢
    have HN := Fk.hide hn
    have HN2 := Fk.hide hn2
    clear hn hn2 hle
    go_enter Try.func35, Try.ntmps35
    go_wp2_with fail
    go_loopw [17] (fun i wr => ∃ k : Nat, k ≤ n ∧ i = .int .i64 k ∧ Hid (∀ i, i < k → Lv.at' P i = Lv.at' M i) ∧ Hid (Below w.heap.size w wr)) (fun i _ => n - (intOf i).toNat)
    case atStart => exact ⟨0, Nat.zero_le _, rfl, (fun i hi => absurd hi (by omega)), Below.refl _ _⟩
    case round =>
      obtain ⟨k, hk, rfl, HK, HB⟩ := hrel
      by_cases hlt : k < n
      · obtain ⟨b, o, q, x, c, rfl, hb, p0, p1, hx, hvi, _⟩ := (H0.out.below HB.out).at (i := k) (by have := HN.out; omega)
        obtain ⟨b2, o2, q2, x2, c2, rfl, hb2, r0, r1, hx2, hvj, _⟩ := (H1.out.below HB.out).at (i := k) (by have := HN2.out; omega)
        obtain ⟨⟨pp, FF⟩, he⟩ : ∃ e, e = Lv.at' P k := ⟨_, rfl⟩
        obtain ⟨⟨qq, GG⟩, hf⟩ : ∃ e, e = Lv.at' M k := ⟨_, rfl⟩
        rw [← he] at p0 hx hvi
        rw [← hf] at r0 hx2 hvj
        simp only at p0 r0 hx hx2 hvi hvj
        have HFl : Hid (FF.length ≤ 2097152) := by have := M0.out k (by have := HN.out; omega); rw [← he] at this; show _ ≤ _; simp only at this; omega
        have HGl : Hid (GG.length ≤ 2097152) := by have := M1.out k (by have := HN2.out; omega); rw [← hf] at this; show _ ≤ _; simp only at this; omega
        have HP := Fk.hide he
        have HQ := Fk.hide hf
        obtain ⟨X, hX⟩ : ∃ X, X = (wr.alloc (.cells #[.int .i64 pp, .slice q x c] 76)).alloc (.cells #[.int .i64 qq, .slice q2 x2 c2] 76) := ⟨_, rfl⟩
        have bX : Below wr.heap.size wr X := by
          rw [hX]
          repeat (first | exact Below.refl _ _ | refine Below.alloc ?_ (by simp <;> omega) _)
        have HBX : Hid (Below w.heap.size w X) := HB.out.trans (bX.mono HB.out.size)
        have HVI := Fk.hide (hvi.below bX)
        have HVJ := Fk.hide (hvj.below bX)
        have HX := Fk.hide hX
        have hba : b < wr.heap.size := hb
        have r0' : (wr.alloc (.cells #[.int .i64 pp, .slice q x c] 76)).cell? ⟨b2, o2 + k * 2, none⟩ = some (.int .i64 qq) := (Fk.cellOld _ _ _ _ hb2).trans r0
        have r1' : (wr.alloc (.cells #[.int .i64 pp, .slice q x c] 76)).cell? ⟨b2, o2 + k * 2 + 1, none⟩ = some (.slice q2 x2 c2) := (Fk.cellOld _ _ _ _ hb2).trans r1
        clear he hf hvi hvj hx hx2 bX hX
        go_wp2_with fail
        rw [← HX.out]
        refine (levelsAlike_any pp qq _ _ FF GG _ HVI.out HVJ.out HFl.out HGl.out).mono ?_
        rintro e w2 ⟨rfl, k2⟩
        have HB2 : Hid (Below w.heap.size w w2) := HBX.out.trans (k2.mono HBX.out.size)
        clear k2 p0 p1 r0 r1 r0' r1'
        by_cases heq : ((pp, FF) : Lv.E) = (qq, GG)
        · rw [decide_eq_true heq]
          have HK2 : Hid (∀ i, i < k + 1 → Lv.at' P i = Lv.at' M i) := fun i hi => by
            by_cases c : i < k
            · exact HK.out i c
            · rw [show i = k by omega, ← HP.out, ← HQ.out]; exact heq
          clear heq
          go_wp2_with fail
          go_roundw
          case rel => exact ⟨k + 1, by omega, by go_num, HK2, HB2⟩
          case measure => simp [intOf]; omega
        · rw [decide_eq_false heq]
          have HE : Hid (decide (P = M) = false) := decide_eq_false (fun e => heq (by rw [HP.out, HQ.out, e]))
          clear heq
          go_wp2_with fail
          go_ret
          exact ⟨by rw [HE.out]; rfl, HB2.out⟩
      · have e : k = n := by omega
        subst e
        have HE : Hid (decide (P = M) = true) := decide_eq_true (Lv.list_ext P M (by rw [← HN.out, HN2.out]) (fun i hi => HK.out i (by rw [HN.out]; exact hi)))
        go_wp2_with fail
        go_ret
        exact ⟨by rw [HE.out]; rfl, HB.out⟩
  · have HE : Hid (decide (P = M) = false) := decide_eq_false (fun e => hle (by rw [e]))
    have d1 : ¬ ((P.length : Int) = (M.length : Int)) := by omega
    have d2 : ((P.length : Int) == (M.length : Int)) = false := by rw [beq_eq_false_iff_ne]; exact d1
    have d3 : decide ((P.length : Int) = (M.length : Int)) = false := decide_eq_false d1
    go_enter Try.func35, Try.ntmps35
    go_wp2_with fail
    go_ret
    exact ⟨by rw [HE.out]; rfl, Below.refl _ _⟩
end Go.Proofs.Ytnhpcknbnmhlhaa
