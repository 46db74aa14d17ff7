/- The walk of the specification's do: what a right command without Post does to the older book at work. -/
import Derived.Test.YtfagldipjpaceaaJoined5
import Derived.Test.YtfagldipjpaceaaBookChange
import Derived.Test.YtfagldipjpaceaaBookOrder
import Derived.Test.YtfagldipjpaceaaBookRoll
namespace Go.Proofs.Ytfagldipjpaceaa
open Go.RowKit
set_option linter.unusedVariables false
set_option linter.unusedSimpArgs false
/-- what a right command holds -/
theorem Cm.right_kinds {c : Cm.C} (h : Cm.right c = true) (hp : c.post = false) : ((c.kind = 1 ∧ (c.life = 0 ∨ c.life = 1 ∨ c.life = 2 ∨ c.life = 3)) ∨ (c.kind = 2 ∧ c.life = 0) ∨ c.kind = 3 ∨ c.kind = 4 ∨ c.kind = 5) ∧ (0 ≤ c.amount ∧ c.amount ≤ 1000) ∧ (0 ≤ c.peak ∧ c.peak ≤ 1000) := by
  obtain ⟨kind, owner, id, buy, price, amount, life, post, peak, guard⟩ := c
  simp only at hp
  subst hp
  simp only [Cm.right] at h
  by_cases h1 : kind = 1
  · rw [if_pos h1] at h
    simp only [Cm.limit, Cm.inn, Bool.and_eq_true, decide_eq_true_eq] at h
    obtain ⟨_, _, _, ha, hl, hq⟩ := h
    by_cases h5 : life ≤ 1
    · rw [if_pos h5] at hq
      simp only [decide_eq_true_eq] at hq
      simp only; omega
    · rw [if_neg h5] at hq
      simp only [Bool.and_eq_true, decide_eq_true_eq] at hq
      simp only; omega
  rw [if_neg h1] at h
  by_cases h2 : kind = 2
  · rw [if_pos h2] at h
    simp only [Cm.market, Cm.plain, Cm.inn, Bool.and_eq_true, decide_eq_true_eq] at h
    simp only; omega
  rw [if_neg h2] at h
  by_cases h3 : kind = 3
  · rw [if_pos h3] at h
    simp only [Cm.cancel, Cm.plain, Cm.inn, Bool.and_eq_true, decide_eq_true_eq] at h
    simp only; omega
  rw [if_neg h3] at h
  by_cases h4 : kind = 4
  · rw [if_pos h4] at h
    simp only [Cm.replace, Cm.plain, Cm.inn, Bool.and_eq_true, decide_eq_true_eq] at h
    simp only; omega
  rw [if_neg h4] at h
  by_cases h5 : kind = 5
  · rw [if_pos h5] at h
    simp only [Cm.roll, Cm.plain, Cm.inn, Bool.and_eq_true, decide_eq_true_eq] at h
    simp only; omega
  rw [if_neg h5] at h
  cases h
set_option maxRecDepth 100000 in
set_option maxHeartbeats 8000000 in
theorem bookDo_any (base b : Nat) (x y z : Value) (X : Dm.Bk) (c : Cm.C) (w : World) (hI : Bw.Is w base b x y z X) (hw : base ≤ w.heap.size) (hc : Cm.right c = true) (hp : c.post = false) (hF : ∀ bb, ∀ o ∈ X.side bb, Dm.Fine o) (hn : ∀ bb, (X.side bb).length ≤ 1000) (he : X.ev.length ≤ 1000) (hn0 : 0 ≤ X.n ∧ X.n ≤ 1000000) :
    Calls Try.prog 75 #[.pointer (some ⟨b, 0, none⟩), .agg #[.int .i64 c.kind, .int .i64 c.owner, .int .i64 c.id, .bool c.buy, .int .i64 c.price, .int .i64 c.amount, .int .i64 c.life, .bool c.post, .int .i64 c.peak, .bool c.guard]] w fun e w' => e = .returned (.int .i64 (Dm.doo c X).1) ∧ (∃ x y z, Bw.Is w' base b x y z (Dm.doo c X).2) ∧ Below base w w' ∧ Bw.Fr w w' := by
  obtain ⟨hk, ha, hpk⟩ := Cm.right_kinds hc hp
  obtain ⟨kind, owner, id, buy, price, amount, life, post, peak, guard⟩ := c
  simp only at hp hk ha hpk
  subst hp
  show Calls _ _ #[.pointer (some ⟨b, 0, none⟩), .agg #[.int .i64 kind, .int .i64 owner, .int .i64 id, .bool buy, .int .i64 price, .int .i64 amount, .int .i64 life, .bool false, .int .i64 peak, .bool guard]] w _
  obtain ⟨W, hW⟩ : ∃ W, W = w.alloc (.cells #[.int .i64 kind, .int .i64 owner, .int .i64 id, .bool buy, .int .i64 price, .int .i64 amount, .int .i64 life, .bool false, .int .i64 peak, .bool guard] 27) := ⟨_, rfl⟩
  have bW : Below w.heap.size w W := by rw [hW]; exact (Below.refl _ _).alloc (Nat.le_refl _) _
  have HW := Fk.hide hW
  have HI := Fk.hide (hI.below bW)
  have HB := Fk.hide (bW.mono hw)
  have HF0 := Fk.hide (Bw.Fr.of_below bW)
  have HFN := Fk.hide hF
  have HLN := Fk.hide hn
  have HEV := Fk.hide he
  have HNN := Fk.hide hn0
  have HWZ : Hid (base ≤ W.heap.size) := Nat.le_trans hw bW.size
  have HA : Hid (0 ≤ amount ∧ amount ≤ 100000) := by show _ ∧ _; omega
  have HP : Hid (0 ≤ peak ∧ peak ≤ 1000000) := by show _ ∧ _; omega
  clear hW bW hI hF hn he hn0 ha hpk hc
  rcases hk with ⟨rfl, hl⟩ | ⟨rfl, hl⟩ | rfl | rfl | rfl
  · have HC := Fk.hide (bookOrder_any base b x y z X 1 owner id buy price amount life peak guard W HI.out HWZ.out (.inl ⟨rfl, hl⟩) HA.out HP.out HFN.out HLN.out HEV.out HNN.out)
    have HE : Hid (Dm.doo (⟨1, owner, id, buy, price, amount, life, false, peak, guard⟩ : Cm.C) X = Dm.order ⟨1, owner, id, buy, price, amount, life, false, peak, guard⟩ X) := rfl
    clear hl
    go_enter Try.func75, Try.ntmps75
    go_wp2_with fail
    rw [← HW.out]
    refine HC.out.mono ?_
    rintro e w2 ⟨rfl, hJ, hB, hFr⟩
    obtain ⟨r, hr⟩ : ∃ r, r = Dm.order (⟨1, owner, id, buy, price, amount, life, false, peak, guard⟩ : Cm.C) X := ⟨_, rfl⟩
    rw [← hr] at hJ ⊢
    have HJ := Fk.hide hJ
    have HB2 := Fk.hide (HB.out.trans hB)
    have HF2 := Fk.hide (HF0.out.trans hFr)
    have HR := Fk.hide hr
    clear hr hJ hB hFr HC
    go_wp2_with fail
    go_ret
    exact ⟨by rw [HE.out, ← HR.out]; rfl, by rw [HE.out, ← HR.out]; exact HJ.out, HB2.out, HF2.out⟩
  · subst hl
    have HC := Fk.hide (bookOrder_any base b x y z X 2 owner id buy price amount 0 peak guard W HI.out HWZ.out (.inr ⟨rfl, rfl⟩) HA.out HP.out HFN.out HLN.out HEV.out HNN.out)
    have HE : Hid (Dm.doo (⟨2, owner, id, buy, price, amount, 0, false, peak, guard⟩ : Cm.C) X = Dm.order ⟨2, owner, id, buy, price, amount, 0, false, peak, guard⟩ X) := rfl
    go_enter Try.func75, Try.ntmps75
    go_wp2_with fail
    rw [← HW.out]
    refine HC.out.mono ?_
    rintro e w2 ⟨rfl, hJ, hB, hFr⟩
    obtain ⟨r, hr⟩ : ∃ r, r = Dm.order (⟨2, owner, id, buy, price, amount, 0, false, peak, guard⟩ : Cm.C) X := ⟨_, rfl⟩
    rw [← hr] at hJ ⊢
    have HJ := Fk.hide hJ
    have HB2 := Fk.hide (HB.out.trans hB)
    have HF2 := Fk.hide (HF0.out.trans hFr)
    have HR := Fk.hide hr
    clear hr hJ hB hFr HC
    go_wp2_with fail
    go_ret
    exact ⟨by rw [HE.out, ← HR.out]; rfl, by rw [HE.out, ← HR.out]; exact HJ.out, HB2.out, HF2.out⟩
  · have HC := Fk.hide (bookChange_cancel base b x y z X owner id buy price amount life false peak guard W HI.out HWZ.out HA.out HFN.out HLN.out HEV.out)
    have HE : Hid (Dm.doo (⟨3, owner, id, buy, price, amount, life, false, peak, guard⟩ : Cm.C) X = Dm.change ⟨3, owner, id, buy, price, amount, life, false, peak, guard⟩ X) := rfl
    go_enter Try.func75, Try.ntmps75
    go_wp2_with fail
    rw [← HW.out]
    refine HC.out.mono ?_
    rintro e w2 ⟨rfl, hJ, hB, hFr⟩
    obtain ⟨r, hr⟩ : ∃ r, r = Dm.change (⟨3, owner, id, buy, price, amount, life, false, peak, guard⟩ : Cm.C) X := ⟨_, rfl⟩
    rw [← hr] at hJ ⊢
    have HJ := Fk.hide hJ
    have HB2 := Fk.hide (HB.out.trans hB)
    have HF2 := Fk.hide (HF0.out.trans hFr)
    have HR := Fk.hide hr
    clear hr hJ hB hFr HC
    go_wp2_with fail
    go_ret
    exact ⟨by rw [HE.out, ← HR.out]; rfl, by rw [HE.out, ← HR.out]; exact HJ.out, HB2.out, HF2.out⟩
  · have HC := Fk.hide (bookChange_replace base b x y z X owner id buy price amount life false peak guard W HI.out HWZ.out HA.out HFN.out HLN.out HEV.out)
    have HE : Hid (Dm.doo (⟨4, owner, id, buy, price, amount, life, false, peak, guard⟩ : Cm.C) X = Dm.change ⟨4, owner, id, buy, price, amount, life, false, peak, guard⟩ X) := rfl
    go_enter Try.func75, Try.ntmps75
    go_wp2_with fail
    rw [← HW.out]
    refine HC.out.mono ?_
    rintro e w2 ⟨rfl, hJ, hB, hFr⟩
    obtain ⟨r, hr⟩ : ∃ r, r = Dm.change (⟨4, owner, id, buy, price, amount, life, false, peak, guard⟩ : Cm.C) X := ⟨_, rfl⟩
    rw [← hr] at hJ ⊢
    have HJ := Fk.hide hJ
    have HB2 := Fk.hide (HB.out.trans hB)
    have HF2 := Fk.hide (HF0.out.trans hFr)
    have HR := Fk.hide hr
    clear hr hJ hB hFr HC
    go_wp2_with fail
    go_ret
    exact ⟨by rw [HE.out, ← HR.out]; rfl, by rw [HE.out, ← HR.out]; exact HJ.out, HB2.out, HF2.out⟩
  · have HC := Fk.hide (bookRoll_any base b x y z X W HI.out HWZ.out HFN.out HLN.out HEV.out)
    have HE : Hid (Dm.doo (⟨5, owner, id, buy, price, amount, life, false, peak, guard⟩ : Cm.C) X = (0, Dm.roll X)) := rfl
    go_enter Try.func75, Try.ntmps75
    go_wp2_with fail
    rw [← HW.out]
    refine HC.out.mono ?_
    rintro e w2 ⟨rfl, hJ, hB, hFr⟩
    have HJ := Fk.hide hJ
    have HB2 := Fk.hide (HB.out.trans hB)
    have HF2 := Fk.hide (HF0.out.trans hFr)
    clear hJ hB hFr HC
    go_wp2_with fail
    go_ret
    exact ⟨by rw [HE.out]; rfl, by rw [HE.out]; exact HJ.out, HB2.out, HF2.out⟩
end Go.Proofs.Ytfagldipjpaceaa
