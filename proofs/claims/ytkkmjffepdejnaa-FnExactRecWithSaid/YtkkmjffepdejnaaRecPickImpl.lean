/- The walk of the program's choice among fields. -/
import Derived.Test.YtkkmjffepdejnaaRecMath
import Derived.Test.YtkkmjffepdejnaaCopyWalks
import Derived.Test.YtkkmjffepdejnaaRecRightImpl
import Derived.Deep.RegionHeld3
import Derived.Deep.AppendLies
import Derived.Deep.DrawnRows
namespace Go.Proofs.Ytkkmjffepdejnaa
open Go.RowKit
set_option linter.unusedVariables false
set_option linter.unusedSimpArgs false
theorem infoField : (Try.prog.info? 76).map (fun i => (i.zero, i.size, i.bytes)) = some (some (.agg #[.int .i64 0, .string ByteArray.empty]), 2, 24) := by kernel_rfl

namespace Rc
/-- the first fields of which the question says yes -/
def pick (p : Int → Bool) (L : List Fd.E) (k : Nat) : List Fd.E := (L.take k).filter fun f => p f.1
theorem pick_zero (p : Int → Bool) (L : List Fd.E) : pick p L 0 = [] := rfl
theorem pick_next (p : Int → Bool) (L : List Fd.E) {k : Nat} (h : k < L.length) : pick p L (k + 1) = if p (idAt L k) then pick p L k ++ [(idAt L k, textAt L k)] else pick p L k := by
  unfold pick
  rw [Rk.take_at (S := Fd.S) L k h, List.filter_append]
  by_cases hp : p (idAt L k) = true
  · have : p (Rk.at_ Fd.S L k).1 = true := hp
    simp [hp, this]; rfl
  · have h1 : ¬ p (Rk.at_ Fd.S L k).1 = true := hp
    simp [hp, h1]
theorem pick_yes {p : Int → Bool} {L : List Fd.E} {k : Nat} (h : k < L.length) (hp : p (idAt L k) = true) : pick p L (k + 1) = pick p L k ++ [(idAt L k, textAt L k)] := by rw [pick_next p L h, if_pos hp]
theorem pick_no {p : Int → Bool} {L : List Fd.E} {k : Nat} (h : k < L.length) (hp : p (idAt L k) = false) : pick p L (k + 1) = pick p L k := by rw [pick_next p L h, if_neg (by simp [hp])]
theorem pick_length (p : Int → Bool) (L : List Fd.E) (k : Nat) : (pick p L k).length ≤ L.length := by
  unfold pick
  exact Nat.le_trans (List.length_filter_le _ _) (by simp; omega)
theorem pick_all (p : Int → Bool) (L : List Fd.E) : pick p L L.length = L.filter fun f => p f.1 := by simp [pick]
end Rc

set_option maxHeartbeats 4000000 in
theorem fieldsWith_with (K : Int) (v : Value) (L : List Fd.E) (w : World) (hv : Rk.View Fd.S w v L) (hl : L.length ≤ 30) (ht : ∀ k, (Rc.textAt L k).size ≤ 500) (cv : Value) (p : Int → Bool)
    (hp : ∀ i w', Below w.heap.size w w' → Calls Try.prog 56 #[.int .i64 i, cv] w' fun e w'' => e = .returned (.bool (p i)) ∧ Below w'.heap.size w' w'') :
    Calls Try.prog 55 #[.agg #[.int .i64 K, v], .func (.func 56) #[] #[cv]] w fun e w' => (∃ u, e = .returned u ∧ Rk.Own Fd.S w' w.heap.size 76 u (L.filter fun f => p f.1)) ∧ Below w.heap.size w w' := by
  obtain ⟨i0, hi, hz0, hz1, hz2⟩ := info_parts infoField
  have hzs : (Value.agg #[.int .i64 0, .string ByteArray.empty]).cells.size = 2 := by kernel_rfl
  obtain ⟨W, hW⟩ : ∃ W, W = w.alloc (.cells #[.int .i64 K, v] 45) := ⟨_, rfl⟩
  have b0 : Below w.heap.size w W := by rw [hW]; exact (Below.refl _ _).alloc (Nat.le_refl _) _
  have hv' := hv.below b0
  have c1 : W.cell? ⟨w.heap.size, 1, none⟩ = some v := by rw [hW, Fk.cellTop _ _ _ _ _ rfl]; rfl
  have hsz : w.heap.size < W.heap.size := by rw [hW]; simp
  have HW := Fk.hide hW
  have HB0 := Fk.hide b0
  have HP := Fk.hide hp
  have HT := Fk.hide ht
  clear hW hv b0 hp ht
  obtain ⟨a, cap, rfl, hs⟩ := hv'
  go_enter Try.func55, Try.ntmps55
  go_wp2_with fail
  rw [← HW.out]
  go_loopw [5, 11] (fun u i wr => ∃ k : Nat, k ≤ L.length ∧ i = .int .i64 k ∧ Hid (Rk.Own Fd.S wr W.heap.size 76 u (Rc.pick p L k)) ∧ Hid (Below W.heap.size W wr)) (fun _ i _ => L.length - (intOf i).toNat)
  case atStart => exact ⟨0, Nat.zero_le _, rfl, Rk.own_nil _ _ _, Below.refl _ _⟩
  case round =>
    obtain ⟨k, hk, rfl, HO, bel⟩ := hrel
    obtain ⟨ua, uc, hu⟩ := HO.out.slice
    obtain ⟨un, hun⟩ : ∃ n, n = (Rc.pick p L k).length := ⟨_, rfl⟩
    have L7 : Hid ((Rc.pick p L k).length = un) := hun.symm
    rw [← hun] at hu
    have hun2 : un ≤ 30 := by rw [hun]; have := Rc.pick_length p L k; omega
    clear hun
    subst hu
    have q1 : wr.cell? ⟨w.heap.size, 1, none⟩ = some (.slice a L.length cap) := (bel.out.cell (by exact hsz)).trans c1
    have BW := Fk.hide (HB0.out.trans (bel.out.mono HB0.out.size))
    by_cases hlt : k < L.length
    · obtain ⟨b, o, rfl, hb, hs1⟩ := hs (by omega)
      have x0 := Fd.c0 (hs1.below hb bel.out) hlt
      have x1 := Fd.c1 (hs1.below hb bel.out) hlt
      change wr.cell? _ = some (.int .i64 (Rc.idAt L k)) at x0
      change wr.cell? _ = some (.string (Rc.textAt L k)) at x1
      have hyes := Fk.hide (Rc.pick_yes (p := p) hlt)
      have hno := Fk.hide (Rc.pick_no (p := p) hlt)
      have htx := HT.out k
      obtain ⟨i, hi'⟩ : ∃ i, i = Rc.idAt L k := ⟨_, rfl⟩
      obtain ⟨t, ht'⟩ : ∃ t, t = Rc.textAt L k := ⟨_, rfl⟩
      rw [← hi'] at x0 hyes hno
      rw [← ht'] at x1 htx hyes
      clear hi' ht'
      obtain ⟨W2, hW2⟩ : ∃ W2, W2 = wr.alloc (.cells #[.int .i64 i, .string t] 76) := ⟨_, rfl⟩
      have b2 : Below wr.heap.size wr W2 := by rw [hW2]; exact (Below.refl _ _).alloc (Nat.le_refl _) _
      have e0 : W2.cell? ⟨wr.heap.size, 0, none⟩ = some (.int .i64 i) := by rw [hW2, Fk.cellTop _ _ _ _ _ rfl]; rfl
      have e1 : W2.cell? ⟨wr.heap.size, 1, none⟩ = some (.string t) := by rw [hW2, Fk.cellTop _ _ _ _ _ rfl]; rfl
      have hs2 : wr.heap.size < W2.heap.size := by rw [hW2]; simp
      have HB2 := Fk.hide b2
      have HW2 := Fk.hide hW2
      clear hW2 b2
      go_wp2_with fail
      rw [← HW2.out]
      refine (HP.out _ _ (BW.out.trans (HB2.out.mono BW.out.size))).mono ?_
      rintro e w3 ⟨rfl, b3⟩
      have y0 := (b3.cell (p := ⟨wr.heap.size, 0, none⟩) (by exact hs2)).trans e0
      have y1 := (b3.cell (p := ⟨wr.heap.size, 1, none⟩) (by exact hs2)).trans e1
      have hs3 : wr.heap.size < w3.heap.size := Nat.lt_of_lt_of_le hs2 b3.size
      have B3 : Hid (Below wr.heap.size wr w3) := HB2.out.trans (b3.mono HB2.out.size)
      clear b3 e0 e1 x0 x1
      obtain ⟨r, hr⟩ : ∃ r, r = p i := ⟨_, rfl⟩
      rw [← hr]
      have HR := Fk.hide hr
      clear hr
      cases r with
      | false =>
        have B4 := Fk.hide (bel.out.trans (B3.out.mono bel.out.size))
        have O4 := Fk.hide (HO.out.below B3.out)
        go_wp2_with fail
        go_roundw
        case rel => exact ⟨k + 1, by omega, by go_num, by show Rk.Own _ _ _ _ _ _; rw [hno.out HR.out.symm]; exact O4.out, B4.out⟩
        case measure => simp [intOf]; omega
      | true =>
        have fc : ∀ w', Calls Try.prog 57 #[.string t] w' fun e w'' => e = .returned (.string t) ∧ Below w'.heap.size w' w'' := fun w' => copyText_any t w' (by omega)
        have NX : Hid (∀ w6, Below w3.heap.size w3 w6 → (w6.alloc (.cells #[.int .i64 i, .string t] 76)).ownsRow W.heap.size 76 2 (.slice ua un uc) un (Rk.flat Fd.S (Rc.pick p L k)) ∧ Below W.heap.size W (w6.alloc (.cells #[.int .i64 i, .string t] 76)) ∧ W.heap.size ≤ (w6.alloc (.cells #[.int .i64 i, .string t] 76)).heap.size) := by
          intro w6 b6
          have O6 := (HO.out.below B3.out).below b6
          have B5 : Below W.heap.size W w3 := bel.out.trans (B3.out.mono bel.out.size)
          have B6 : Below W.heap.size W w6 := B5.trans (b6.mono B5.size)
          have b7 : Below w6.heap.size w6 (w6.alloc (.cells #[.int .i64 i, .string t] 76)) := (Below.refl _ _).alloc (Nat.le_refl _) _
          refine ⟨?_, B6.trans (b7.mono B6.size), by have := B6.size; simp; omega⟩
          have := O6.below b7
          unfold Rk.Own at this
          rw [L7.out] at this
          exact this
        have HB : Hid (Below w3.heap.size w3 w3.drew) := Below.drew (Below.refl _ _)
        have HY := Fk.hide (⟨y0, y1⟩ : _ ∧ _)
        have HNE : Hid (some wr.heap.size ≠ (Value.slice ua un uc).ownBlock) := fun h => by have := (HO.out.lt _ h.symm).2; omega
        clear hs hs1 bel HO
        go_wp2_with fail
        go_region_held3 (fun w' => w'.cell? ⟨wr.heap.size, 0, none⟩ = some (.int .i64 i) ∧ w'.cell? ⟨wr.heap.size, 1, none⟩ = some (.string t))
          (first | go_keep | (go_split_ands; exact ⟨by assumption, by assumption⟩))
          (first
            | (go_at_call 57; refine (fc _).mono ?_; rintro e w6 ⟨rfl, b6⟩; have B6 : Below w3.heap.size w3 w6 := HB.out.trans b6; have z0 := (B6.cell (p := ⟨wr.heap.size, 0, none⟩) hs3).trans HY.out.1; have z1 := (B6.cell (p := ⟨wr.heap.size, 1, none⟩) hs3).trans HY.out.2; have N7 := Fk.hide (NX.out w6 B6); have hs6 : wr.heap.size < w6.heap.size := Nat.lt_of_lt_of_le hs3 B6.size; clear B6 b6)
            | (refine step_append_lies _ (by rfl) _ _ _ (by rfl) W.heap.size 76 i0 _ 2 24 Try.underlying43 hi hz0 hz1 hz2 hzs (by decide) (.slice ua un uc) un (Rk.flat Fd.S (Rc.pick p L k)) (by rfl) N7.out.1 ⟨w6.heap.size, 0, none⟩ 1 1 [.int .i64 i, .string t] (by rfl) (by rfl) (World.news_of_block (cs := #[.int .i64 i, .string t]) (t := 76) (fr := (0, 0)) (heap_alloc_new w6 _)) (by simp [Value.oneCell']) (by omega) (by unfold maxLen; omega) (by omega) N7.out.2.2 (w6.heap.size + 1) (by simp) ?_; intro gg cc w8 o8 g8 hat hlt8; have B8 := Fk.hide (N7.out.2.1.grown g8 N7.out.2.1.size (fun j hj => (World.ownsRow.lt N7.out.1 j hj).1)); have HO8 := Fk.hide o8; have u0 : w8.cell? ⟨wr.heap.size, 0, none⟩ = some (.int .i64 i) := (g8.cell_far ⟨wr.heap.size, 0, none⟩ (by show wr.heap.size < _; simp only [World.size_alloc]; omega) HNE.out).trans ((Fk.cellOld _ _ _ _ hs6).trans z0); have u1 : w8.cell? ⟨wr.heap.size, 1, none⟩ = some (.string t) := (g8.cell_far ⟨wr.heap.size, 1, none⟩ (by show wr.heap.size < _; simp only [World.size_alloc]; omega) HNE.out).trans ((Fk.cellOld _ _ _ _ hs6).trans z1); clear o8 g8 hat))
        go_wp2_with fail
        go_roundw
        case rel =>
          refine ⟨k + 1, by omega, by go_num, ?_, B8.out⟩
          show Rk.Own _ _ _ _ _ _
          have e8 := HO8.out
          unfold Rk.Own
          rw [hyes.out HR.out.symm, Rk.flat_append, List.length_append, L7.out]
          exact e8
        case measure => simp [intOf]; omega
    · have e : k = L.length := by omega
      subst e
      have HO' := Fk.hide (Rk.Own.mono HO.out HB0.out.size)
      have B9 := Fk.hide (HB0.out.trans (bel.out.mono HB0.out.size))
      clear hs
      go_wp2_with fail
      go_ret
      exact ⟨⟨_, rfl, by rw [← Rc.pick_all]; exact HO'.out⟩, B9.out⟩

set_option maxHeartbeats 4000000 in
theorem fieldsWith_only (K : Int) (v : Value) (L : List Fd.E) (w : World) (hv : Rk.View Fd.S w v L) (hl : L.length ≤ 30) (ht : ∀ k, (Rc.textAt L k).size ≤ 500) (cv : Value) (p : Int → Bool)
    (hp : ∀ i w', Below w.heap.size w w' → Calls Try.prog 64 #[.int .i64 i, cv] w' fun e w'' => e = .returned (.bool (p i)) ∧ Below w'.heap.size w' w'') :
    Calls Try.prog 55 #[.agg #[.int .i64 K, v], .func (.func 64) #[] #[cv]] w fun e w' => (∃ u, e = .returned u ∧ Rk.Own Fd.S w' w.heap.size 76 u (L.filter fun f => p f.1)) ∧ Below w.heap.size w w' := by
  obtain ⟨i0, hi, hz0, hz1, hz2⟩ := info_parts infoField
  have hzs : (Value.agg #[.int .i64 0, .string ByteArray.empty]).cells.size = 2 := by kernel_rfl
  obtain ⟨W, hW⟩ : ∃ W, W = w.alloc (.cells #[.int .i64 K, v] 45) := ⟨_, rfl⟩
  have b0 : Below w.heap.size w W := by rw [hW]; exact (Below.refl _ _).alloc (Nat.le_refl _) _
  have hv' := hv.below b0
  have c1 : W.cell? ⟨w.heap.size, 1, none⟩ = some v := by rw [hW, Fk.cellTop _ _ _ _ _ rfl]; rfl
  have hsz : w.heap.size < W.heap.size := by rw [hW]; simp
  have HW := Fk.hide hW
  have HB0 := Fk.hide b0
  have HP := Fk.hide hp
  have HT := Fk.hide ht
  clear hW hv b0 hp ht
  obtain ⟨a, cap, rfl, hs⟩ := hv'
  go_enter Try.func55, Try.ntmps55
  go_wp2_with fail
  rw [← HW.out]
  go_loopw [5, 11] (fun u i wr => ∃ k : Nat, k ≤ L.length ∧ i = .int .i64 k ∧ Hid (Rk.Own Fd.S wr W.heap.size 76 u (Rc.pick p L k)) ∧ Hid (Below W.heap.size W wr)) (fun _ i _ => L.length - (intOf i).toNat)
  case atStart => exact ⟨0, Nat.zero_le _, rfl, Rk.own_nil _ _ _, Below.refl _ _⟩
  case round =>
    obtain ⟨k, hk, rfl, HO, bel⟩ := hrel
    obtain ⟨ua, uc, hu⟩ := HO.out.slice
    obtain ⟨un, hun⟩ : ∃ n, n = (Rc.pick p L k).length := ⟨_, rfl⟩
    have L7 : Hid ((Rc.pick p L k).length = un) := hun.symm
    rw [← hun] at hu
    have hun2 : un ≤ 30 := by rw [hun]; have := Rc.pick_length p L k; omega
    clear hun
    subst hu
    have q1 : wr.cell? ⟨w.heap.size, 1, none⟩ = some (.slice a L.length cap) := (bel.out.cell (by exact hsz)).trans c1
    have BW := Fk.hide (HB0.out.trans (bel.out.mono HB0.out.size))
    by_cases hlt : k < L.length
    · obtain ⟨b, o, rfl, hb, hs1⟩ := hs (by omega)
      have x0 := Fd.c0 (hs1.below hb bel.out) hlt
      have x1 := Fd.c1 (hs1.below hb bel.out) hlt
      change wr.cell? _ = some (.int .i64 (Rc.idAt L k)) at x0
      change wr.cell? _ = some (.string (Rc.textAt L k)) at x1
      have hyes := Fk.hide (Rc.pick_yes (p := p) hlt)
      have hno := Fk.hide (Rc.pick_no (p := p) hlt)
      have htx := HT.out k
      obtain ⟨i, hi'⟩ : ∃ i, i = Rc.idAt L k := ⟨_, rfl⟩
      obtain ⟨t, ht'⟩ : ∃ t, t = Rc.textAt L k := ⟨_, rfl⟩
      rw [← hi'] at x0 hyes hno
      rw [← ht'] at x1 htx hyes
      clear hi' ht'
      obtain ⟨W2, hW2⟩ : ∃ W2, W2 = wr.alloc (.cells #[.int .i64 i, .string t] 76) := ⟨_, rfl⟩
      have b2 : Below wr.heap.size wr W2 := by rw [hW2]; exact (Below.refl _ _).alloc (Nat.le_refl _) _
      have e0 : W2.cell? ⟨wr.heap.size, 0, none⟩ = some (.int .i64 i) := by rw [hW2, Fk.cellTop _ _ _ _ _ rfl]; rfl
      have e1 : W2.cell? ⟨wr.heap.size, 1, none⟩ = some (.string t) := by rw [hW2, Fk.cellTop _ _ _ _ _ rfl]; rfl
      have hs2 : wr.heap.size < W2.heap.size := by rw [hW2]; simp
      have HB2 := Fk.hide b2
      have HW2 := Fk.hide hW2
      clear hW2 b2
      go_wp2_with fail
      rw [← HW2.out]
      refine (HP.out _ _ (BW.out.trans (HB2.out.mono BW.out.size))).mono ?_
      rintro e w3 ⟨rfl, b3⟩
      have y0 := (b3.cell (p := ⟨wr.heap.size, 0, none⟩) (by exact hs2)).trans e0
      have y1 := (b3.cell (p := ⟨wr.heap.size, 1, none⟩) (by exact hs2)).trans e1
      have hs3 : wr.heap.size < w3.heap.size := Nat.lt_of_lt_of_le hs2 b3.size
      have B3 : Hid (Below wr.heap.size wr w3) := HB2.out.trans (b3.mono HB2.out.size)
      clear b3 e0 e1 x0 x1
      obtain ⟨r, hr⟩ : ∃ r, r = p i := ⟨_, rfl⟩
      rw [← hr]
      have HR := Fk.hide hr
      clear hr
      cases r with
      | false =>
        have B4 := Fk.hide (bel.out.trans (B3.out.mono bel.out.size))
        have O4 := Fk.hide (HO.out.below B3.out)
        go_wp2_with fail
        go_roundw
        case rel => exact ⟨k + 1, by omega, by go_num, by show Rk.Own _ _ _ _ _ _; rw [hno.out HR.out.symm]; exact O4.out, B4.out⟩
        case measure => simp [intOf]; omega
      | true =>
        have fc : ∀ w', Calls Try.prog 57 #[.string t] w' fun e w'' => e = .returned (.string t) ∧ Below w'.heap.size w' w'' := fun w' => copyText_any t w' (by omega)
        have NX : Hid (∀ w6, Below w3.heap.size w3 w6 → (w6.alloc (.cells #[.int .i64 i, .string t] 76)).ownsRow W.heap.size 76 2 (.slice ua un uc) un (Rk.flat Fd.S (Rc.pick p L k)) ∧ Below W.heap.size W (w6.alloc (.cells #[.int .i64 i, .string t] 76)) ∧ W.heap.size ≤ (w6.alloc (.cells #[.int .i64 i, .string t] 76)).heap.size) := by
          intro w6 b6
          have O6 := (HO.out.below B3.out).below b6
          have B5 : Below W.heap.size W w3 := bel.out.trans (B3.out.mono bel.out.size)
          have B6 : Below W.heap.size W w6 := B5.trans (b6.mono B5.size)
          have b7 : Below w6.heap.size w6 (w6.alloc (.cells #[.int .i64 i, .string t] 76)) := (Below.refl _ _).alloc (Nat.le_refl _) _
          refine ⟨?_, B6.trans (b7.mono B6.size), by have := B6.size; simp; omega⟩
          have := O6.below b7
          unfold Rk.Own at this
          rw [L7.out] at this
          exact this
        have HB : Hid (Below w3.heap.size w3 w3.drew) := Below.drew (Below.refl _ _)
        have HY := Fk.hide (⟨y0, y1⟩ : _ ∧ _)
        have HNE : Hid (some wr.heap.size ≠ (Value.slice ua un uc).ownBlock) := fun h => by have := (HO.out.lt _ h.symm).2; omega
        clear hs hs1 bel HO
        go_wp2_with fail
        go_region_held3 (fun w' => w'.cell? ⟨wr.heap.size, 0, none⟩ = some (.int .i64 i) ∧ w'.cell? ⟨wr.heap.size, 1, none⟩ = some (.string t))
          (first | go_keep | (go_split_ands; exact ⟨by assumption, by assumption⟩))
          (first
            | (go_at_call 57; refine (fc _).mono ?_; rintro e w6 ⟨rfl, b6⟩; have B6 : Below w3.heap.size w3 w6 := HB.out.trans b6; have z0 := (B6.cell (p := ⟨wr.heap.size, 0, none⟩) hs3).trans HY.out.1; have z1 := (B6.cell (p := ⟨wr.heap.size, 1, none⟩) hs3).trans HY.out.2; have N7 := Fk.hide (NX.out w6 B6); have hs6 : wr.heap.size < w6.heap.size := Nat.lt_of_lt_of_le hs3 B6.size; clear B6 b6)
            | (refine step_append_lies _ (by rfl) _ _ _ (by rfl) W.heap.size 76 i0 _ 2 24 Try.underlying43 hi hz0 hz1 hz2 hzs (by decide) (.slice ua un uc) un (Rk.flat Fd.S (Rc.pick p L k)) (by rfl) N7.out.1 ⟨w6.heap.size, 0, none⟩ 1 1 [.int .i64 i, .string t] (by rfl) (by rfl) (World.news_of_block (cs := #[.int .i64 i, .string t]) (t := 76) (fr := (0, 0)) (heap_alloc_new w6 _)) (by simp [Value.oneCell']) (by omega) (by unfold maxLen; omega) (by omega) N7.out.2.2 (w6.heap.size + 1) (by simp) ?_; intro gg cc w8 o8 g8 hat hlt8; have B8 := Fk.hide (N7.out.2.1.grown g8 N7.out.2.1.size (fun j hj => (World.ownsRow.lt N7.out.1 j hj).1)); have HO8 := Fk.hide o8; have u0 : w8.cell? ⟨wr.heap.size, 0, none⟩ = some (.int .i64 i) := (g8.cell_far ⟨wr.heap.size, 0, none⟩ (by show wr.heap.size < _; simp only [World.size_alloc]; omega) HNE.out).trans ((Fk.cellOld _ _ _ _ hs6).trans z0); have u1 : w8.cell? ⟨wr.heap.size, 1, none⟩ = some (.string t) := (g8.cell_far ⟨wr.heap.size, 1, none⟩ (by show wr.heap.size < _; simp only [World.size_alloc]; omega) HNE.out).trans ((Fk.cellOld _ _ _ _ hs6).trans z1); clear o8 g8 hat))
        go_wp2_with fail
        go_roundw
        case rel =>
          refine ⟨k + 1, by omega, by go_num, ?_, B8.out⟩
          show Rk.Own _ _ _ _ _ _
          have e8 := HO8.out
          unfold Rk.Own
          rw [hyes.out HR.out.symm, Rk.flat_append, List.length_append, L7.out]
          exact e8
        case measure => simp [intOf]; omega
    · have e : k = L.length := by omega
      subst e
      have HO' := Fk.hide (Rk.Own.mono HO.out HB0.out.size)
      have B9 := Fk.hide (HB0.out.trans (bel.out.mono HB0.out.size))
      clear hs
      go_wp2_with fail
      go_ret
      exact ⟨⟨_, rfl, by rw [← Rc.pick_all]; exact HO'.out⟩, B9.out⟩
end Go.Proofs.Ytkkmjffepdejnaa
