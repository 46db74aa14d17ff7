/- The walks of the program's inRow and asOld: the orders of all levels in a row, and without what only a newer book has. -/
import Derived.Test.YthafegeoniiogaaNewRightImpl
namespace Go.Proofs.Ythafegeoniiogaa
open Go.RowKit
set_option linter.unusedVariables false
set_option linter.unusedSimpArgs false
set_option maxRecDepth 100000 in
set_option maxHeartbeats 4000000 in
theorem inRow_any (v : Value) (L : List Lv.E) (w : World) (hv : Lv.View w v L) (hl : L.length ≤ 1048576) (hm : (Nb.flat L).length ≤ 1048576) :
    Calls Try.prog 124 #[v] w fun e w' => (∃ u, e = .returned u ∧ Rk.Own Or.S w' w.heap.size 34 u (Nb.flat L)) ∧ Below w.heap.size w w' := by
  obtain ⟨i0, hi, hz0, hz1, hz2⟩ := info_parts infoOrd
  have HV := Fk.hide hv
  obtain ⟨a, cap, rfl⟩ := hv.slice
  clear hv
  go_enter Try.func124, Try.ntmps124
  go_wp2_with fail
  go_loopw [3, 8] (fun out i wr => ∃ (k : Nat) (ua : Option Addr) (un uc : Nat), k ≤ L.length ∧ i = .int .i64 k ∧ out = .slice ua un uc ∧ Hid (Rk.Own Or.S wr w.heap.size 34 (.slice ua un uc) (Nb.flat (L.take k))) ∧ Below w.heap.size w wr) (fun _ i _ => L.length - (intOf i).toNat)
  case atStart => exact ⟨0, _, _, _, Nat.zero_le _, rfl, rfl, (by show Rk.Own _ _ _ _ _ _; simp only [List.take_zero, Nb.flat_none]; exact Rk.own_nil _ _ _), Below.refl _ _⟩
  case round =>
    obtain ⟨k, ua, un, uc, hk, rfl, rfl, HO, bel⟩ := hrel
    by_cases hlt : k < L.length
    · obtain ⟨b, o, q, m, c, rfl, hb, p0, p1, hmm, hvi, hsh⟩ := (HV.out.below bel).at hlt
      have hle := Nb.part_le L k hlt
      have HST := Fk.hide (Nb.flat_step L k hlt)
      obtain ⟨F, hF⟩ : ∃ F, F = Nb.flat (L.take k) := ⟨_, rfl⟩
      obtain ⟨G, hG⟩ : ∃ G, G = (Lv.at' L k).2 := ⟨_, rfl⟩
      obtain ⟨pr, hpr⟩ : ∃ x, x = (Lv.at' L k).1 := ⟨_, rfl⟩
      rw [← hF, ← hG] at hle HST
      rw [← hF] at HO
      rw [← hG] at hmm hvi
      rw [← hpr] at p0
      clear hF hG hpr
      subst hmm
      have HSH := Fk.hide hsh
      have bX : Below wr.heap.size wr (wr.alloc (.cells #[.int .i64 pr, .slice q G.length c] 120)) := (Below.refl _ _).alloc (Nat.le_refl _) _
      have HBX : Hid (Below w.heap.size w (wr.alloc (.cells #[.int .i64 pr, .slice q G.length c] 120))) := bel.trans (bX.mono bel.size)
      have HOX := Fk.hide (HO.out.below bX)
      have HVX := Fk.hide (hvi.below bX)
      clear bX hvi HO hsh
      go_wp2_with (at_builtin; refine Rk.wpList_append_view _ rfl _ _ 27 rfl w.heap.size 34 i0 _ 8 64 rfl Try.underlying27 hi hz0 hz1 hz2 rfl (by decide) _ (.slice q G.length c) F G rfl rfl HOX.out HVX.out HSH.out (by omega) HBX.out.size ?_; intro u6 w6 o6 g6; have HB6 : Hid (Below w.heap.size w w6) := HBX.out.grown g6 HBX.out.size (fun j hj => (HOX.out.lt j hj).1); obtain ⟨x6, n6, c6, rfl⟩ := o6.slice'; have HO6 : Hid (Rk.Own Or.S w6 w.heap.size 34 (.slice x6 n6 c6) (Nb.flat (L.take (k + 1)))) := (by show Rk.Own _ _ _ _ _ _; rw [HST.out]; exact o6); clear o6 g6)
      go_roundw
      case rel => exact ⟨k + 1, _, _, _, by omega, by go_num, rfl, HO6, HB6.out⟩
      case measure => simp [intOf]; omega
    · have e : k = L.length := by omega
      subst e
      rw [Nb.flat_all] at HO
      go_wp2_with fail
      go_ret
      exact ⟨⟨_, rfl, HO.out⟩, bel⟩

/-- the first ones without what only a newer book has -/
def Nb.bare (F : List Or.E) (k : Nat) : List Or.E := (F.take k).map Nb.strip ++ F.drop k
theorem Nb.bare_length (F : List Or.E) (k : Nat) : (Nb.bare F k).length = F.length := by simp [Nb.bare]; omega
theorem Nb.bare_none (F : List Or.E) : Nb.bare F 0 = F := by simp [Nb.bare]
theorem Nb.bare_all (F : List Or.E) : Nb.bare F F.length = F.map Nb.strip := by simp [Nb.bare]
theorem Nb.bare_at (F : List Or.E) (k : Nat) (h : k < F.length) : Rk.at_ Or.S (Nb.bare F k) k = Rk.at_ Or.S F k := by
  rw [Rk.at_get _ _ (by rw [Nb.bare_length]; exact h), Rk.at_get _ _ h]
  simp only [Nb.bare]
  have hl : ((F.take k).map Nb.strip).length = k := by simp; omega
  rw [List.getElem_append_right (by omega), List.getElem_drop]
  simp only [hl, Nat.sub_self, Nat.add_zero]
theorem Nb.bare_step (F : List Or.E) (k : Nat) (h : k < F.length) : (Nb.bare F k).set k (Nb.strip (Rk.at_ Or.S F k)) = Nb.bare F (k + 1) := by
  unfold Nb.bare
  have hl : ((F.take k).map Nb.strip).length = k := by simp; omega
  rw [List.set_append_right _ _ (by omega), hl, Nat.sub_self, List.drop_eq_getElem_cons h, List.set_cons_zero, List.take_succ_eq_append_getElem h, Rk.at_get _ _ h, List.map_append, List.append_assoc]
  rfl

set_option maxRecDepth 100000 in
set_option maxHeartbeats 4000000 in
theorem asOld_any (v : Value) (L : List Lv.E) (w : World) (hv : Lv.View w v L) (hl : L.length ≤ 1048576) (hm : (Nb.flat L).length ≤ 1048576) :
    Calls Try.prog 85 #[v] w fun e w' => (∃ u, e = .returned u ∧ Rk.Own Or.S w' w.heap.size 34 u ((Nb.flat L).map Nb.strip)) ∧ Below w.heap.size w w' := by
  have HV := Fk.hide hv
  obtain ⟨a, cap, rfl⟩ := hv.slice
  clear hv
  go_enter Try.func85, Try.ntmps85
  go_wp2_with fail
  refine (inRow_any _ L _ HV.out hl hm).mono ?_
  rintro e w1 ⟨⟨u, rfl, ho⟩, k1⟩
  obtain ⟨F, hF⟩ : ∃ F, F = Nb.flat L := ⟨_, rfl⟩
  rw [← hF] at ho hm
  have HFF := Fk.hide hF
  clear hF
  obtain ⟨ua, uc, rfl⟩ := ho.slice
  have HO := Fk.hide ho
  clear ho
  go_wp2_with fail
  go_loopw [9] (fun i wr => ∃ k : Nat, k ≤ F.length ∧ i = .int .i64 k ∧ Hid (Rk.Own Or.S wr w.heap.size 34 (.slice ua F.length uc) (Nb.bare F k)) ∧ Below w.heap.size w wr) (fun i _ => F.length - (intOf i).toNat)
  case atStart => exact ⟨0, Nat.zero_le _, rfl, (by rw [Nb.bare_none]; exact HO), k1⟩
  case round =>
    obtain ⟨k, hk, rfl, HP, bel⟩ := hrel
    by_cases hlt : k < F.length
    · obtain ⟨g, rfl⟩ : ∃ g, ua = some ⟨g, 0, none⟩ := by
        rcases HO.out.form with ⟨h1, h2⟩ | ⟨g, c, h1, _⟩
        · rw [h2] at hlt; simp at hlt
        · simp only [Value.slice.injEq] at h1; exact ⟨g, h1.1⟩
      have hkb : k < (Nb.bare F k).length := by rw [Nb.bare_length]; exact hlt
      have p5 := Or.o5 HP.out hkb
      have p6 := Or.o6 HP.out hkb
      have p7 := Or.o7 HP.out hkb
      rw [Nb.bare_at F k hlt] at p5 p6 p7
      have f5 := HP.out.frozen (k * 8 + 5)
      have f6 := HP.out.frozen (k * 8 + 6)
      have f7 := HP.out.frozen (k * 8 + 7)
      have HG : Hid (w.heap.size ≤ g) := (HP.out.lt g rfl).1
      have HKB := Fk.hide hkb
      clear hkb
      go_wp2_with fail
      refine ⟨⟨k + 1, by omega, by go_num, ?_, ?_⟩, by simp [intOf]; omega⟩
      · obtain ⟨f, hf⟩ : ∃ f, f = Rk.at_ Or.S F k := ⟨_, rfl⟩
        have e0 := Nb.bare_at F k hlt
        rw [← hf] at e0
        have s1 := HP.out.put HKB.out 5 (by decide) (.int .i64 0) (f.1, f.2.1, f.2.2.1, f.2.2.2.1, f.2.2.2.2.1, 0, f.2.2.2.2.2.2.1, f.2.2.2.2.2.2.2) (by rw [e0]; rfl)
        have s2 := s1.put (k := k) (by rw [List.length_set]; exact HKB.out) 6 (by decide) (.int .i64 0) (f.1, f.2.1, f.2.2.1, f.2.2.2.1, f.2.2.2.2.1, 0, 0, f.2.2.2.2.2.2.2) (by rw [Rk.at_set _ _ HKB.out]; rfl)
        rw [List.set_set] at s2
        have s3 := s2.put (k := k) (by rw [List.length_set]; exact HKB.out) 7 (by decide) (.bool false) (Nb.strip f) (by rw [Rk.at_set _ _ HKB.out]; rfl)
        rw [List.set_set, hf, Nb.bare_step F k hlt] at s3
        exact s3
      · exact ((bel.setCell HG.out _).setCell HG.out _).setCell HG.out _
    · have e : k = F.length := by omega
      subst e
      rw [Nb.bare_all] at HP
      go_wp2_with fail
      go_ret
      exact ⟨⟨_, rfl, by rw [← HFF.out]; exact HP.out⟩, bel⟩
end Go.Proofs.Ythafegeoniiogaa
