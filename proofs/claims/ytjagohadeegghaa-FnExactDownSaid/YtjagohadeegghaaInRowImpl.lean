/- The walks of the program's inRow and asOld: the orders of all levels in a row, and without what only a newer book has. -/
import Derived.Test.YtjagohadeegghaaNewRightImpl
import Derived.Test.YtjagohadeegghaaRowsCopy
namespace Go.Proofs.Ytjagohadeegghaa
open Go.RowKit
set_option linter.unusedVariables false
set_option linter.unusedSimpArgs false
set_option maxRecDepth 100000 in
set_option maxHeartbeats 4000000 in
theorem inRow_any (v : Value) (L : List Lv.E) (w : World) (hv : Lv.View w v L) (hl : L.length ≤ 1048576) (hm : (Nb.flat L).length ≤ 1048576) :
    Calls Try.prog 78 #[v] w fun e w' => (∃ u, e = .returned u ∧ Rk.Own Or.S w' w.heap.size 55 u (Nb.flat L)) ∧ Below w.heap.size w w' := by
  obtain ⟨i0, hi, hz0, hz1, hz2⟩ := info_parts infoOrd
  have HI : Hid ((Try.prog.info? 55).map (·.size) = some 8) := by show _ = _; rw [hi]; exact congrArg some hz1
  have HV := Fk.hide hv
  obtain ⟨a, cap, rfl⟩ := hv.slice
  clear hv
  by_cases hz : L.length = 0
  · have e0 := List.eq_nil_of_length_eq_zero hz
    subst e0
    go_enter Try.func78, Try.ntmps78
    go_wp2_with fail
    go_ret
    exact ⟨⟨_, rfl, Rk.own_nil _ _ _⟩, Below.refl _ _⟩
  have hne : ¬ ((L.length : Int) = 0) := by omega
  go_enter Try.func78, Try.ntmps78
  go_wp2_with fail
  refine (countOf_any _ L _ HV.out hl hm).mono ?_
  rintro e w0 ⟨rfl, b0⟩
  obtain ⟨n, hn⟩ : ∃ n, n = (Nb.flat L).length := ⟨_, rfl⟩
  rw [← hn]
  rw [← hn] at hm
  have HN := Fk.hide hn
  have hb0 := b0.size
  have HB0 := Fk.hide b0
  clear hn b0
  go_wp2_with (at_make; refine wpList_make_full _ rfl _ _ 30 rfl w.heap.size 55 i0 _ 8 Try.underlying30 hi hz0 hz1 _ _ _ _ n rfl rfl rfl rfl (by rw [hz2]; omega) (by unfold maxLen; omega) hb0 ?_; intro w1 hown hgrow)
  obtain ⟨g, hg⟩ : ∃ g, g = w0.heap.size := ⟨_, rfl⟩
  rw [← hg] at hown ⊢
  have HOWN : Hid (Rk.Own Or.S w1 w.heap.size 55 (.slice (some ⟨g, 0, none⟩) n n) (List.replicate n Or.S.z)) := by
    show Rk.Own _ _ _ _ _ _
    unfold Rk.Own
    rw [← Rk.flat_made (S := Or.S) n #[.int .i64 0, .int .i64 0, .int .i64 0, .int .i64 0, .bool false, .int .i64 0, .int .i64 0, .bool false] rfl, List.length_replicate]
    exact hown
  have HB1 : Hid (Below w.heap.size w w1) := HB0.out.grown hgrow hb0 (fun j hj => by cases hj)
  have HG : Hid (w.heap.size ≤ g) := by show _ ≤ _; rw [hg]; exact hb0
  clear hown hgrow hb0 hg HB0
  go_wp2_with fail
  go_loopw [4, 15] (fun at' i wr => ∃ k m : Nat, k ≤ L.length ∧ i = .int .i64 k ∧ at' = .int .i64 m ∧ m ≤ n ∧ Hid (m = (Nb.flat (L.take k)).length) ∧ Hid (Rk.Own Or.S wr w.heap.size 55 (.slice (some ⟨g, 0, none⟩) n n) (Nb.flat (L.take k) ++ List.replicate (n - m) Or.S.z)) ∧ Hid (Below w.heap.size w wr)) (fun _ i _ => L.length - (intOf i).toNat)
  case atStart => exact ⟨0, 0, Nat.zero_le _, rfl, rfl, Nat.zero_le _, rfl, HOWN, HB1⟩
  case round =>
    obtain ⟨k, m, hk, rfl, rfl, hmn, HM, HO, HB⟩ := hrel
    clear HOWN HB1
    by_cases hlt : k < L.length
    · obtain ⟨b, o, q, x, c, rfl, hb, p0, p1, hx, hvi, hsh⟩ := (HV.out.below HB.out).at hlt
      have hle := Nb.part_le L k hlt
      have HST := Fk.hide (Nb.flat_step L k hlt)
      obtain ⟨F, hF⟩ : ∃ F, F = Nb.flat (L.take k) := ⟨_, rfl⟩
      obtain ⟨G, hG⟩ : ∃ G, G = (Lv.at' L k).2 := ⟨_, rfl⟩
      obtain ⟨pr, hpr⟩ : ∃ x, x = (Lv.at' L k).1 := ⟨_, rfl⟩
      rw [← hF, ← hG, ← HN.out] at hle
      rw [← hF, ← hG] at HST
      rw [← hF] at HO HM
      rw [← hG] at hx hvi
      rw [← hpr] at p0
      clear hF hG hpr hsh
      subst hx
      have hxn : m + G.length ≤ n := by have := HM.out; omega
      have bX : Below wr.heap.size wr (wr.alloc (.cells #[.int .i64 pr, .slice q G.length c] 103)).drew := Below.drew ((Below.refl _ _).alloc (Nat.le_refl _) _)
      have HBX : Hid (Below w.heap.size w (wr.alloc (.cells #[.int .i64 pr, .slice q G.length c] 103)).drew) := HB.out.trans (bX.mono HB.out.size)
      have HML : Hid ((F ++ List.replicate (n - m) Or.S.z).length = n) := by show _ = _; rw [List.length_append, List.length_replicate, ← HM.out]; omega
      have HLAID : Hid (Rk.laid (F ++ List.replicate (n - m) Or.S.z) G m = Nb.flat (L.take (k + 1)) ++ List.replicate (n - (m + G.length)) Or.S.z) := by
        show _ = _
        unfold Rk.laid
        rw [HST.out, List.take_append_of_le_length (by rw [← HM.out]; exact Nat.le_refl _), List.take_of_length_le (by rw [← HM.out]; exact Nat.le_refl _), List.drop_append, List.drop_of_length_le (by rw [← HM.out]; omega), List.nil_append, ← HM.out, Nat.add_sub_cancel_left, List.drop_replicate, Nat.sub_sub]
      have HM2 : Hid (m + G.length = (Nb.flat (L.take (k + 1))).length) := by show _ = _; rw [HST.out, List.length_append, ← HM.out]
      by_cases hme : m = n
      · have hG0 : G.length = 0 := by omega
        have e0 := List.eq_nil_of_length_eq_zero hG0
        subst e0
        have hc2 := Rk.run_copy_zero (P := Try.prog) (wr.alloc (.cells #[.int .i64 pr, .slice q 0 c] 103)).drew 30 30 3 55 8 (some ⟨g, 0, none⟩) q 0 0 0 c Try.underlying30 HI.out (by simp)
        have HO2 : Hid (Rk.Own Or.S (wr.alloc (.cells #[.int .i64 pr, .slice q ([] : List Or.E).length c] 103)).drew w.heap.size 55 (.slice (some ⟨g, 0, none⟩) n n) (Nb.flat (L.take (k + 1)) ++ List.replicate (n - (m + 0)) Or.S.z)) := by
          have := HO.out.below bX
          rw [← Rk.laid_none (F ++ List.replicate (n - m) Or.S.z) m, HLAID.out] at this
          exact this
        clear hvi HO bX
        subst hme
        go_wp2_with fail
        go_region
        go_wp2_with fail
        go_roundw
        case rel => exact ⟨k + 1, m, by omega, by go_num, by go_num, Nat.le_refl _, HM2, HO2, HBX⟩
        case measure => simp [intOf]; omega
      · have hmlt : m < n := by omega
        obtain ⟨w2, hc2, ho2, hg2⟩ := Rk.copy_run (P := Try.prog) 30 30 3 55 8 rfl Try.underlying30 HI.out w.heap.size g n n m (n - m) (n - m) q G.length c _ G (HO.out.below bX) (hvi.below bX) (by rw [HML.out]; exact hxn) (by omega)
        have HO2 : Hid (Rk.Own Or.S w2 w.heap.size 55 (.slice (some ⟨g, 0, none⟩) n n) (Nb.flat (L.take (k + 1)) ++ List.replicate (n - (m + G.length)) Or.S.z)) := by rw [← HLAID.out]; exact ho2
        have HB2 : Hid (Below w.heap.size w w2) := HBX.out.grown hg2 HBX.out.size (fun j hj => by obtain rfl := Option.some.inj hj; exact HG.out)
        clear hvi HO bX ho2 hg2
        go_wp2_with fail
        go_region
        go_wp2_with fail
        go_roundw
        case rel => exact ⟨k + 1, m + G.length, by omega, by go_num, by go_num, hxn, HM2, HO2, HB2⟩
        case measure => simp [intOf]; omega
    · have e : k = L.length := by omega
      subst e
      rw [Nb.flat_all] at HO HM
      have e2 : m = n := by rw [HM.out, HN.out]
      subst e2
      have HO3 : Hid (Rk.Own Or.S wr w.heap.size 55 (.slice (some ⟨g, 0, none⟩) m m) (Nb.flat L)) := by
        have := HO.out
        rw [Nat.sub_self, List.replicate_zero, List.append_nil] at this
        exact this
      clear HO
      go_wp2_with fail
      go_ret
      exact ⟨⟨_, rfl, HO3.out⟩, HB.out⟩

/-- the first ones without what only a newer book has -/
def Nb.bare (F : List Or.E) (k : Nat) : List Or.E := (F.take k).map Nb.strip ++ F.drop k
theorem Nb.bare_length (F : List Or.E) (k : Nat) : (Nb.bare F k).length = F.length := by simp [Nb.bare]; omega
theorem Nb.bare_none (F : List Or.E) : Nb.bare F 0 = F := by simp [Nb.bare]
theorem Nb.bare_all (F : List Or.E) : Nb.bare F F.length = F.map Nb.strip := by simp [Nb.bare]
theorem Nb.bare_at (F : List Or.E) (k : Nat) (h : k < F.length) : Rk.at_ Or.S (Nb.bare F k) k = Rk.at_ Or.S F k := by
  rw [Rk.at_get _ _ (by rw [Nb.bare_length]; exact h), Rk.at_get _ _ h]
  simp only [Nb.bare]
  have hl : ((F.take k).map Nb.strip).length = k := by simp; omega
  rw [List.getElem_append_right (by omega), List.getElem_drop]
  simp only [hl, Nat.sub_self, Nat.add_zero]
theorem Nb.bare_step (F : List Or.E) (k : Nat) (h : k < F.length) : (Nb.bare F k).set k (Nb.strip (Rk.at_ Or.S F k)) = Nb.bare F (k + 1) := by
  unfold Nb.bare
  have hl : ((F.take k).map Nb.strip).length = k := by simp; omega
  rw [List.set_append_right _ _ (by omega), hl, Nat.sub_self, List.drop_eq_getElem_cons h, List.set_cons_zero, List.take_succ_eq_append_getElem h, Rk.at_get _ _ h, List.map_append, List.append_assoc]
  rfl

set_option maxRecDepth 100000 in
set_option maxHeartbeats 4000000 in
theorem asOld_any (v : Value) (L : List Lv.E) (w : World) (hv : Lv.View w v L) (hl : L.length ≤ 1048576) (hm : (Nb.flat L).length ≤ 1048576) :
    Calls Try.prog 86 #[v] w fun e w' => (∃ u, e = .returned u ∧ Rk.Own Or.S w' w.heap.size 55 u ((Nb.flat L).map Nb.strip)) ∧ Below w.heap.size w w' := by
  have HV := Fk.hide hv
  obtain ⟨a, cap, rfl⟩ := hv.slice
  clear hv
  go_enter Try.func86, Try.ntmps86
  go_wp2_with fail
  refine (inRow_any _ L _ HV.out hl hm).mono ?_
  rintro e w1 ⟨⟨u, rfl, ho⟩, k1⟩
  obtain ⟨F, hF⟩ : ∃ F, F = Nb.flat L := ⟨_, rfl⟩
  rw [← hF] at ho hm
  have HFF := Fk.hide hF
  clear hF
  obtain ⟨ua, uc, rfl⟩ := ho.slice
  have HO := Fk.hide ho
  clear ho
  go_wp2_with fail
  go_loopw [9] (fun i wr => ∃ k : Nat, k ≤ F.length ∧ i = .int .i64 k ∧ Hid (Rk.Own Or.S wr w.heap.size 55 (.slice ua F.length uc) (Nb.bare F k)) ∧ Below w.heap.size w wr) (fun i _ => F.length - (intOf i).toNat)
  case atStart => exact ⟨0, Nat.zero_le _, rfl, (by rw [Nb.bare_none]; exact HO), k1⟩
  case round =>
    obtain ⟨k, hk, rfl, HP, bel⟩ := hrel
    by_cases hlt : k < F.length
    · obtain ⟨g, rfl⟩ : ∃ g, ua = some ⟨g, 0, none⟩ := by
        rcases HO.out.form with ⟨h1, h2⟩ | ⟨g, c, h1, _⟩
        · rw [h2] at hlt; simp at hlt
        · simp only [Value.slice.injEq] at h1; exact ⟨g, h1.1⟩
      have hkb : k < (Nb.bare F k).length := by rw [Nb.bare_length]; exact hlt
      have p5 := Or.o5 HP.out hkb
      have p6 := Or.o6 HP.out hkb
      have p7 := Or.o7 HP.out hkb
      rw [Nb.bare_at F k hlt] at p5 p6 p7
      have f5 := HP.out.frozen (k * 8 + 5)
      have f6 := HP.out.frozen (k * 8 + 6)
      have f7 := HP.out.frozen (k * 8 + 7)
      have HG : Hid (w.heap.size ≤ g) := (HP.out.lt g rfl).1
      have HKB := Fk.hide hkb
      clear hkb
      go_wp2_with fail
      refine ⟨⟨k + 1, by omega, by go_num, ?_, ?_⟩, by simp [intOf]; omega⟩
      · obtain ⟨f, hf⟩ : ∃ f, f = Rk.at_ Or.S F k := ⟨_, rfl⟩
        have e0 := Nb.bare_at F k hlt
        rw [← hf] at e0
        have s1 := HP.out.put HKB.out 5 (by decide) (.int .i64 0) (f.1, f.2.1, f.2.2.1, f.2.2.2.1, f.2.2.2.2.1, 0, f.2.2.2.2.2.2.1, f.2.2.2.2.2.2.2) (by rw [e0]; rfl)
        have s2 := s1.put (k := k) (by rw [List.length_set]; exact HKB.out) 6 (by decide) (.int .i64 0) (f.1, f.2.1, f.2.2.1, f.2.2.2.1, f.2.2.2.2.1, 0, 0, f.2.2.2.2.2.2.2) (by rw [Rk.at_set _ _ HKB.out]; rfl)
        rw [List.set_set] at s2
        have s3 := s2.put (k := k) (by rw [List.length_set]; exact HKB.out) 7 (by decide) (.bool false) (Nb.strip f) (by rw [Rk.at_set _ _ HKB.out]; rfl)
        rw [List.set_set, hf, Nb.bare_step F k hlt] at s3
        exact s3
      · exact ((bel.setCell HG.out _).setCell HG.out _).setCell HG.out _
    · have e : k = F.length := by omega
      subst e
      rw [Nb.bare_all] at HP
      go_wp2_with fail
      go_ret
      exact ⟨⟨_, rfl, by rw [← HFF.out]; exact HP.out⟩, bel⟩
end Go.Proofs.Ytjagohadeegghaa
