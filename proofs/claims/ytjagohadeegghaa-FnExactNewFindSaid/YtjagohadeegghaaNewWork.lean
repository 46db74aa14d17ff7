/- The walk of the program's newWorkOf. -/
import Derived.Test.YtjagohadeegghaaAddLevel
import Derived.Test.YtjagohadeegghaaNewBest
namespace Go.Proofs.Ytjagohadeegghaa
open Go.RowKit
set_option linter.unusedVariables false
set_option linter.unusedSimpArgs false
theorem Wk.Nw.up {w : World} {base top top' P M n lev : Nat} {g : Int → So.E} (h : Wk.Nw w base top P M n lev g) (ht : top ≤ top') : Wk.Nw w base top' P M n lev g := by
  obtain ⟨u, v, Lb, La, h1, h2, h3, h4, h5, h6, h7, h8, h9⟩ := h.ls
  exact ⟨h.P0, Nat.lt_of_lt_of_le h.P1 ht, h.M0, Nat.lt_of_lt_of_le h.M1 ht, h.kd, h.mp, h.fz, h.hold, u, v, Lb, La, h1, h2, h3, h4, h5, h6, h7, fun k hk => Nat.lt_of_lt_of_le (h8 k hk) ht, fun k hk => Nat.lt_of_lt_of_le (h9 k hk) ht⟩
/-- the orders of the first levels put in -/
def Wk.fill (buy : Bool) (F : List Or.E) (g : Int → So.E) : Int → So.E := F.foldl (fun g o => So.put g (o, buy)) g
theorem Wk.fill_append (buy : Bool) (F G : List Or.E) (g : Int → So.E) : Wk.fill buy (F ++ G) g = Wk.fill buy G (Wk.fill buy F g) := by unfold Wk.fill; rw [List.foldl_append]
set_option maxRecDepth 100000 in
set_option maxHeartbeats 8000000 in
theorem newWorkOf_any (u v : Value) (n : Int) (B A : List Lv.E) (w : World) (hu : Lv.View w u B) (hv : Lv.View w v A) (l0 : B.length ≤ 24) (l1 : A.length ≤ 24) (m0 : (Nb.flat B).length + (Nb.flat A).length ≤ 24) (hids : ∀ o ∈ Nb.flat B ++ Nb.flat A, 1 ≤ o.1 ∧ o.1 ≤ 1000000) :
    Calls Try.prog 92 #[.agg #[u, v, .int .i64 n]] w fun e w' => (∃ P M nn lev, e = .returned (.pointer (some ⟨P, 0, none⟩)) ∧ Wk.Nw w' (w.heap.size + 1) w'.heap.size P M nn lev ((Nb.flat A).foldl (fun g o => So.put g (o, false)) ((Nb.flat B).foldl (fun g o => So.put g (o, true)) (fun _ => So.z)))) ∧ Below w.heap.size w w' := by
  obtain ⟨W, hW⟩ : ∃ W, W = w.alloc (.cells #[u, v, .int .i64 n] 28) := ⟨_, rfl⟩
  have b0 : Below w.heap.size w W := by rw [hW]; exact (Below.refl _ _).alloc (Nat.le_refl _) _
  have c0 : W.cell? ⟨w.heap.size, 0, none⟩ = some u := by rw [hW, Fk.cellTop _ _ _ _ _ rfl]; rfl
  have c1 : W.cell? ⟨w.heap.size, 1, none⟩ = some v := by rw [hW, Fk.cellTop _ _ _ _ _ rfl]; rfl
  have c2 : W.cell? ⟨w.heap.size, 2, none⟩ = some (.int .i64 n) := by rw [hW, Fk.cellTop _ _ _ _ _ rfl]; rfl
  have hz : W.heap.size = w.heap.size + 1 := by rw [hW]; simp
  have HU := Fk.hide hu
  have HV := Fk.hide hv
  have HID := Fk.hide hids
  obtain ⟨a0, cap0, rfl⟩ := hu.slice
  obtain ⟨a1, cap1, rfl⟩ := hv.slice
  have HW := Fk.hide hW
  clear hW hu hv hids
  have hmk := run_makeMap (P := Try.prog) 120 (w.alloc (.cells #[.slice a0 B.length cap0, .slice a1 A.length cap1, .int .i64 n] 28))
  have l2 : ((w.alloc (.cells #[.slice a0 B.length cap0, .slice a1 A.length cap1, .int .i64 n] 28)).alloc (.map #[] 0)).cell? ⟨w.heap.size, 2, none⟩ = some (.int .i64 n) := by
    have hb : Below (w.alloc (.cells #[.slice a0 B.length cap0, .slice a1 A.length cap1, .int .i64 n] 28)).heap.size (w.alloc (.cells #[.slice a0 B.length cap0, .slice a1 A.length cap1, .int .i64 n] 28)) ((w.alloc (.cells #[.slice a0 B.length cap0, .slice a1 A.length cap1, .int .i64 n] 28)).alloc (.map #[] 0)) := (Below.refl _ _).alloc (Nat.le_refl _) _
    refine (hb.cell (p := ⟨w.heap.size, 2, none⟩) (by show w.heap.size < _; simp)).trans ?_
    rw [← HW.out]; exact c2
  go_enter Try.func92, Try.ntmps92
  go_wp2_with fail
  obtain ⟨Z, hZ⟩ : ∃ Z, Z = ((((w.alloc (.cells #[.slice a0 B.length cap0, .slice a1 A.length cap1, .int .i64 n] 28)).alloc (.map #[] 0)).alloc (.cells #[.slice none 0 0, .map (some (w.heap.size + 1)), .slice none 0 0, .slice none 0 0, .int .i64 n] 123)).alloc (.cells #[.bool true, .bool false] 4)) := ⟨_, rfl⟩
  have hz1 : (w.alloc (.cells #[.slice a0 B.length cap0, .slice a1 A.length cap1, .int .i64 n] 28)).heap.size = w.heap.size + 1 := by simp
  have hz2 : ((w.alloc (.cells #[.slice a0 B.length cap0, .slice a1 A.length cap1, .int .i64 n] 28)).alloc (.map #[] 0)).heap.size = w.heap.size + 1 + 1 := by simp
  have hz3 : (((w.alloc (.cells #[.slice a0 B.length cap0, .slice a1 A.length cap1, .int .i64 n] 28)).alloc (.map #[] 0)).alloc (.cells #[.slice none 0 0, .map (some (w.heap.size + 1)), .slice none 0 0, .slice none 0 0, .int .i64 n] 123)).heap.size = w.heap.size + 1 + 1 + 1 := by simp
  have b1 : Below w.heap.size w (w.alloc (.cells #[.slice a0 B.length cap0, .slice a1 A.length cap1, .int .i64 n] 28)) := (Below.refl _ _).alloc (Nat.le_refl _) _
  have b2 : Below (w.alloc (.cells #[.slice a0 B.length cap0, .slice a1 A.length cap1, .int .i64 n] 28)).heap.size (w.alloc (.cells #[.slice a0 B.length cap0, .slice a1 A.length cap1, .int .i64 n] 28)) ((w.alloc (.cells #[.slice a0 B.length cap0, .slice a1 A.length cap1, .int .i64 n] 28)).alloc (.map #[] 0)) := (Below.refl _ _).alloc (Nat.le_refl _) _
  have b3 : Below ((w.alloc (.cells #[.slice a0 B.length cap0, .slice a1 A.length cap1, .int .i64 n] 28)).alloc (.map #[] 0)).heap.size ((w.alloc (.cells #[.slice a0 B.length cap0, .slice a1 A.length cap1, .int .i64 n] 28)).alloc (.map #[] 0)) (((w.alloc (.cells #[.slice a0 B.length cap0, .slice a1 A.length cap1, .int .i64 n] 28)).alloc (.map #[] 0)).alloc (.cells #[.slice none 0 0, .map (some (w.heap.size + 1)), .slice none 0 0, .slice none 0 0, .int .i64 n] 123)) := (Below.refl _ _).alloc (Nat.le_refl _) _
  have b4 : Below (((w.alloc (.cells #[.slice a0 B.length cap0, .slice a1 A.length cap1, .int .i64 n] 28)).alloc (.map #[] 0)).alloc (.cells #[.slice none 0 0, .map (some (w.heap.size + 1)), .slice none 0 0, .slice none 0 0, .int .i64 n] 123)).heap.size (((w.alloc (.cells #[.slice a0 B.length cap0, .slice a1 A.length cap1, .int .i64 n] 28)).alloc (.map #[] 0)).alloc (.cells #[.slice none 0 0, .map (some (w.heap.size + 1)), .slice none 0 0, .slice none 0 0, .int .i64 n] 123)) Z := by rw [hZ]; exact (Below.refl _ _).alloc (Nat.le_refl _) _
  have hzZ : Z.heap.size = w.heap.size + 4 := by rw [hZ]; simp
  have e3 := heap_alloc_new ((w.alloc (.cells #[.slice a0 B.length cap0, .slice a1 A.length cap1, .int .i64 n] 28)).alloc (.map #[] 0)) (.cells #[.slice none 0 0, .map (some (w.heap.size + 1)), .slice none 0 0, .slice none 0 0, .int .i64 n] 123)
  rw [hz2] at e3
  have eP := (b4.block (w.heap.size + 1 + 1) (by rw [hz3]; omega)).trans e3
  have e4 := heap_alloc_new (((w.alloc (.cells #[.slice a0 B.length cap0, .slice a1 A.length cap1, .int .i64 n] 28)).alloc (.map #[] 0)).alloc (.cells #[.slice none 0 0, .map (some (w.heap.size + 1)), .slice none 0 0, .slice none 0 0, .int .i64 n] 123)) (.cells #[.bool true, .bool false] 4)
  rw [hz3, ← hZ] at e4
  have hmade := So.Holds.made (w.alloc (.cells #[.slice a0 B.length cap0, .slice a1 A.length cap1, .int .i64 n] 28)) Try.prog 2
  rw [hz1] at hmade
  have HNZ : Hid (Wk.Nw Z (w.heap.size + 1) Z.heap.size (w.heap.size + 1 + 1) (w.heap.size + 1) 0 0 (fun _ => So.z)) := by
    have hold : So.Holds Z Try.prog 2 (w.heap.size + 1) 0 (fun _ => So.z) := hmade.of_block ((b4.block _ (by rw [hz3]; omega)).trans (b3.block _ (by rw [hz2]; omega)))
    refine ⟨by omega, by omega, by omega, by omega, ⟨_, _, eP⟩, ?_, fun j => ?_, hold, .slice none 0 0, .slice none 0 0, [], [], ?_, ?_, Rk.own_nil _ _ _, Rk.own_nil _ _ _, by simp, by simp, fun k hk => (by cases hk), fun k hk => (by cases hk), fun k hk => (by cases hk)⟩
    · simp [World.cell?, eP]
    · simp [World.frozen?, eP]
    · simp [World.cell?, eP]
    · simp [World.cell?, eP]
  have HBZ : Hid (Below w.heap.size w Z) := ((b1.trans (b2.mono (by omega))).trans (b3.mono (by omega))).trans (b4.mono (by omega))
  have HEL := Fk.hide e4
  have eB : Z.heap[w.heap.size]? = (w.alloc (.cells #[.slice a0 B.length cap0, .slice a1 A.length cap1, .int .i64 n] 28)).heap[w.heap.size]? := (b4.block _ (by rw [hz3]; omega)).trans ((b3.block _ (by rw [hz2]; omega)).trans (b2.block _ (by rw [hz1]; omega)))
  have HZB : Hid (Z.cell? ⟨w.heap.size, 0, none⟩ = some (.slice a0 B.length cap0) ∧ Z.cell? ⟨w.heap.size, 1, none⟩ = some (.slice a1 A.length cap1) ∧ Z.cell? ⟨w.heap.size, 2, none⟩ = some (.int .i64 n)) := by
    rw [← HW.out] at eB
    exact ⟨(World.cell?_of_block (a := ⟨w.heap.size, 0, none⟩) eB).trans c0, (World.cell?_of_block (a := ⟨w.heap.size, 1, none⟩) eB).trans c1, (World.cell?_of_block (a := ⟨w.heap.size, 2, none⟩) eB).trans c2⟩
  rw [← hZ]
  clear hZ b1 b2 b3 b4 e3 eP e4 hmade eB hmk l2 c0 c1 c2 b0 HW hz1 hz2 hz3
  go_loopw [15] (fun i wr => ∃ (k nn lev : Nat) (g : Int → So.E), k ≤ 2 ∧ i = .int .i64 k ∧ w.heap.size + 4 ≤ wr.heap.size ∧ Hid (Wk.Nw wr (w.heap.size + 1) wr.heap.size (w.heap.size + 1 + 1) (w.heap.size + 1) nn lev g) ∧ Hid (Below w.heap.size w wr) ∧ Hid (wr.heap[w.heap.size]? = Z.heap[w.heap.size]?) ∧ Hid (wr.heap[w.heap.size + 1 + 1 + 1]? = Z.heap[w.heap.size + 1 + 1 + 1]?) ∧ Hid ((k = 0 ∧ nn = 0 ∧ lev = 0 ∧ g = fun _ => So.z) ∨ (k = 1 ∧ nn = (Nb.flat B).length ∧ lev = B.length ∧ g = Wk.fill true (Nb.flat B) (fun _ => So.z)) ∨ (k = 2 ∧ g = Wk.fill false (Nb.flat A) (Wk.fill true (Nb.flat B) (fun _ => So.z))))) (fun i _ => 2 - (intOf i).toNat)
  case atStart => exact ⟨0, 0, 0, _, by omega, rfl, by omega, HNZ, HBZ, rfl, rfl, .inl ⟨rfl, rfl, rfl, rfl⟩⟩
  case round =>
    obtain ⟨k, nn, lev, g, hk, rfl, hzr, HN, HB, HEB, HEBL, HS⟩ := hrel
    obtain ⟨wo, hwo⟩ : ∃ x, x = wr := ⟨_, rfl⟩
    subst hwo
    clear HNZ HBZ
    have d0 := (World.cell?_of_block (a := ⟨w.heap.size, 0, none⟩) HEB.out).trans HZB.out.1
    have d1 := (World.cell?_of_block (a := ⟨w.heap.size, 1, none⟩) HEB.out).trans HZB.out.2.1
    have d2 := (World.cell?_of_block (a := ⟨w.heap.size, 2, none⟩) HEB.out).trans HZB.out.2.2
    have l0' : wo.cell? ⟨w.heap.size + 1 + 1 + 1, 0, none⟩ = some (.bool true) := by rw [World.cell?_of_block (a := ⟨w.heap.size + 1 + 1 + 1, 0, none⟩) HEBL.out]; simp [World.cell?, HEL.out]
    have l1' : wo.cell? ⟨w.heap.size + 1 + 1 + 1, 1, none⟩ = some (.bool false) := by rw [World.cell?_of_block (a := ⟨w.heap.size + 1 + 1 + 1, 1, none⟩) HEBL.out]; simp [World.cell?, HEL.out]
    rcases HS.out with ⟨rfl, rfl, rfl, rfl⟩ | ⟨rfl, rfl, rfl, rfl⟩ | ⟨rfl, rfl⟩
    · go_wp2_with fail
      refine (levelsOf_yes _ _ _ _).mono ?_
      rintro e w2 ⟨rfl, k2⟩
      have hz2 : wo.heap.size ≤ w2.heap.size := k2.size
      have HN2 := Fk.hide ((HN.out.keep k2).up hz2)
      have HB2 : Hid (Below w.heap.size w w2) := HB.out.trans (k2.mono (by omega))
      have HEB2 : Hid (w2.heap[w.heap.size]? = Z.heap[w.heap.size]?) := (k2.block _ (by omega)).trans HEB.out
      have HEL2 : Hid (w2.heap[w.heap.size + 1 + 1 + 1]? = Z.heap[w.heap.size + 1 + 1 + 1]?) := (k2.block _ (by omega)).trans HEBL.out
      clear k2 d0 d1 d2 l0' l1' HN HB HEB HEBL
      go_wp2_with fail
      go_loopw [23] (fun i wr => ∃ m : Nat, m ≤ B.length ∧ i = .int .i64 m ∧ w.heap.size + 4 ≤ wr.heap.size ∧ Hid (Wk.Nw wr (w.heap.size + 1) wr.heap.size (w.heap.size + 1 + 1) (w.heap.size + 1) (0 + (Nb.flat (B.take m)).length) (0 + m) (Wk.fill true (Nb.flat (B.take m)) (fun _ => So.z))) ∧ Hid (Below w.heap.size w wr) ∧ Hid (wr.heap[w.heap.size]? = Z.heap[w.heap.size]?) ∧ Hid (wr.heap[w.heap.size + 1 + 1 + 1]? = Z.heap[w.heap.size + 1 + 1 + 1]?)) (fun i _ => B.length - (intOf i).toNat)
      case atStart => exact ⟨0, Nat.zero_le _, rfl, by omega, (by show Wk.Nw _ _ _ _ _ _ _ _; simpa [Nb.flat, Wk.fill] using HN2.out), HB2, HEB2, HEL2⟩
      case round =>
        obtain ⟨m, hm, rfl, hzs, HNR, HBR, HER, HLR⟩ := hrel
        by_cases hlt : m < B.length
        · obtain ⟨b, o, q, mm, c, rfl, hb, pw0, pw1, hmm, hvi, _⟩ := HU.out.at hlt
          have p0 := (HBR.out.cell (p := ⟨b, o + m * 2, none⟩) (by exact hb)).trans pw0
          have p1 := (HBR.out.cell (p := ⟨b, o + m * 2 + 1, none⟩) (by exact hb)).trans pw1
          clear pw0 pw1
          have hpl := Nb.part_le B m hlt
          have HFS := Fk.hide (Nb.flat_step B m hlt)
          have HIE : Hid (∀ o ∈ (Lv.at' B m).2, 1 ≤ o.1 ∧ o.1 ≤ 1000000) := fun o ho => HID.out o (List.mem_append.2 (.inl ((Nb.mem_flat B o).2 ⟨m, hlt, ho⟩)))
          obtain ⟨pr, hpr⟩ : ∃ x, x = (Lv.at' B m).1 := ⟨_, rfl⟩
          obtain ⟨E2, hE2⟩ : ∃ x, x = (Lv.at' B m).2 := ⟨_, rfl⟩
          rw [← hE2] at hmm hvi hpl HFS HIE
          rw [← hpr] at p0
          clear hpr hE2
          subst hmm
          obtain ⟨Y, hY⟩ : ∃ Y, Y = wr.alloc (.cells #[.int .i64 pr, .slice q E2.length c] 103) := ⟨_, rfl⟩
          have bY : Below wr.heap.size wr Y := by rw [hY]; exact (Below.refl _ _).alloc (Nat.le_refl _) _
          have hzY : Y.heap.size = wr.heap.size + 1 := by rw [hY]; simp
          have HY := Fk.hide hY
          have HNY := Fk.hide ((HNR.out.keep bY).up (show wr.heap.size ≤ Y.heap.size by omega))
          have HBY : Hid (Below w.heap.size w Y) := HBR.out.trans (bY.mono (by omega))
          have HEY : Hid (Y.heap[w.heap.size]? = Z.heap[w.heap.size]?) := (bY.block _ (by omega)).trans HER.out
          have HLY : Hid (Y.heap[w.heap.size + 1 + 1 + 1]? = Z.heap[w.heap.size + 1 + 1 + 1]?) := (bY.block _ (by omega)).trans HLR.out
          have HVI := Fk.hide hvi
          clear hY bY HNR HBR HER HLR hvi
          go_wp2_with fail
          rw [← HY.out]
          refine (addLevel_any (w.heap.size + 1) (w.heap.size + 1 + 1) (w.heap.size + 1) _ _ _ pr _ true E2 w Y HNY.out HVI.out (by omega) HBY.out (by omega) (by omega) HIE.out (by omega) (by omega)).mono ?_
          rintro e w6 ⟨rfl, n6, k6, f6⟩
          have hz6 : Y.heap.size ≤ w6.heap.size := k6.size
          have HN6 : Hid (Wk.Nw w6 (w.heap.size + 1) w6.heap.size (w.heap.size + 1 + 1) (w.heap.size + 1) (0 + (Nb.flat (B.take (m + 1))).length) (0 + (m + 1)) (Wk.fill true (Nb.flat (B.take (m + 1))) (fun _ => So.z))) := by
            show Wk.Nw _ _ _ _ _ _ _ _
            rw [HFS.out, Wk.fill_append, List.length_append, ← Nat.add_assoc]
            exact n6
          have HB6 : Hid (Below w.heap.size w w6) := HBY.out.trans (k6.mono (by omega))
          have HE6 : Hid (w6.heap[w.heap.size]? = Z.heap[w.heap.size]?) := (k6.block _ (by omega)).trans HEY.out
          have HL6 : Hid (w6.heap[w.heap.size + 1 + 1 + 1]? = Z.heap[w.heap.size + 1 + 1 + 1]?) := (f6 _ 4 (by omega) ⟨_, _, HLY.out.trans HEL.out⟩ (by decide) (by decide)).trans HLY.out
          clear n6 k6 f6
          go_wp2_with fail
          go_roundw
          case rel => exact ⟨m + 1, by omega, by go_num, by omega, HN6, HB6, HE6, HL6⟩
          case measure => simp [intOf]; omega
        · have em : m = B.length := by omega
          subst em
          rw [Nb.flat_all] at HNR
          go_wp2_with fail
          go_roundw
          case rel => exact ⟨1, _, _, _, by omega, by go_num, hzs, HNR, HBR, HER, HLR, .inr (.inl ⟨rfl, by omega, by omega, rfl⟩)⟩
          case measure => simp [intOf]
    · go_wp2_with fail
      refine (levelsOf_no _ _ _ _).mono ?_
      rintro e w2 ⟨rfl, k2⟩
      have hz2 : wo.heap.size ≤ w2.heap.size := k2.size
      have HN2 := Fk.hide ((HN.out.keep k2).up hz2)
      have HB2 : Hid (Below w.heap.size w w2) := HB.out.trans (k2.mono (by omega))
      have HEB2 : Hid (w2.heap[w.heap.size]? = Z.heap[w.heap.size]?) := (k2.block _ (by omega)).trans HEB.out
      have HEL2 : Hid (w2.heap[w.heap.size + 1 + 1 + 1]? = Z.heap[w.heap.size + 1 + 1 + 1]?) := (k2.block _ (by omega)).trans HEBL.out
      clear k2 d0 d1 d2 l0' l1' HN HB HEB HEBL
      go_wp2_with fail
      go_loopw [23] (fun i wr => ∃ m : Nat, m ≤ A.length ∧ i = .int .i64 m ∧ w.heap.size + 4 ≤ wr.heap.size ∧ Hid (Wk.Nw wr (w.heap.size + 1) wr.heap.size (w.heap.size + 1 + 1) (w.heap.size + 1) ((Nb.flat B).length + (Nb.flat (A.take m)).length) (B.length + m) (Wk.fill false (Nb.flat (A.take m)) (Wk.fill true (Nb.flat B) (fun _ => So.z)))) ∧ Hid (Below w.heap.size w wr) ∧ Hid (wr.heap[w.heap.size]? = Z.heap[w.heap.size]?) ∧ Hid (wr.heap[w.heap.size + 1 + 1 + 1]? = Z.heap[w.heap.size + 1 + 1 + 1]?)) (fun i _ => A.length - (intOf i).toNat)
      case atStart => exact ⟨0, Nat.zero_le _, rfl, by omega, (by show Wk.Nw _ _ _ _ _ _ _ _; simpa [Nb.flat, Wk.fill] using HN2.out), HB2, HEB2, HEL2⟩
      case round =>
        obtain ⟨m, hm, rfl, hzs, HNR, HBR, HER, HLR⟩ := hrel
        by_cases hlt : m < A.length
        · obtain ⟨b, o, q, mm, c, rfl, hb, pw0, pw1, hmm, hvi, _⟩ := HV.out.at hlt
          have p0 := (HBR.out.cell (p := ⟨b, o + m * 2, none⟩) (by exact hb)).trans pw0
          have p1 := (HBR.out.cell (p := ⟨b, o + m * 2 + 1, none⟩) (by exact hb)).trans pw1
          clear pw0 pw1
          have hpl := Nb.part_le A m hlt
          have HFS := Fk.hide (Nb.flat_step A m hlt)
          have HIE : Hid (∀ o ∈ (Lv.at' A m).2, 1 ≤ o.1 ∧ o.1 ≤ 1000000) := fun o ho => HID.out o (List.mem_append.2 (.inr ((Nb.mem_flat A o).2 ⟨m, hlt, ho⟩)))
          obtain ⟨pr, hpr⟩ : ∃ x, x = (Lv.at' A m).1 := ⟨_, rfl⟩
          obtain ⟨E2, hE2⟩ : ∃ x, x = (Lv.at' A m).2 := ⟨_, rfl⟩
          rw [← hE2] at hmm hvi hpl HFS HIE
          rw [← hpr] at p0
          clear hpr hE2
          subst hmm
          obtain ⟨Y, hY⟩ : ∃ Y, Y = wr.alloc (.cells #[.int .i64 pr, .slice q E2.length c] 103) := ⟨_, rfl⟩
          have bY : Below wr.heap.size wr Y := by rw [hY]; exact (Below.refl _ _).alloc (Nat.le_refl _) _
          have hzY : Y.heap.size = wr.heap.size + 1 := by rw [hY]; simp
          have HY := Fk.hide hY
          have HNY := Fk.hide ((HNR.out.keep bY).up (show wr.heap.size ≤ Y.heap.size by omega))
          have HBY : Hid (Below w.heap.size w Y) := HBR.out.trans (bY.mono (by omega))
          have HEY : Hid (Y.heap[w.heap.size]? = Z.heap[w.heap.size]?) := (bY.block _ (by omega)).trans HER.out
          have HLY : Hid (Y.heap[w.heap.size + 1 + 1 + 1]? = Z.heap[w.heap.size + 1 + 1 + 1]?) := (bY.block _ (by omega)).trans HLR.out
          have HVI := Fk.hide hvi
          clear hY bY HNR HBR HER HLR hvi
          go_wp2_with fail
          rw [← HY.out]
          refine (addLevel_any (w.heap.size + 1) (w.heap.size + 1 + 1) (w.heap.size + 1) _ _ _ pr _ false E2 w Y HNY.out HVI.out (by omega) HBY.out (by omega) (by omega) HIE.out (by omega) (by omega)).mono ?_
          rintro e w6 ⟨rfl, n6, k6, f6⟩
          have hz6 : Y.heap.size ≤ w6.heap.size := k6.size
          have HN6 : Hid (Wk.Nw w6 (w.heap.size + 1) w6.heap.size (w.heap.size + 1 + 1) (w.heap.size + 1) ((Nb.flat B).length + (Nb.flat (A.take (m + 1))).length) (B.length + (m + 1)) (Wk.fill false (Nb.flat (A.take (m + 1))) (Wk.fill true (Nb.flat B) (fun _ => So.z)))) := by
            show Wk.Nw _ _ _ _ _ _ _ _
            rw [HFS.out, Wk.fill_append, List.length_append, ← Nat.add_assoc]
            exact n6
          have HB6 : Hid (Below w.heap.size w w6) := HBY.out.trans (k6.mono (by omega))
          have HE6 : Hid (w6.heap[w.heap.size]? = Z.heap[w.heap.size]?) := (k6.block _ (by omega)).trans HEY.out
          have HL6 : Hid (w6.heap[w.heap.size + 1 + 1 + 1]? = Z.heap[w.heap.size + 1 + 1 + 1]?) := (f6 _ 4 (by omega) ⟨_, _, HLY.out.trans HEL.out⟩ (by decide) (by decide)).trans HLY.out
          clear n6 k6 f6
          go_wp2_with fail
          go_roundw
          case rel => exact ⟨m + 1, by omega, by go_num, by omega, HN6, HB6, HE6, HL6⟩
          case measure => simp [intOf]; omega
        · have em : m = A.length := by omega
          subst em
          rw [Nb.flat_all] at HNR
          go_wp2_with fail
          go_roundw
          case rel => exact ⟨2, _, _, _, by omega, by go_num, hzs, HNR, HBR, HER, HLR, .inr (.inr ⟨rfl, rfl⟩)⟩
          case measure => simp [intOf]
    · go_wp2_with fail
      go_ret
      exact ⟨⟨w.heap.size + 1 + 1, rfl, w.heap.size + 1, nn, lev, HN.out⟩, HB.out⟩
end Go.Proofs.Ytjagohadeegghaa
