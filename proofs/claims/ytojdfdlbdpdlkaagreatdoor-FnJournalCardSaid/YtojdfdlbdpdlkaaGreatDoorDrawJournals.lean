/- The walk of the specification's drawn journals. -/
import Derived.Test.YtojdfdlbdpdlkaaGreatDoorJournalHold
import Derived.Test.YtojdfdlbdpdlkaaGreatDoorJoined15
import Derived.Test.YtojdfdlbdpdlkaaGreatDoorJoined16
import Derived.Test.YtojdfdlbdpdlkaaGreatDoorJoined17
import Derived.Test.YtojdfdlbdpdlkaaGreatDoorDrawFs
import Derived.Deep.RegionHeld3
namespace Go.Proofs.YtojdfdlbdpdlkaaGreatDoor
open Go.RowKit
set_option linter.unusedVariables false
set_option linter.unusedSimpArgs false

set_option maxHeartbeats 4000000 in
theorem l10Fs_any (B S : Nat) (w : World) (hs : Dk.Src B w S) :
    Calls Tryz.prog 21 #[.pointer (some ⟨S, 0, none⟩)] w fun e w' => (∃ u R, e = .returned (.agg #[u]) ∧ Fk.Own w' w.heap.size 75 u R ∧ Dj.Fit R ∧ R.length ≤ 2000) ∧ Dk.Src B w' S ∧ w.grownBy w' (some S) := by
  obtain ⟨hBS, hSw⟩ := hs.lt
  have HS := Fk.hide hs
  clear hs
  go_enter Tryz.func21, Tryz.ntmps21
  go_wp2_with fail
  have b0 : Below w.heap.size w (w.alloc (.cells #[.slice none 0 0] 25)) := (Below.refl _ _).alloc (Nat.le_refl _) _
  refine (drawFs_any B S _ (HS.out.below b0)).mono ?_
  rintro e w1 ⟨⟨u0, R0, rfl, ho0, hf0, hl0⟩, s1, g1⟩
  have hsz : (w.alloc (.cells #[.slice none 0 0] 25)).heap.size = w.heap.size + 1 := by simp
  rw [hsz] at ho0
  obtain ⟨ua0, un0, uc0, rfl⟩ := ho0.slice'
  have hpw : w.heap.size + 1 ≤ w1.heap.size := by have := g1.size; rw [hsz] at this; omega
  have c0 : w1.cell? ⟨w.heap.size, 0, none⟩ = some (.slice none 0 0) := (g1.cell_far ⟨w.heap.size, 0, none⟩ (by simp) (fun h => by have h9 : w.heap.size = S := Option.some.inj h; omega)).trans (by rw [Fk.cellTop _ _ _ _ _ (by simp)]; rfl)
  have f0 : ∀ j, w1.frozen? ⟨w.heap.size, j, none⟩ = false := fun j => (g1.frozen_far ⟨w.heap.size, j, none⟩ (by simp) (fun h => by have h9 : w.heap.size = S := Option.some.inj h; omega)).trans (by rw [Fk.frozTop _ _ _ _ _ (by simp)])
  have b1 : Below w1.heap.size w1 (w1.alloc (.cells #[.slice ua0 un0 uc0] 25)) := (Below.refl _ _).alloc (Nat.le_refl _) _
  have HH : Hid (Dj.Hp B S w1.heap.size w (w1.alloc (.cells #[.slice ua0 un0 uc0] 25)) (.slice ua0 un0 uc0) R0) := ⟨by rw [Fk.cellTop _ _ _ _ _ rfl]; rfl, fun j => by rw [Fk.frozTop _ _ _ _ _ rfl], ho0.below b1, Dj.fit_of hf0, hl0, s1.below b1, Fk.grownBy_trans (Fk.grownBy_trans (Fk.grownBy_below (some S) b0) g1) (Fk.grownBy_below (some S) b1), ⟨hpw, by simp, Dk.own_ne' ho0⟩, (b1.cell (by show w.heap.size < _; omega)).trans c0, fun j => (b1.frozen (by show w.heap.size < _; omega)).trans (f0 j)⟩
  have HF0 : Hid (Dk.Fit R0) := hf0
  clear b0 b1 c0 f0 ho0 hf0 s1 g1 hsz hl0
  go_wp2_with fail
  refine (drawN_any B S 6 _ HH.out.2.2.2.2.2.1 (by omega)).mono ?_
  rintro e w2 ⟨⟨k0, rfl, hk0, hk1, _⟩, s2, g2⟩
  have H2 := Fk.hide (HH.out.draw hSw s2 g2)
  have hk := hk1 (by omega)
  obtain ⟨p, hp⟩ : ∃ p, p = w1.heap.size := ⟨_, rfl⟩
  rw [← hp] at H2 hpw
  clear hk1 s2 g2 HH
  go_wp2_with fail
  rw [← hp]
  go_loopw [4] (fun i wr => ∃ (k : Int) (va : Option Addr) (vn vc : Nat) (R : List Fk.Fl), i = .int .i64 k ∧ 0 ≤ k ∧ k ≤ 5 ∧ Hid (Dk.Fit R) ∧ Hid (Dj.Hp B S p w wr (.slice va vn vc) R)) (fun i _ => (intOf i).toNat)
  case atStart => exact ⟨k0, _, _, _, _, rfl, hk0, by omega, HF0.out, H2.out⟩
  case round =>
    obtain ⟨k, ua, un, uc, R, rfl, hk0, hk5, HFR, HO⟩ := hrel
    clear H2 hp HF0
    by_cases hlt : 0 < k
    · have HU : Hid (∀ b, wr.heap.size ≤ b → Value.ownBlock (.slice ua un uc) ≠ some b) := fun b hb e => by have := (World.ownsRow.lt HO.out.2.2.1 b e).2; omega
      have HSz : Hid (S < wr.heap.size) := by have := HO.out.2.2.2.2.2.2.2.1.2.1; show S < _; omega
      have HZ2 : Hid (p + 1 ≤ wr.heap.size) := HO.out.2.2.2.2.2.2.2.1.2.1
      have HF : Hid (Fk.Fits R) := HO.out.2.2.2.1.1
      have hRl := HO.out.2.2.2.2.1
      have HD := Dj.regBelow (B := B) (S := S) (p := p) (w := w) (z := wr.heap.size) (u := .slice ua un uc) (R := R) (w2 := wr.drew) (Below.drew (Below.refl _ _)) ⟨HO.out.1, HO.out, Nat.le_refl _⟩
      have HYa : Hid (Dk.Y wr.heap.size (wr.drew.alloc (.cells #[.slice none 0 0, .int .i64 0] 29)) wr.heap.size (.slice none 0 0) (.int .i64 0)) := Dk.Y.new (w' := wr.drew) (Nat.le_refl _)
      have HYb : Hid (Dk.Y wr.heap.size (wr.alloc (.cells #[.slice none 0 0, .int .i64 0] 29)).drew wr.heap.size (.slice none 0 0) (.int .i64 0)) := Dk.Y.below (Below.drew (Below.refl _ _)) (Dk.Y.new (Nat.le_refl _))
      go_wp2_with fail
      refine Code.wp_mono (Q := fun e a w' => e = .normal ∧ ∃ (b : Nat) (va : Option Addr) (vn vc : Nat) (M : List Fk.Fl) (c : Int) (t16 t17 t18 t19 t20 t21 t22 t23 : Value), a = ⟨(Value.pointer (some ⟨S, 0, none⟩) :: undef :: Value.pointer (some ⟨w.heap.size, 0, none⟩) :: Value.pointer (some ⟨p, 0, none⟩) :: Value.int .i64 k :: Value.pointer (some ⟨b, 0, none⟩) :: undef :: undef :: Value.pointer (some ⟨S, 0, none⟩) :: Value.agg #[Value.slice ua0 un0 uc0] :: Value.pointer (some ⟨S, 0, none⟩) :: Value.int .i64 k0 :: Value.int .i64 k :: Value.bool true :: u14 :: u15 :: t16 :: t17 :: t18 :: t19 :: t20 :: t21 :: t22 :: t23 :: u24 :: u25 :: u26 :: u27 :: u28 :: undef :: undef :: undef :: undef :: undef :: undef :: undef :: undef :: undef :: undef :: undef :: undef :: undef :: undef :: undef :: undef :: undef :: undef :: undef :: undef :: undef :: undef :: undef :: undef :: undef :: undef :: undef :: undef :: undef :: undef :: undef :: undef :: undef :: undef :: undef :: undef :: undef :: undef :: undef :: undef :: undef :: undef :: undef :: undef :: undef :: undef :: undef :: undef :: []).toArray, []⟩ ∧ Hid (Dj.Hold2 B S p w w' (.slice ua un uc) R b (.slice va vn vc) M c)) ?_ ?_
      · rintro e a w6 ⟨rfl, b, va, vn, vc, M, c, t16, t17, t18, t19, t20, t21, t22, t23, rfl, H6⟩
        have f1 := H6.out.1.1
        have f2 := H6.out.1.2.1
        have f3 := H6.out.2.1.out.2.2.1
        have f4 := H6.out.2.1.out.2.2.2.1
        by_cases hc : c = 0
        · subst hc
          have HN := Fk.hide (H6.out.1.set hSw H6.out.2.2.1 H6.out.2.2.2.1 (by have := H6.out.2.2.2.2.1; omega))
          have HNF : Hid (Dk.Fit M) := H6.out.2.2.2.1
          go_wp2_with fail
          go_roundw
          case rel => exact ⟨k - 1, _, _, _, M, by go_num, by omega, by omega, HNF.out, HN.out⟩
          case measure => simp [intOf]; omega
        · have hc' : (c == 0) = false := by simpa using hc
          have HN := Fk.hide H6.out.1
          go_wp2_with fail
          go_roundw
          case rel => exact ⟨k - 1, _, _, _, R, by go_num, by omega, by omega, HFR.out, HN.out⟩
          case measure => simp [intOf]; omega
      · go_region_held3 (fun w' => w'.cell? ⟨p, 0, none⟩ = some (.slice ua un uc) ∧ Hid (Dj.Reg B S p w wr.heap.size w' (.slice ua un uc) R))
          (first
            | assumption
            | exact Dj.regAlloc (by assumption)
            | exact Dj.regStore hSw (Nat.le_trans HZ2.out (by assumption)) (HU.out _ (by assumption)) (Dj.regStore hSw (Nat.le_trans HZ2.out (by assumption)) (HU.out _ (by assumption)) (by assumption)))
          (first
            | (go_at_call 23; refine (drawN_any B S 5 _ (Dj.srcOf (by assumption)) (by omega)).mono ?_; rintro e w3 ⟨⟨r, rfl, hr0, hr1, _⟩, s3, g3⟩; have H3 := Dj.regDraw hSw s3 g3 (by assumption); have hr := hr1 (by omega); (first | have HY3 := Dk.Y.draw HSz.out g3 (by assumption) | have HY3 := Dk.Y.draw HSz.out g3 (Dk.Y.new (Dj.zOf (by assumption))) | skip); clear s3 g3 hr1)
            | (go_at_call 24; refine (drawBytes_any B S r _ (Dj.srcOf (by assumption)) (by omega)).mono ?_; rintro e w4 ⟨⟨x, rfl, hx⟩, s4, g4⟩; have H4 := Dj.regDraw hSw s4 g4 (by assumption); have HX := Fk.hide hx; (first | have HY4 := Dk.Y.draw HSz.out g4 (by assumption) | have HY4 := Dk.Y.draw HSz.out g4 (Dk.Y.new (Dj.zOf (by assumption))) | skip); clear s4 g4 hx)
            | (go_at_call 22; refine (drawOne_any B S 2 _ (Dj.srcOf (by assumption)) (by omega)).mono ?_; rintro e w7 ⟨⟨sy, rfl⟩, s7, g7⟩; have H7 := Dj.regDraw hSw s7 g7 (by assumption); (first | have HY7 := Dk.Y.draw HSz.out g7 (by assumption) | have HY7 := Dk.Y.draw HSz.out g7 (Dk.Y.new (Dj.zOf (by assumption))) | skip); clear s7 g7)
            | (go_at_call 11; refine (journalAdd_spec _ R x sy _ (w.heap.size + 1) (Dj.ownOf (by assumption)) HF.out (by unfold maxLen; omega) (by have := HX.out; unfold maxLen; omega)).mono ?_; rintro e w5 ⟨⟨v, M, c, rfl, ho5, ha5⟩, b5⟩; obtain ⟨va, vn, vc, rfl⟩ := ho5.slice'; have H5 := Dj.regBelow b5 (by assumption); have HZ5 := Fk.hide (Dj.zOf H5); have HO5 := Fk.hide ho5; have HA5 := Fk.hide (Dk.ans_fit (Jn.add_right ha5)); (first | have HY5 := Dk.Y.below b5 (by assumption) | have HY5 := Dk.Y.below b5 (Dk.Y.new (Dj.zOf (by assumption))) | skip); (first | (have y0 := HY5.out.1; have y1 := HY5.out.2.1; have y2 := HY5.out.2.2.1; have y3 := HY5.out.2.2.2.1; have y4 := HY5.out.2.2.2.2) | (have y0 := HZ5.out)); clear ho5 ha5 b5))
        all_goals
          refine ⟨rfl, _, va, vn, vc, M, c, _, _, _, _, _, _, _, _, rfl, ?_⟩
        all_goals first
          | exact Dj.Hold2.store hSw HZ2.out H5 HY5 (HU.out _ HY5.out.1) (Dk.own_ne HO5.out HY7.out.2.1) (HO5.out.mono (Nat.le_trans HZ2.out (Dj.zOf H7))) HA5.out
          | exact Dj.Hold2.store hSw HZ2.out H5 HY5 (HU.out _ HY5.out.1) (Dk.own_ne HO5.out (by simp)) (HO5.out.mono (Nat.le_trans HZ2.out (Nat.le_trans (Dj.zOf H7) (by simp)))) HA5.out
          | exact Dj.Hold2.new HZ2.out H5 (HU.out _ HZ5.out) (Dk.own_ne' HO5.out) (HO5.out.mono (Nat.le_trans HZ2.out (Dj.zOf H7))) HA5.out
    · have HO2 := Fk.hide HO.out.2.2.2.2.2.1
      have hk1 : ¬ 0 < k := hlt
      go_wp2_with fail
      refine (drawOne_any B S 3 _ HO2.out (by omega)).mono ?_
      rintro e wr1 ⟨⟨q, rfl⟩, s7, g7⟩
      have H7 := Fk.hide (HO.out.draw hSw s7 g7)
      clear s7 g7 HO2 HO
      cases q
      · have HFT := HFR
        go_wp2_with fail
        have HO3 := Fk.hide H7.out.2.2.2.2.2.1
        refine (drawOne_any B S 8 _ HO3.out (by omega)).mono ?_
        rintro e w9 ⟨⟨q2, rfl⟩, s9, g9⟩
        have H9 := Fk.hide (H7.out.draw hSw s9 g9)
        clear s9 g9 HO3 H7
        cases q2
        ·
          have f1 := H9.out.1
          have r1 := H9.out.2.2.2.2.2.2.2.2.1
          have r2 := H9.out.2.2.2.2.2.2.2.2.2
          have HE := Fk.hide (Dj.done hSw H9.out)
          have HFE := Fk.hide H9.out.2.2.2.1
          have hRl := H9.out.2.2.2.2.1
          go_wp2_with fail
          have g1 : (w9.setCell ⟨w.heap.size, 0, none⟩ (.slice ua un uc)).cell? ⟨w.heap.size, 0, none⟩ = some (.slice ua un uc) := World.cell?_setCell_same _ _ _ r1
          refine bodyPost_ret (v := .agg #[.slice ua un uc]) (by simp [results, Tryz.results21, go_sem, g1]) rfl ?_
          first | exact ⟨⟨_, R, rfl, HE.out.1, HFE.out, hRl⟩, HE.out.2.1, HE.out.2.2⟩ | exact ⟨⟨_, rfl, R, HE.out.1, HFE.out, hRl⟩, HE.out.2.1, HE.out.2.2⟩
        · go_wp2_with fail
          go_loopw [7] (fun i wr => ∃ (j : Nat) (N : List Fk.Fl), i = .int .i64 (j : Int) ∧ j ≤ N.length ∧ Hid (∀ i, j ≤ i → i < N.length → (Fk.dt N i).size ≤ 100000) ∧ Hid (Dj.Hp B S p w wr (.slice ua un uc) N)) (fun i _ => un - (intOf i).toNat)
          case atStart => exact ⟨0, R, rfl, Nat.zero_le _, fun i _ hi => Dj.dt_fit HFT.out hi, H9.out⟩
          case round =>
            obtain ⟨j, N, rfl, hj, HJ, HN⟩ := hrel
            clear H9 HFT
            rcases HN.out.2.2.1.form with ⟨hv, rfl⟩ | ⟨g, cap, hv, hgb, hgs⟩
            · cases hv
              have hj0 : j = 0 := by simpa using hj
              subst hj0
              have f1 := HN.out.1
              have r1 := HN.out.2.2.2.2.2.2.2.2.1
              have r2 := HN.out.2.2.2.2.2.2.2.2.2
              have HE := Fk.hide (Dj.done hSw HN.out)
              have HFE := Fk.hide HN.out.2.2.2.1
              have hRl := HN.out.2.2.2.2.1
              go_wp2_with fail
              have g1 : (wr.setCell ⟨w.heap.size, 0, none⟩ (.slice none 0 0)).cell? ⟨w.heap.size, 0, none⟩ = some (.slice none 0 0) := World.cell?_setCell_same _ _ _ r1
              refine bodyPost_ret (v := .agg #[.slice none 0 0]) (by simp [results, Tryz.results21, go_sem, g1]) rfl ?_
              first | exact ⟨⟨_, ([] : List Fk.Fl), rfl, HE.out.1, HFE.out, hRl⟩, HE.out.2.1, HE.out.2.2⟩ | exact ⟨⟨_, rfl, ([] : List Fk.Fl), HE.out.1, HFE.out, hRl⟩, HE.out.2.1, HE.out.2.2⟩
            · obtain ⟨rfl, rfl, rfl⟩ : ua = some ⟨g, 0, none⟩ ∧ un = N.length ∧ uc = cap := by simpa using hv
              clear hv
              by_cases hlt : j < N.length
              · have f1 := HN.out.1
                obtain ⟨⟨z0, z1, z2⟩, y0, y1, y2⟩ := HN.out.2.2.1.at hlt
                have k8 : (0 : Int) ≤ (j : Int) := by omega
                have k9 : (j : Int) < (N.length : Int) := by omega
                have hN := HN.out.2.2.2.2.1
                cases hb : ((Fk.nm N j).toList == [106, 111, 117, 114, 110, 97, 108])
                · go_wp2_with fail
                  go_roundw
                  case rel => exact ⟨j + 1, N, by go_num, by omega, fun i hi => HJ.out i (by omega), HN.out⟩
                  case measure => simp [intOf]; omega
                · have HDJ : Hid ((Fk.dt N j).size ≤ 100000) := HJ.out j (Nat.le_refl _) hlt
                  have HD := Dj.sqOf (HN.out.below (Below.drew (Below.refl _ _))) hlt
                  go_wp2_with fail
                  clear z0 z2 y0 y2
                  set_option maxRecDepth 20000 in
                  go_region_law
                    (first | (go_simp; go_at_call 49; refine (spoil_any B S _ _ HD.2.2.out.2.2.2.2.2.1 HDJ.out).mono ?_; rintro e w10 ⟨⟨r, rfl, hr⟩, s10, g10⟩; have H10 := Fk.hide (HD.2.2.out.draw hSw s10 g10); have HR := Fk.hide hr; have q0 := H10.out.1; have q1 := (H10.out.2.2.1.at hlt).1.2.1; have q2 := (H10.out.2.2.1.at hlt).2.2.1; clear s10 g10 hr))
                  all_goals
                    have HM := Fk.hide (H10.out.putData hSw hlt (d := r) (by have := HR.out; have := HDJ.out; omega))
                    obtain ⟨M', hM⟩ : ∃ M', M' = N.set j (Fk.nm N j, r, Fk.sy N j) := ⟨_, rfl⟩
                    obtain ⟨W, hW⟩ : ∃ W, W = w10.setCell ⟨g, j * 3 + 1, none⟩ (.string r) := ⟨_, rfl⟩
                    rw [← hW, ← hM] at HM
                    rw [← hW]
                    have HML : Hid (M'.length = N.length) := by show _ = _; rw [hM, List.length_set]
                    have HMD : Hid (∀ i, i ≠ j → Fk.dt M' i = Fk.dt N i) := fun i hi => by rw [hM]; exact Dj.dt_set hi
                    have hltM : j < M'.length := by rw [HML.out]; exact hlt
                    clear hW hM q0 q1 q2 z1 f1 HD H10 HR
                    have f1 := HM.out.1
                    obtain ⟨⟨z0, z1, z2⟩, y0, y1, y2⟩ := HM.out.2.2.1.at hltM
                    have HE2 := Fk.hide (HM.out.putSync hSw hltM)
                    have HME : Hid (∀ i, j + 1 ≤ i → i < (M'.set j (Fk.nm M' j, Fk.dt M' j, (0 : Int))).length → (Fk.dt (M'.set j (Fk.nm M' j, Fk.dt M' j, (0 : Int))) i).size ≤ 100000) := fun i hi1 hi2 => by
                      rw [List.length_set, HML.out] at hi2
                      rw [Dj.dt_set (by omega), HMD.out i (by omega)]
                      exact HJ.out i (by omega) hi2
                    have HMS : Hid (j + 1 ≤ (M'.set j (Fk.nm M' j, Fk.dt M' j, (0 : Int))).length) := by show _ ≤ _; rw [List.length_set]; omega
                    clear hltM
                    go_wp2_with fail
                    go_roundw
                    case rel => exact ⟨j + 1, _, by go_num, HMS.out, HME.out, HE2.out⟩
                    case measure => simp [intOf]; omega
              · have k9 : ¬ (j : Int) < (N.length : Int) := by omega
                have f1 := HN.out.1
                have r1 := HN.out.2.2.2.2.2.2.2.2.1
                have r2 := HN.out.2.2.2.2.2.2.2.2.2
                have HE := Fk.hide (Dj.done hSw HN.out)
                have HFE := Fk.hide HN.out.2.2.2.1
                have hRl := HN.out.2.2.2.2.1
                go_wp2_with fail
                have g1 : (wr.setCell ⟨w.heap.size, 0, none⟩ (.slice (some ⟨g, 0, none⟩) N.length uc)).cell? ⟨w.heap.size, 0, none⟩ = some (.slice (some ⟨g, 0, none⟩) N.length uc) := World.cell?_setCell_same _ _ _ r1
                refine bodyPost_ret (v := .agg #[.slice (some ⟨g, 0, none⟩) N.length uc]) (by simp [results, Tryz.results21, go_sem, g1]) rfl ?_
                first | exact ⟨⟨_, N, rfl, HE.out.1, HFE.out, hRl⟩, HE.out.2.1, HE.out.2.2⟩ | exact ⟨⟨_, rfl, N, HE.out.1, HFE.out, hRl⟩, HE.out.2.1, HE.out.2.2⟩
      · have HU : Hid (∀ b, wr1.heap.size ≤ b → Value.ownBlock (.slice ua un uc) ≠ some b) := fun b hb e => by have := (World.ownsRow.lt H7.out.2.2.1 b e).2; omega
        have HSz : Hid (S < wr1.heap.size) := by have := H7.out.2.2.2.2.2.2.2.1.2.1; show S < _; omega
        have HZ2 : Hid (p + 1 ≤ wr1.heap.size) := H7.out.2.2.2.2.2.2.2.1.2.1
        have HF : Hid (Fk.Fits R) := H7.out.2.2.2.1.1
        have hRl := H7.out.2.2.2.2.1
        have HD := Dj.regBelow (B := B) (S := S) (p := p) (w := w) (z := wr1.heap.size) (u := .slice ua un uc) (R := R) (w2 := wr1.drew) (Below.drew (Below.refl _ _)) ⟨H7.out.1, H7.out, Nat.le_refl _⟩
        have HYa : Hid (Dk.Y wr1.heap.size (wr1.drew.alloc (.cells #[.slice none 0 0, .int .i64 0] 29)) wr1.heap.size (.slice none 0 0) (.int .i64 0)) := Dk.Y.new (w' := wr1.drew) (Nat.le_refl _)
        have HYb : Hid (Dk.Y wr1.heap.size (wr1.alloc (.cells #[.slice none 0 0, .int .i64 0] 29)).drew wr1.heap.size (.slice none 0 0) (.int .i64 0)) := Dk.Y.below (Below.drew (Below.refl _ _)) (Dk.Y.new (Nat.le_refl _))
        go_wp2_with fail
        refine Code.wp_mono (Q := fun e a w' => e = .normal ∧ ∃ (b : Nat) (va : Option Addr) (vn vc : Nat) (M : List Fk.Fl) (c : Int) (t31 t32 t33 t34 t35 t36 : Value), a = ⟨(Value.pointer (some ⟨S, 0, none⟩) :: undef :: Value.pointer (some ⟨w.heap.size, 0, none⟩) :: Value.pointer (some ⟨p, 0, none⟩) :: Value.int .i64 k :: u5 :: Value.pointer (some ⟨b, 0, none⟩) :: undef :: Value.pointer (some ⟨S, 0, none⟩) :: Value.agg #[Value.slice ua0 un0 uc0] :: Value.pointer (some ⟨S, 0, none⟩) :: Value.int .i64 k0 :: Value.int .i64 k :: Value.bool false :: u14 :: u15 :: u16 :: u17 :: u18 :: u19 :: u20 :: u21 :: u22 :: u23 :: u24 :: u25 :: u26 :: u27 :: u28 :: Value.pointer (some ⟨S, 0, none⟩) :: Value.bool true :: t31 :: t32 :: t33 :: t34 :: t35 :: t36 :: undef :: undef :: undef :: undef :: undef :: undef :: undef :: undef :: undef :: undef :: undef :: undef :: undef :: undef :: undef :: undef :: undef :: undef :: undef :: undef :: undef :: undef :: undef :: undef :: undef :: undef :: undef :: undef :: undef :: undef :: undef :: undef :: undef :: undef :: undef :: undef :: undef :: undef :: undef :: undef :: []).toArray, []⟩ ∧ Hid (Dj.Hold2 B S p w w' (.slice ua un uc) R b (.slice va vn vc) M c)) ?_ ?_
        · rintro e a w6 ⟨rfl, b, va, vn, vc, M, c, t31, t32, t33, t34, t35, t36, rfl, H6⟩
          have f1 := H6.out.1.1
          have f2 := H6.out.1.2.1
          have f3 := H6.out.2.1.out.2.2.1
          have f4 := H6.out.2.1.out.2.2.2.1
          by_cases hc : c = 0
          · subst hc
            have HX := Fk.hide (H6.out.1.set hSw H6.out.2.2.1 H6.out.2.2.2.1 (by have := H6.out.2.2.2.2.1; omega))
            have HFT : Hid (Dk.Fit M) := H6.out.2.2.2.1
            go_wp2_with fail
            clear f1 f2 f3 f4 H6 H7 HD HYa HYb
            have HO3 := Fk.hide HX.out.2.2.2.2.2.1
            refine (drawOne_any B S 8 _ HO3.out (by omega)).mono ?_
            rintro e w9 ⟨⟨q2, rfl⟩, s9, g9⟩
            have H9 := Fk.hide (HX.out.draw hSw s9 g9)
            clear s9 g9 HO3 HX
            cases q2
            ·
              have f1 := H9.out.1
              have r1 := H9.out.2.2.2.2.2.2.2.2.1
              have r2 := H9.out.2.2.2.2.2.2.2.2.2
              have HE := Fk.hide (Dj.done hSw H9.out)
              have HFE := Fk.hide H9.out.2.2.2.1
              have hRl := H9.out.2.2.2.2.1
              go_wp2_with fail
              have g1 : (w9.setCell ⟨w.heap.size, 0, none⟩ (.slice va vn vc)).cell? ⟨w.heap.size, 0, none⟩ = some (.slice va vn vc) := World.cell?_setCell_same _ _ _ r1
              refine bodyPost_ret (v := .agg #[.slice va vn vc]) (by simp [results, Tryz.results21, go_sem, g1]) rfl ?_
              first | exact ⟨⟨_, M, rfl, HE.out.1, HFE.out, hRl⟩, HE.out.2.1, HE.out.2.2⟩ | exact ⟨⟨_, rfl, M, HE.out.1, HFE.out, hRl⟩, HE.out.2.1, HE.out.2.2⟩
            · go_wp2_with fail
              go_loopw [7] (fun i wr => ∃ (j : Nat) (N : List Fk.Fl), i = .int .i64 (j : Int) ∧ j ≤ N.length ∧ Hid (∀ i, j ≤ i → i < N.length → (Fk.dt N i).size ≤ 100000) ∧ Hid (Dj.Hp B S p w wr (.slice va vn vc) N)) (fun i _ => vn - (intOf i).toNat)
              case atStart => exact ⟨0, M, rfl, Nat.zero_le _, fun i _ hi => Dj.dt_fit HFT.out hi, H9.out⟩
              case round =>
                obtain ⟨j, N, rfl, hj, HJ, HN⟩ := hrel
                clear H9 HFT
                rcases HN.out.2.2.1.form with ⟨hv, rfl⟩ | ⟨g, cap, hv, hgb, hgs⟩
                · cases hv
                  have hj0 : j = 0 := by simpa using hj
                  subst hj0
                  have f1 := HN.out.1
                  have r1 := HN.out.2.2.2.2.2.2.2.2.1
                  have r2 := HN.out.2.2.2.2.2.2.2.2.2
                  have HE := Fk.hide (Dj.done hSw HN.out)
                  have HFE := Fk.hide HN.out.2.2.2.1
                  have hRl := HN.out.2.2.2.2.1
                  go_wp2_with fail
                  have g1 : (wr.setCell ⟨w.heap.size, 0, none⟩ (.slice none 0 0)).cell? ⟨w.heap.size, 0, none⟩ = some (.slice none 0 0) := World.cell?_setCell_same _ _ _ r1
                  refine bodyPost_ret (v := .agg #[.slice none 0 0]) (by simp [results, Tryz.results21, go_sem, g1]) rfl ?_
                  first | exact ⟨⟨_, ([] : List Fk.Fl), rfl, HE.out.1, HFE.out, hRl⟩, HE.out.2.1, HE.out.2.2⟩ | exact ⟨⟨_, rfl, ([] : List Fk.Fl), HE.out.1, HFE.out, hRl⟩, HE.out.2.1, HE.out.2.2⟩
                · obtain ⟨rfl, rfl, rfl⟩ : va = some ⟨g, 0, none⟩ ∧ vn = N.length ∧ vc = cap := by simpa using hv
                  clear hv
                  by_cases hlt : j < N.length
                  · have f1 := HN.out.1
                    obtain ⟨⟨z0, z1, z2⟩, y0, y1, y2⟩ := HN.out.2.2.1.at hlt
                    have k8 : (0 : Int) ≤ (j : Int) := by omega
                    have k9 : (j : Int) < (N.length : Int) := by omega
                    have hN := HN.out.2.2.2.2.1
                    cases hb : ((Fk.nm N j).toList == [106, 111, 117, 114, 110, 97, 108])
                    · go_wp2_with fail
                      go_roundw
                      case rel => exact ⟨j + 1, N, by go_num, by omega, fun i hi => HJ.out i (by omega), HN.out⟩
                      case measure => simp [intOf]; omega
                    · have HDJ : Hid ((Fk.dt N j).size ≤ 100000) := HJ.out j (Nat.le_refl _) hlt
                      have HD := Dj.sqOf (HN.out.below (Below.drew (Below.refl _ _))) hlt
                      go_wp2_with fail
                      clear z0 z2 y0 y2
                      set_option maxRecDepth 20000 in
                      go_region_law
                        (first | (go_simp; go_at_call 49; refine (spoil_any B S _ _ HD.2.2.out.2.2.2.2.2.1 HDJ.out).mono ?_; rintro e w10 ⟨⟨r, rfl, hr⟩, s10, g10⟩; have H10 := Fk.hide (HD.2.2.out.draw hSw s10 g10); have HR := Fk.hide hr; have q0 := H10.out.1; have q1 := (H10.out.2.2.1.at hlt).1.2.1; have q2 := (H10.out.2.2.1.at hlt).2.2.1; clear s10 g10 hr))
                      all_goals
                        have HM := Fk.hide (H10.out.putData hSw hlt (d := r) (by have := HR.out; have := HDJ.out; omega))
                        obtain ⟨M', hM⟩ : ∃ M', M' = N.set j (Fk.nm N j, r, Fk.sy N j) := ⟨_, rfl⟩
                        obtain ⟨W, hW⟩ : ∃ W, W = w10.setCell ⟨g, j * 3 + 1, none⟩ (.string r) := ⟨_, rfl⟩
                        rw [← hW, ← hM] at HM
                        rw [← hW]
                        have HML : Hid (M'.length = N.length) := by show _ = _; rw [hM, List.length_set]
                        have HMD : Hid (∀ i, i ≠ j → Fk.dt M' i = Fk.dt N i) := fun i hi => by rw [hM]; exact Dj.dt_set hi
                        have hltM : j < M'.length := by rw [HML.out]; exact hlt
                        clear hW hM q0 q1 q2 z1 f1 HD H10 HR
                        have f1 := HM.out.1
                        obtain ⟨⟨z0, z1, z2⟩, y0, y1, y2⟩ := HM.out.2.2.1.at hltM
                        have HE2 := Fk.hide (HM.out.putSync hSw hltM)
                        have HME : Hid (∀ i, j + 1 ≤ i → i < (M'.set j (Fk.nm M' j, Fk.dt M' j, (0 : Int))).length → (Fk.dt (M'.set j (Fk.nm M' j, Fk.dt M' j, (0 : Int))) i).size ≤ 100000) := fun i hi1 hi2 => by
                          rw [List.length_set, HML.out] at hi2
                          rw [Dj.dt_set (by omega), HMD.out i (by omega)]
                          exact HJ.out i (by omega) hi2
                        have HMS : Hid (j + 1 ≤ (M'.set j (Fk.nm M' j, Fk.dt M' j, (0 : Int))).length) := by show _ ≤ _; rw [List.length_set]; omega
                        clear hltM
                        go_wp2_with fail
                        go_roundw
                        case rel => exact ⟨j + 1, _, by go_num, HMS.out, HME.out, HE2.out⟩
                        case measure => simp [intOf]; omega
                  · have k9 : ¬ (j : Int) < (N.length : Int) := by omega
                    have f1 := HN.out.1
                    have r1 := HN.out.2.2.2.2.2.2.2.2.1
                    have r2 := HN.out.2.2.2.2.2.2.2.2.2
                    have HE := Fk.hide (Dj.done hSw HN.out)
                    have HFE := Fk.hide HN.out.2.2.2.1
                    have hRl := HN.out.2.2.2.2.1
                    go_wp2_with fail
                    have g1 : (wr.setCell ⟨w.heap.size, 0, none⟩ (.slice (some ⟨g, 0, none⟩) N.length vc)).cell? ⟨w.heap.size, 0, none⟩ = some (.slice (some ⟨g, 0, none⟩) N.length vc) := World.cell?_setCell_same _ _ _ r1
                    refine bodyPost_ret (v := .agg #[.slice (some ⟨g, 0, none⟩) N.length vc]) (by simp [results, Tryz.results21, go_sem, g1]) rfl ?_
                    first | exact ⟨⟨_, N, rfl, HE.out.1, HFE.out, hRl⟩, HE.out.2.1, HE.out.2.2⟩ | exact ⟨⟨_, rfl, N, HE.out.1, HFE.out, hRl⟩, HE.out.2.1, HE.out.2.2⟩
          · have hc' : (c == 0) = false := by simpa using hc
            have HX := Fk.hide H6.out.1
            have HFT := HFR
            go_wp2_with fail
            clear f1 f2 f3 f4 H6 H7 HD HYa HYb
            have HO3 := Fk.hide HX.out.2.2.2.2.2.1
            refine (drawOne_any B S 8 _ HO3.out (by omega)).mono ?_
            rintro e w9 ⟨⟨q2, rfl⟩, s9, g9⟩
            have H9 := Fk.hide (HX.out.draw hSw s9 g9)
            clear s9 g9 HO3 HX
            cases q2
            ·
              have f1 := H9.out.1
              have r1 := H9.out.2.2.2.2.2.2.2.2.1
              have r2 := H9.out.2.2.2.2.2.2.2.2.2
              have HE := Fk.hide (Dj.done hSw H9.out)
              have HFE := Fk.hide H9.out.2.2.2.1
              have hRl := H9.out.2.2.2.2.1
              go_wp2_with fail
              have g1 : (w9.setCell ⟨w.heap.size, 0, none⟩ (.slice ua un uc)).cell? ⟨w.heap.size, 0, none⟩ = some (.slice ua un uc) := World.cell?_setCell_same _ _ _ r1
              refine bodyPost_ret (v := .agg #[.slice ua un uc]) (by simp [results, Tryz.results21, go_sem, g1]) rfl ?_
              first | exact ⟨⟨_, R, rfl, HE.out.1, HFE.out, hRl⟩, HE.out.2.1, HE.out.2.2⟩ | exact ⟨⟨_, rfl, R, HE.out.1, HFE.out, hRl⟩, HE.out.2.1, HE.out.2.2⟩
            · go_wp2_with fail
              go_loopw [7] (fun i wr => ∃ (j : Nat) (N : List Fk.Fl), i = .int .i64 (j : Int) ∧ j ≤ N.length ∧ Hid (∀ i, j ≤ i → i < N.length → (Fk.dt N i).size ≤ 100000) ∧ Hid (Dj.Hp B S p w wr (.slice ua un uc) N)) (fun i _ => un - (intOf i).toNat)
              case atStart => exact ⟨0, R, rfl, Nat.zero_le _, fun i _ hi => Dj.dt_fit HFT.out hi, H9.out⟩
              case round =>
                obtain ⟨j, N, rfl, hj, HJ, HN⟩ := hrel
                clear H9 HFT
                rcases HN.out.2.2.1.form with ⟨hv, rfl⟩ | ⟨g, cap, hv, hgb, hgs⟩
                · cases hv
                  have hj0 : j = 0 := by simpa using hj
                  subst hj0
                  have f1 := HN.out.1
                  have r1 := HN.out.2.2.2.2.2.2.2.2.1
                  have r2 := HN.out.2.2.2.2.2.2.2.2.2
                  have HE := Fk.hide (Dj.done hSw HN.out)
                  have HFE := Fk.hide HN.out.2.2.2.1
                  have hRl := HN.out.2.2.2.2.1
                  go_wp2_with fail
                  have g1 : (wr.setCell ⟨w.heap.size, 0, none⟩ (.slice none 0 0)).cell? ⟨w.heap.size, 0, none⟩ = some (.slice none 0 0) := World.cell?_setCell_same _ _ _ r1
                  refine bodyPost_ret (v := .agg #[.slice none 0 0]) (by simp [results, Tryz.results21, go_sem, g1]) rfl ?_
                  first | exact ⟨⟨_, ([] : List Fk.Fl), rfl, HE.out.1, HFE.out, hRl⟩, HE.out.2.1, HE.out.2.2⟩ | exact ⟨⟨_, rfl, ([] : List Fk.Fl), HE.out.1, HFE.out, hRl⟩, HE.out.2.1, HE.out.2.2⟩
                · obtain ⟨rfl, rfl, rfl⟩ : ua = some ⟨g, 0, none⟩ ∧ un = N.length ∧ uc = cap := by simpa using hv
                  clear hv
                  by_cases hlt : j < N.length
                  · have f1 := HN.out.1
                    obtain ⟨⟨z0, z1, z2⟩, y0, y1, y2⟩ := HN.out.2.2.1.at hlt
                    have k8 : (0 : Int) ≤ (j : Int) := by omega
                    have k9 : (j : Int) < (N.length : Int) := by omega
                    have hN := HN.out.2.2.2.2.1
                    cases hb : ((Fk.nm N j).toList == [106, 111, 117, 114, 110, 97, 108])
                    · go_wp2_with fail
                      go_roundw
                      case rel => exact ⟨j + 1, N, by go_num, by omega, fun i hi => HJ.out i (by omega), HN.out⟩
                      case measure => simp [intOf]; omega
                    · have HDJ : Hid ((Fk.dt N j).size ≤ 100000) := HJ.out j (Nat.le_refl _) hlt
                      have HD := Dj.sqOf (HN.out.below (Below.drew (Below.refl _ _))) hlt
                      go_wp2_with fail
                      clear z0 z2 y0 y2
                      set_option maxRecDepth 20000 in
                      go_region_law
                        (first | (go_simp; go_at_call 49; refine (spoil_any B S _ _ HD.2.2.out.2.2.2.2.2.1 HDJ.out).mono ?_; rintro e w10 ⟨⟨r, rfl, hr⟩, s10, g10⟩; have H10 := Fk.hide (HD.2.2.out.draw hSw s10 g10); have HR := Fk.hide hr; have q0 := H10.out.1; have q1 := (H10.out.2.2.1.at hlt).1.2.1; have q2 := (H10.out.2.2.1.at hlt).2.2.1; clear s10 g10 hr))
                      all_goals
                        have HM := Fk.hide (H10.out.putData hSw hlt (d := r) (by have := HR.out; have := HDJ.out; omega))
                        obtain ⟨M', hM⟩ : ∃ M', M' = N.set j (Fk.nm N j, r, Fk.sy N j) := ⟨_, rfl⟩
                        obtain ⟨W, hW⟩ : ∃ W, W = w10.setCell ⟨g, j * 3 + 1, none⟩ (.string r) := ⟨_, rfl⟩
                        rw [← hW, ← hM] at HM
                        rw [← hW]
                        have HML : Hid (M'.length = N.length) := by show _ = _; rw [hM, List.length_set]
                        have HMD : Hid (∀ i, i ≠ j → Fk.dt M' i = Fk.dt N i) := fun i hi => by rw [hM]; exact Dj.dt_set hi
                        have hltM : j < M'.length := by rw [HML.out]; exact hlt
                        clear hW hM q0 q1 q2 z1 f1 HD H10 HR
                        have f1 := HM.out.1
                        obtain ⟨⟨z0, z1, z2⟩, y0, y1, y2⟩ := HM.out.2.2.1.at hltM
                        have HE2 := Fk.hide (HM.out.putSync hSw hltM)
                        have HME : Hid (∀ i, j + 1 ≤ i → i < (M'.set j (Fk.nm M' j, Fk.dt M' j, (0 : Int))).length → (Fk.dt (M'.set j (Fk.nm M' j, Fk.dt M' j, (0 : Int))) i).size ≤ 100000) := fun i hi1 hi2 => by
                          rw [List.length_set, HML.out] at hi2
                          rw [Dj.dt_set (by omega), HMD.out i (by omega)]
                          exact HJ.out i (by omega) hi2
                        have HMS : Hid (j + 1 ≤ (M'.set j (Fk.nm M' j, Fk.dt M' j, (0 : Int))).length) := by show _ ≤ _; rw [List.length_set]; omega
                        clear hltM
                        go_wp2_with fail
                        go_roundw
                        case rel => exact ⟨j + 1, _, by go_num, HMS.out, HME.out, HE2.out⟩
                        case measure => simp [intOf]; omega
                  · have k9 : ¬ (j : Int) < (N.length : Int) := by omega
                    have f1 := HN.out.1
                    have r1 := HN.out.2.2.2.2.2.2.2.2.1
                    have r2 := HN.out.2.2.2.2.2.2.2.2.2
                    have HE := Fk.hide (Dj.done hSw HN.out)
                    have HFE := Fk.hide HN.out.2.2.2.1
                    have hRl := HN.out.2.2.2.2.1
                    go_wp2_with fail
                    have g1 : (wr.setCell ⟨w.heap.size, 0, none⟩ (.slice (some ⟨g, 0, none⟩) N.length uc)).cell? ⟨w.heap.size, 0, none⟩ = some (.slice (some ⟨g, 0, none⟩) N.length uc) := World.cell?_setCell_same _ _ _ r1
                    refine bodyPost_ret (v := .agg #[.slice (some ⟨g, 0, none⟩) N.length uc]) (by simp [results, Tryz.results21, go_sem, g1]) rfl ?_
                    first | exact ⟨⟨_, N, rfl, HE.out.1, HFE.out, hRl⟩, HE.out.2.1, HE.out.2.2⟩ | exact ⟨⟨_, rfl, N, HE.out.1, HFE.out, hRl⟩, HE.out.2.1, HE.out.2.2⟩
        · go_region_held3 (fun w' => w'.cell? ⟨p, 0, none⟩ = some (.slice ua un uc) ∧ Hid (Dj.Reg B S p w wr1.heap.size w' (.slice ua un uc) R))
            (first
              | assumption
              | exact Dj.regAlloc (by assumption)
              | exact Dj.regStore hSw (Nat.le_trans HZ2.out (by assumption)) (HU.out _ (by assumption)) (Dj.regStore hSw (Nat.le_trans HZ2.out (by assumption)) (HU.out _ (by assumption)) (by assumption)))
            (first
              | (go_at_call 23; refine (drawN_any B S 4 _ (Dj.srcOf (by assumption)) (by omega)).mono ?_; rintro e w3 ⟨⟨r, rfl, hr0, hr1, _⟩, s3, g3⟩; have H3 := Dj.regDraw hSw s3 g3 (by assumption); have hr := hr1 (by omega); (first | have HY3 := Dk.Y.draw HSz.out g3 (by assumption) | have HY3 := Dk.Y.draw HSz.out g3 (Dk.Y.new (Dj.zOf (by assumption))) | skip); clear s3 g3 hr1)
              | (go_at_call 24; refine (drawBytes_any B S r _ (Dj.srcOf (by assumption)) (by omega)).mono ?_; rintro e w4 ⟨⟨x, rfl, hx⟩, s4, g4⟩; have H4 := Dj.regDraw hSw s4 g4 (by assumption); have HX := Fk.hide hx; (first | have HY4 := Dk.Y.draw HSz.out g4 (by assumption) | have HY4 := Dk.Y.draw HSz.out g4 (Dk.Y.new (Dj.zOf (by assumption))) | skip); clear s4 g4 hx)
              | (go_at_call 35; refine (fsAppend_spec _ R _ x _ (w.heap.size + 1) (Dj.ownOf (by assumption)) HF.out (by unfold maxLen; omega) (by decide) (by have := HX.out; unfold maxLen; omega)).mono ?_; rintro e w5 ⟨⟨v, M, c, rfl, ho5, ha5⟩, b5⟩; obtain ⟨va, vn, vc, rfl⟩ := ho5.slice'; have H5 := Dj.regBelow b5 (by assumption); have HZ5 := Fk.hide (Dj.zOf H5); have HO5 := Fk.hide ho5; have HA5 := Fk.hide (Dk.ans_fit (Fk.append_right ha5)); (first | have HY5 := Dk.Y.below b5 (by assumption) | have HY5 := Dk.Y.below b5 (Dk.Y.new (Dj.zOf (by assumption))) | skip); (first | (have y0 := HY5.out.1; have y1 := HY5.out.2.1; have y2 := HY5.out.2.2.1; have y3 := HY5.out.2.2.2.1; have y4 := HY5.out.2.2.2.2) | (have y0 := HZ5.out)); clear ho5 ha5 b5))
          all_goals
            refine ⟨rfl, _, va, vn, vc, M, c, _, _, _, _, _, _, rfl, ?_⟩
          all_goals first
            | exact Dj.Hold2.store hSw HZ2.out H5 HY5 (HU.out _ HY5.out.1) (Dk.own_ne HO5.out HY4.out.2.1) (HO5.out.mono (Nat.le_trans HZ2.out (Dj.zOf H4))) HA5.out
            | exact Dj.Hold2.store hSw HZ2.out H5 HY5 (HU.out _ HY5.out.1) (Dk.own_ne HO5.out (by simp)) (HO5.out.mono (Nat.le_trans HZ2.out (Nat.le_trans (Dj.zOf H4) (by simp)))) HA5.out
            | exact Dj.Hold2.new HZ2.out H5 (HU.out _ HZ5.out) (Dk.own_ne' HO5.out) (HO5.out.mono (Nat.le_trans HZ2.out (Dj.zOf H4))) HA5.out
end Go.Proofs.YtojdfdlbdpdlkaaGreatDoor
