/- The walk of the specification's drawn files. -/
import Derived.Test.YtojdfdlbdpdlkaaGreatDoorJoined12
import Derived.Test.YtojdfdlbdpdlkaaGreatDoorJoined17
import Derived.Test.YtojdfdlbdpdlkaaGreatDoorFsAppendSpec
import Derived.Test.YtojdfdlbdpdlkaaGreatDoorJoined16
import Derived.Test.YtojdfdlbdpdlkaaGreatDoorJoined18
import Derived.Test.YtojdfdlbdpdlkaaGreatDoorFsCutSpec
import Derived.Deep.RegionHeld3
namespace Go.Proofs.YtojdfdlbdpdlkaaGreatDoor
open Go.RowKit
set_option linter.unusedVariables false
set_option linter.unusedSimpArgs false

theorem Dk.name_fit {t : ByteArray} (h : t ∈ Dk.names) : t.size ≤ maxLen := by
  unfold Dk.names at h
  simp only [List.mem_cons, List.not_mem_nil, or_false] at h
  rcases h with rfl | rfl | rfl | rfl <;> decide

theorem Dk.wf_small {r : Int} (h0 : -9223372036854775808 ≤ r) (h1 : r ≤ 9223372036854775807) : (Lit.int .i64 r).wf = true := by
  have e1 : IntKind.i64.min = -9223372036854775808 := rfl
  have e2 : IntKind.i64.max = 9223372036854775807 := rfl
  simp [Lit.wf, e1, e2]
  omega

set_option maxHeartbeats 4000000 in
theorem drawFs_any (B S : Nat) (w : World) (hs : Dk.Src B w S) :
    Calls Tryz.prog 48 #[.pointer (some ⟨S, 0, none⟩)] w fun e w' => (∃ u R, e = .returned (.agg #[u]) ∧ Fk.Own w' w.heap.size 75 u R ∧ Dk.Fit R ∧ R.length ≤ 2000) ∧ Dk.Src B w' S ∧ w.grownBy w' (some S) := by
  obtain ⟨hBS, hSw⟩ := hs.lt
  have HS := Fk.hide hs
  clear hs
  go_enter Tryz.func48, Tryz.ntmps48
  go_wp2_with fail
  have b0 : Below w.heap.size w ((w.alloc (.cells #[.slice none 0 0] 25)).alloc (.cells #[.slice none 0 0] 25)) := ((Below.refl _ _).alloc (Nat.le_refl _) _).alloc (by simp) _
  refine (drawN_any B S 10 _ (HS.out.below b0) (by omega)).mono ?_
  rintro e w1 ⟨⟨k0, rfl, hk0, hk1, _⟩, h1, h2⟩
  have hk := hk1 (by omega)
  clear hk1
  have c0 : w1.cell? ⟨w.heap.size + 1, 0, none⟩ = some (.slice none 0 0) := (h2.cell_far ⟨w.heap.size + 1, 0, none⟩ (by simp) (fun h => by have := Option.some.inj h; simp at this; omega)).trans (by rw [Fk.cellTop _ _ _ _ _ (by simp)]; rfl)
  have f0 : ∀ j, w1.frozen? ⟨w.heap.size + 1, j, none⟩ = false := fun j => by
    rw [World.frozen?_of_block (h2.block (w.heap.size + 1) (by simp) (fun e => by have h9 : w.heap.size + 1 = S := Option.some.inj e; omega)), Fk.frozTop _ _ _ _ _ (by simp)]
  have HH : Hid (Dk.Hold B S w w1 (.slice none 0 0) []) := ⟨c0, f0, Fk.own_nil _ _ _, ⟨by intro f hf; simp at hf, by intro f hf; simp at hf⟩, by simp, h1, Fk.grownBy_trans (Fk.grownBy_below (some S) b0) h2, by have := h2.size; simp at this; omega, (h2.cell_far ⟨w.heap.size, 0, none⟩ (by simp; omega) (fun h => by have h9 : w.heap.size = S := Option.some.inj h; omega)).trans (by rw [Fk.cellOld _ _ _ _ (by simp), Fk.cellTop _ _ _ _ _ rfl]; rfl), fun j => (h2.frozen_far ⟨w.heap.size, j, none⟩ (by simp; omega) (fun h => by have h9 : w.heap.size = S := Option.some.inj h; omega)).trans (by rw [Fk.frozOld _ _ _ _ (by simp), Fk.frozTop _ _ _ _ _ rfl])⟩
  clear h1 h2 b0 c0 f0
  go_wp2_with fail
  go_loopw [4] (fun i wr => ∃ (k : Int) (u : Value) (R : List Fk.Fl), i = .int .i64 k ∧ 0 ≤ k ∧ k ≤ 9 ∧ R.length ≤ 12 ∧ Hid (Dk.Hold B S w wr u R)) (fun i _ => (intOf i).toNat)
  case atStart => exact ⟨k0, _, _, rfl, hk0, by omega, by simp, HH.out⟩
  case round =>
    obtain ⟨k, u, R, rfl, hk0, hk9, hR12, HO⟩ := hrel
    by_cases hlt : 0 < k
    · obtain ⟨ua, un, uc, rfl⟩ := HO.out.2.2.1.slice'
      have HU : Hid (∀ b, wr.heap.size ≤ b → Value.ownBlock (.slice ua un uc) ≠ some b) := fun b hb e => by have := (World.ownsRow.lt HO.out.2.2.1 b e).2; omega
      have HSz : Hid (S < wr.heap.size) := by have := HO.out.2.2.2.2.2.2.2.1; show S < _; omega
      have HZ2 : Hid (w.heap.size + 2 ≤ wr.heap.size) := HO.out.2.2.2.2.2.2.2.1
      have HF : Hid (Fk.Fits R) := HO.out.2.2.2.1.1
      have hRl := HO.out.2.2.2.2.1
      have HD := Dk.regBelow (B := B) (S := S) (w := w) (z := wr.heap.size) (u := .slice ua un uc) (R := R) (w2 := wr.drew) (Below.drew (Below.refl _ _)) ⟨HO.out.1, HO.out, Nat.le_refl _⟩
      have HYa : Hid (Dk.Y wr.heap.size (wr.drew.alloc (.cells #[.slice none 0 0, .int .i64 0] 29)) wr.heap.size (.slice none 0 0) (.int .i64 0)) := Dk.Y.new (w' := wr.drew) (Nat.le_refl _)
      have HYb : Hid (Dk.Y wr.heap.size (wr.alloc (.cells #[.slice none 0 0, .int .i64 0] 29)).drew wr.heap.size (.slice none 0 0) (.int .i64 0)) := Dk.Y.below (Below.drew (Below.refl _ _)) (Dk.Y.new (Nat.le_refl _))
      go_wp2_with fail
      refine Code.wp_mono (Q := fun e a w' => e = .normal ∧ ∃ (b : Nat) (va : Option Addr) (vn vc : Nat) (M : List Fk.Fl) (c : Int) (t13 t14 t15 t16 t17 t18 t19 t20 : Value), a = ⟨(Value.pointer (some ⟨S, 0, none⟩) :: undef :: Value.pointer (some ⟨w.heap.size, 0, none⟩) :: Value.pointer (some ⟨w.heap.size + 1, 0, none⟩) :: Value.int .i64 k :: Value.pointer (some ⟨b, 0, none⟩) :: Value.agg #[Value.slice none 0 0] :: Value.pointer (some ⟨S, 0, none⟩) :: Value.int .i64 k0 :: Value.int .i64 k :: Value.bool true :: u11 :: u12 :: t13 :: t14 :: t15 :: t16 :: t17 :: t18 :: t19 :: t20 :: u21 :: u22 :: u23 :: u24 :: u25 :: u26 :: u27 :: u28 :: u29 :: u30 :: u31 :: u32 :: u33 :: u34 :: u35 :: u36 :: u37 :: u38 :: u39 :: u40 :: u41 :: u42 :: u43 :: u44 :: u45 :: u46 :: u47 :: u48 :: u49 :: undef :: undef :: undef :: undef :: undef :: undef :: undef :: undef :: undef :: undef :: undef :: undef :: undef :: undef :: undef :: undef :: undef :: undef :: undef :: undef :: undef :: undef :: undef :: undef :: undef :: undef :: undef :: undef :: undef :: undef :: undef :: undef :: undef :: undef :: undef :: undef :: undef :: undef :: undef :: undef :: undef :: undef :: undef :: undef :: undef :: undef :: undef :: undef :: undef :: undef :: []).toArray, []⟩ ∧ Hid (Dk.Hold2 B S w w' (.slice ua un uc) R b (.slice va vn vc) M c)) ?_ ?_
      · rintro e a w6 ⟨rfl, b, va, vn, vc, M, c, t13, t14, t15, t16, t17, t18, t19, t20, rfl, H6⟩
        have HS6 := Fk.hide H6.out.1.2.2.2.2.2.1
        go_wp2_with fail
        refine (drawN_any B S 8 _ HS6.out (by omega)).mono ?_
        rintro e w7 ⟨⟨q, rfl, hq0, hq1, _⟩, s7, g7⟩
        have H7 := Fk.hide (Dk.Hold2.draw hSw s7 g7 H6.out)
        have hq := hq1 (by omega)
        have hS2 : Hid (S < w.heap.size + 2) := by show S < _; omega
        have HR7 := Dk.regBelow (B := B) (S := S) (w := w) (z := w.heap.size + 2) (u := .slice ua un uc) (R := R) (w2 := w7.drew) (Below.drew (Below.refl _ _)) ⟨H7.out.1.1, H7.out.1, H7.out.1.2.2.2.2.2.2.2.1⟩
        have HY7 := Dk.Y.below (w2 := w7.drew) (Below.drew (Below.refl _ _)) H7.out.2.1
        clear s7 g7 hq1 H6 HS6 HD HYa HYb
        have hq3 : q = 0 ∨ q = 1 ∨ q = 2 ∨ (q ≠ 0 ∧ q ≠ 1 ∧ q ≠ 2) := by omega
        rcases hq3 with rfl | rfl | rfl | ⟨n0, n1, n2⟩
        · go_wp2_with fail
          go_region_held3 (fun w' => w'.cell? ⟨w.heap.size + 1, 0, none⟩ = some (.slice ua un uc) ∧ Hid (Dk.Reg B S w (w.heap.size + 2) w' (.slice ua un uc) R))
            (first
              | assumption
              | exact Dk.regStore hSw (by assumption) H7.out.2.2.2.2.2.1 (Dk.regStore hSw (by assumption) H7.out.2.2.2.2.2.1 (by assumption)))
            (first
              | (go_at_call 71; refine (drawName_any B S _ (Dk.srcOf (by assumption))).mono ?_; rintro e w8 ⟨⟨t, rfl, ht⟩, s8, g8⟩; have H8 := Dk.regDraw hSw s8 g8 (by assumption); have HT := Fk.hide ht; clear ht; have HY8 := Dk.Y.draw hS2.out g8 (by assumption); clear s8 g8)
              | (go_at_call 38; refine (fsSync_spec _ R t _ (Fk.view_of_owns (Dk.ownOf (by assumption))) (Dk.ownOf (by assumption)).shut HF.out (by unfold maxLen; omega) (Dk.name_fit HT.out)).mono ?_; rintro e w9 ⟨⟨v, M9, c9, rfl, ho9, ha9⟩, b9⟩; obtain ⟨va9, vn9, vc9, rfl⟩ := ho9.slice'; have H9 := Dk.regBelow b9 (by assumption); have HO9 := Fk.hide ho9; have HA9 := Fk.hide (Dk.ans_fit (Fk.sync_right ha9)); have HY9 := Dk.Y.below b9 (by assumption); have y0 := HY9.out.1; have y1 := HY9.out.2.1; have y2 := HY9.out.2.2.1; have y3 := HY9.out.2.2.2.1; have y4 := HY9.out.2.2.2.2; clear ho9 ha9 b9))
          have H10 : Hid (Dk.Hold2 B S w ((w9.setCell ⟨b, 0, none⟩ (.slice va9 vn9 vc9)).setCell ⟨b, 1, none⟩ (.int .i64 c9)) (.slice ua un uc) R b (.slice va9 vn9 vc9) M9 c9) := Dk.Hold2.store hSw (Nat.le_refl _) H9 HY9 H7.out.2.2.2.2.2.1 (Dk.own_ne HO9.out HY8.out.2.1) (HO9.out.mono (Dk.zOf H8)) HA9.out
          obtain ⟨W, hW⟩ : ∃ W, W = ((w9.setCell ⟨b, 0, none⟩ (.slice va9 vn9 vc9)).setCell ⟨b, 1, none⟩ (.int .i64 c9)) := ⟨_, rfl⟩
          rw [← hW] at H10 ⊢
          clear hW y0 y1 y2 y3 y4 H7 HR7
          have f1 := H10.out.1.1
          have f2 := H10.out.1.2.1
          have f3 := H10.out.2.1.out.2.2.1
          have f4 := H10.out.2.1.out.2.2.2.1
          by_cases hc : c9 = 0
          · subst hc
            have HN := Fk.hide (H10.out.1.set hSw H10.out.2.2.1 H10.out.2.2.2.1 (by have := H10.out.2.2.2.2.1; omega))
            go_wp2_with fail
            go_roundw
            case rel => exact ⟨k - 1, _, M9, by go_num, by omega, by omega, H10.out.2.2.2.2.1, HN.out⟩
            case measure => simp [intOf]; omega
          · have hc' : (c9 == 0) = false := by simpa using hc
            have HN := Fk.hide H10.out.1
            go_wp2_with fail
            go_roundw
            case rel => exact ⟨k - 1, _, R, by go_num, by omega, by omega, hR12, HN.out⟩
            case measure => simp [intOf]; omega
        · go_wp2_with fail
          go_region_held3 (fun w' => w'.cell? ⟨w.heap.size + 1, 0, none⟩ = some (.slice ua un uc) ∧ Hid (Dk.Reg B S w (w.heap.size + 2) w' (.slice ua un uc) R))
            (first
              | assumption
              | exact Dk.regStore hSw (by assumption) H7.out.2.2.2.2.2.1 (Dk.regStore hSw (by assumption) H7.out.2.2.2.2.2.1 (by assumption)))
            (first
              | (go_at_call 71; have hh := HT; clear hh; refine (drawName_any B S _ (Dk.srcOf (by assumption))).mono ?_; rintro e w12 ⟨⟨tt, rfl, htt⟩, s12, g12⟩; have H12 := Dk.regDraw hSw s12 g12 (by assumption); have HTT := Fk.hide htt; clear htt; have HY12 := Dk.Y.draw hS2.out g12 (by assumption); clear s12 g12)
              | (go_at_call 71; refine (drawName_any B S _ (Dk.srcOf (by assumption))).mono ?_; rintro e w8 ⟨⟨t, rfl, ht⟩, s8, g8⟩; have H8 := Dk.regDraw hSw s8 g8 (by assumption); have HT := Fk.hide ht; clear ht; have HY8 := Dk.Y.draw hS2.out g8 (by assumption); clear s8 g8)
              | (go_at_call 72; refine (fsRename_spec _ R t tt _ (w.heap.size + 2) (Dk.ownOf (by assumption)) HF.out (by unfold maxLen; omega) (Dk.name_fit HT.out) (Dk.name_fit HTT.out)).mono ?_; rintro e w9 ⟨⟨v, M9, c9, rfl, ho9, ha9⟩, b9⟩; obtain ⟨va9, vn9, vc9, rfl⟩ := ho9.slice'; have H9 := Dk.regBelow b9 (by assumption); have HO9 := Fk.hide ho9; have HA9 := Fk.hide (Dk.ans_fit (Fk.rename_right ha9)); have HY9 := Dk.Y.below b9 (by assumption); have y0 := HY9.out.1; have y1 := HY9.out.2.1; have y2 := HY9.out.2.2.1; have y3 := HY9.out.2.2.2.1; have y4 := HY9.out.2.2.2.2; clear ho9 ha9 b9))
          have H10 : Hid (Dk.Hold2 B S w ((w9.setCell ⟨b, 0, none⟩ (.slice va9 vn9 vc9)).setCell ⟨b, 1, none⟩ (.int .i64 c9)) (.slice ua un uc) R b (.slice va9 vn9 vc9) M9 c9) := Dk.Hold2.store hSw (Nat.le_refl _) H9 HY9 H7.out.2.2.2.2.2.1 (Dk.own_ne HO9.out HY12.out.2.1) (HO9.out.mono (Dk.zOf H12)) HA9.out
          obtain ⟨W, hW⟩ : ∃ W, W = ((w9.setCell ⟨b, 0, none⟩ (.slice va9 vn9 vc9)).setCell ⟨b, 1, none⟩ (.int .i64 c9)) := ⟨_, rfl⟩
          rw [← hW] at H10 ⊢
          clear hW y0 y1 y2 y3 y4 H7 HR7
          have f1 := H10.out.1.1
          have f2 := H10.out.1.2.1
          have f3 := H10.out.2.1.out.2.2.1
          have f4 := H10.out.2.1.out.2.2.2.1
          by_cases hc : c9 = 0
          · subst hc
            have HN := Fk.hide (H10.out.1.set hSw H10.out.2.2.1 H10.out.2.2.2.1 (by have := H10.out.2.2.2.2.1; omega))
            go_wp2_with fail
            go_roundw
            case rel => exact ⟨k - 1, _, M9, by go_num, by omega, by omega, H10.out.2.2.2.2.1, HN.out⟩
            case measure => simp [intOf]; omega
          · have hc' : (c9 == 0) = false := by simpa using hc
            have HN := Fk.hide H10.out.1
            go_wp2_with fail
            go_roundw
            case rel => exact ⟨k - 1, _, R, by go_num, by omega, by omega, hR12, HN.out⟩
            case measure => simp [intOf]; omega
        · go_wp2_with fail
          go_region_held3 (fun w' => w'.cell? ⟨w.heap.size + 1, 0, none⟩ = some (.slice ua un uc) ∧ Hid (Dk.Reg B S w (w.heap.size + 2) w' (.slice ua un uc) R))
            (first
              | assumption
              | exact Dk.regStore hSw (by assumption) H7.out.2.2.2.2.2.1 (Dk.regStore hSw (by assumption) H7.out.2.2.2.2.2.1 (by assumption)))
            (first
              | (go_at_call 71; refine (drawName_any B S _ (Dk.srcOf (by assumption))).mono ?_; rintro e w8 ⟨⟨t, rfl, ht⟩, s8, g8⟩; have H8 := Dk.regDraw hSw s8 g8 (by assumption); have HT := Fk.hide ht; clear ht; have HY8 := Dk.Y.draw hS2.out g8 (by assumption); clear s8 g8)
              | (go_at_call 23; refine (drawN_any B S 3 _ (Dk.srcOf (by assumption)) (by omega)).mono ?_; rintro e w12 ⟨⟨r, rfl, hr0, hr1, _⟩, s12, g12⟩; have H12 := Dk.regDraw hSw s12 g12 (by assumption); have hr := hr1 (by omega); clear hr1; have HY12 := Dk.Y.draw hS2.out g12 (by assumption); clear s12 g12)
              | (go_at_call 43; refine (fsCut_spec _ R t r _ (Fk.view_of_owns (Dk.ownOf (by assumption))) (Dk.ownOf (by assumption)).shut HF.out (by unfold maxLen; omega) (Dk.name_fit HT.out) (Dk.wf_small (by omega) (by omega))).mono ?_; rintro e w9 ⟨⟨v, M9, c9, rfl, ho9, ha9⟩, b9⟩; obtain ⟨va9, vn9, vc9, rfl⟩ := ho9.slice'; have H9 := Dk.regBelow b9 (by assumption); have HO9 := Fk.hide ho9; have HA9 := Fk.hide (Dk.ans_fit (Fk.cut_right ha9)); have HY9 := Dk.Y.below b9 (by assumption); have y0 := HY9.out.1; have y1 := HY9.out.2.1; have y2 := HY9.out.2.2.1; have y3 := HY9.out.2.2.2.1; have y4 := HY9.out.2.2.2.2; clear ho9 ha9 b9))
          have H10 : Hid (Dk.Hold2 B S w ((w9.setCell ⟨b, 0, none⟩ (.slice va9 vn9 vc9)).setCell ⟨b, 1, none⟩ (.int .i64 c9)) (.slice ua un uc) R b (.slice va9 vn9 vc9) M9 c9) := Dk.Hold2.store hSw (Nat.le_refl _) H9 HY9 H7.out.2.2.2.2.2.1 (Dk.own_ne HO9.out HY12.out.2.1) (HO9.out.mono (Dk.zOf H12)) HA9.out
          obtain ⟨W, hW⟩ : ∃ W, W = ((w9.setCell ⟨b, 0, none⟩ (.slice va9 vn9 vc9)).setCell ⟨b, 1, none⟩ (.int .i64 c9)) := ⟨_, rfl⟩
          rw [← hW] at H10 ⊢
          clear hW y0 y1 y2 y3 y4 H7 HR7
          have f1 := H10.out.1.1
          have f2 := H10.out.1.2.1
          have f3 := H10.out.2.1.out.2.2.1
          have f4 := H10.out.2.1.out.2.2.2.1
          by_cases hc : c9 = 0
          · subst hc
            have HN := Fk.hide (H10.out.1.set hSw H10.out.2.2.1 H10.out.2.2.2.1 (by have := H10.out.2.2.2.2.1; omega))
            go_wp2_with fail
            go_roundw
            case rel => exact ⟨k - 1, _, M9, by go_num, by omega, by omega, H10.out.2.2.2.2.1, HN.out⟩
            case measure => simp [intOf]; omega
          · have hc' : (c9 == 0) = false := by simpa using hc
            have HN := Fk.hide H10.out.1
            go_wp2_with fail
            go_roundw
            case rel => exact ⟨k - 1, _, R, by go_num, by omega, by omega, hR12, HN.out⟩
            case measure => simp [intOf]; omega
        · clear HR7 HY7
          have m0 : (q == 0) = false := by simpa using n0
          have m1 : (q == 1) = false := by simpa using n1
          have m2 : (q == 2) = false := by simpa using n2
          have f1 := H7.out.1.1
          have f2 := H7.out.1.2.1
          have f3 := H7.out.2.1.out.2.2.1
          have f4 := H7.out.2.1.out.2.2.2.1
          by_cases hc : c = 0
          · subst hc
            have HN := Fk.hide (H7.out.1.set hSw H7.out.2.2.1 H7.out.2.2.2.1 (by have := H7.out.2.2.2.2.1; omega))
            go_wp2_with fail
            go_roundw
            case rel => exact ⟨k - 1, _, M, by go_num, by omega, by omega, H7.out.2.2.2.2.1, HN.out⟩
            case measure => simp [intOf]; omega
          · have hc' : (c == 0) = false := by simpa using hc
            have HN := Fk.hide H7.out.1
            go_wp2_with fail
            go_roundw
            case rel => exact ⟨k - 1, _, R, by go_num, by omega, by omega, hR12, HN.out⟩
            case measure => simp [intOf]; omega
      ·
        go_region_held3 (fun w' => w'.cell? ⟨w.heap.size + 1, 0, none⟩ = some (.slice ua un uc) ∧ Hid (Dk.Reg B S w wr.heap.size w' (.slice ua un uc) R))
          (first
            | assumption
            | exact Dk.regAlloc (by assumption)
            | exact Dk.regStore hSw (Nat.le_trans HZ2.out (by assumption)) (HU.out _ (by assumption)) (Dk.regStore hSw (Nat.le_trans HZ2.out (by assumption)) (HU.out _ (by assumption)) (by assumption)))
          (first
            | (go_at_call 71; refine (drawName_any B S _ (Dk.srcOf (by assumption))).mono ?_; rintro e w2 ⟨⟨t, rfl, ht⟩, s2, g2⟩; have H2 := Dk.regDraw hSw s2 g2 (by assumption); have HT := Fk.hide ht; (first | have HY2 := Dk.Y.draw HSz.out g2 (by assumption) | have HY2 := Dk.Y.draw HSz.out g2 (Dk.Y.new (Dk.zOf (by assumption))) | skip); clear s2 g2 ht)
            | (go_at_call 23; refine (drawN_any B S 5 _ (Dk.srcOf (by assumption)) (by omega)).mono ?_; rintro e w3 ⟨⟨r, rfl, hr0, hr1, _⟩, s3, g3⟩; have H3 := Dk.regDraw hSw s3 g3 (by assumption); have hr := hr1 (by omega); (first | have HY3 := Dk.Y.draw HSz.out g3 (by assumption) | have HY3 := Dk.Y.draw HSz.out g3 (Dk.Y.new (Dk.zOf (by assumption))) | skip); clear s3 g3 hr1)
            | (go_at_call 24; refine (drawBytes_any B S r _ (Dk.srcOf (by assumption)) (by omega)).mono ?_; rintro e w4 ⟨⟨x, rfl, hx⟩, s4, g4⟩; have H4 := Dk.regDraw hSw s4 g4 (by assumption); have HX := Fk.hide hx; (first | have HY4 := Dk.Y.draw HSz.out g4 (by assumption) | have HY4 := Dk.Y.draw HSz.out g4 (Dk.Y.new (Dk.zOf (by assumption))) | skip); clear s4 g4 hx)
            | (go_at_call 35; refine (fsAppend_spec _ R t x _ (w.heap.size + 2) (Dk.ownOf (by assumption)) HF.out (by unfold maxLen; omega) (Dk.name_fit HT.out) (by have := HX.out; unfold maxLen; omega)).mono ?_; rintro e w5 ⟨⟨v, M, c, rfl, ho5, ha5⟩, b5⟩; obtain ⟨va, vn, vc, rfl⟩ := ho5.slice'; have H5 := Dk.regBelow b5 (by assumption); have HZ5 := Fk.hide (Dk.zOf H5); have HO5 := Fk.hide ho5; have HA5 := Fk.hide (Dk.ans_fit (Fk.append_right ha5)); (first | have HY5 := Dk.Y.below b5 (by assumption) | have HY5 := Dk.Y.below b5 (Dk.Y.new (Dk.zOf (by assumption))) | skip); (first | (have y0 := HY5.out.1; have y1 := HY5.out.2.1; have y2 := HY5.out.2.2.1; have y3 := HY5.out.2.2.2.1; have y4 := HY5.out.2.2.2.2) | (have y0 := HZ5.out)); clear ho5 ha5 b5))
        all_goals
          refine ⟨rfl, _, va, vn, vc, M, c, _, _, _, _, _, _, _, _, rfl, ?_⟩
        all_goals first
          | exact Dk.Hold2.store hSw HZ2.out H5 HY5 (HU.out _ HY5.out.1) (Dk.own_ne HO5.out HY4.out.2.1) (HO5.out.mono (Nat.le_trans HZ2.out (Dk.zOf H4))) HA5.out
          | exact Dk.Hold2.store hSw HZ2.out H5 HY5 (HU.out _ HY5.out.1) (Dk.own_ne HO5.out (by simp)) (HO5.out.mono (Nat.le_trans HZ2.out (Nat.le_trans (Dk.zOf H4) (by simp)))) HA5.out
          | exact Dk.Hold2.new HZ2.out H5 (HU.out _ HZ5.out) (Dk.own_ne' HO5.out) (HO5.out.mono (Nat.le_trans HZ2.out (Dk.zOf H4))) HA5.out
    ·
      have HO2 := Fk.hide HO.out.2.2.2.2.2.1
      have hk1 : ¬ 0 < k := hlt
      go_wp2_with fail
      refine (drawOne_any B S 20 _ HO2.out (by omega)).mono ?_
      rintro e w7 ⟨⟨q, rfl⟩, s7, g7⟩
      have H7 := Fk.hide (HO.out.draw hSw s7 g7)
      clear s7 g7 HO2 HO
      cases q
      ·
        have f1 := H7.out.1
        have f2 := H7.out.2.2.2.2.2.2.2.2.1
        have f3 := H7.out.2.2.2.2.2.2.2.2.2
        obtain ⟨ua, un, uc, rfl⟩ := H7.out.2.2.1.slice'
        have HE := Fk.hide (Dk.hold_done hSw H7.out)
        have HF := Fk.hide H7.out.2.2.2.1
        have hRl := H7.out.2.2.2.2.1
        go_wp2_with fail
        have g1 : (w7.setCell ⟨w.heap.size, 0, none⟩ (.slice ua un uc)).cell? ⟨w.heap.size, 0, none⟩ = some (.slice ua un uc) := World.cell?_setCell_same _ _ _ f2
        refine bodyPost_ret (v := .agg #[.slice ua un uc]) (by simp [results, Tryz.results48, go_sem, g1]) rfl ?_
        first | exact ⟨⟨_, R, rfl, HE.out.1, HF.out, by omega⟩, HE.out.2.1, HE.out.2.2⟩ | exact ⟨⟨_, rfl, R, HE.out.1, HF.out, by omega⟩, HE.out.2.1, HE.out.2.2⟩
      · have HO2 := Fk.hide H7.out.2.2.2.2.2.1
        go_wp2_with fail
        refine (drawN_any B S 3 _ HO2.out (by omega)).mono ?_
        rintro e w8 ⟨⟨q, rfl, hq0, hq1, _⟩, s8, g8⟩
        have H8 := Fk.hide (H7.out.draw hSw s8 g8)
        have hq := hq1 (by omega)
        clear s8 g8 HO2 H7 hq1
        obtain ⟨ua, uc, rfl⟩ := H8.out.2.2.1.slice
        obtain ⟨un, hun⟩ : ∃ n, n = R.length := ⟨_, rfl⟩
        rw [← hun] at H8
        have HUN := Fk.hide hun
        have hun9 : un ≤ 1000 := by have := H8.out.2.2.2.2.1; omega
        clear hun
        obtain ⟨i0, hi, hz0, hz1, hz2⟩ := info_parts infoFile
        have hzs : (Value.agg #[.string ByteArray.empty, .string ByteArray.empty, .int .i64 0]).cells.size = 3 := rfl
        have hq3 : q = 0 ∨ q = 1 ∨ q = 2 := by omega
        rcases hq3 with rfl | rfl | rfl
        · have c8 := H8.out.1
          have bA : Below w8.heap.size w8 (w8.drew.alloc (.cells #[.string ⟨#[65]⟩, .string ⟨#[97]⟩, .string ⟨#[122, 122]⟩] 9)) := (Below.drew (Below.refl _ _)).alloc (Nat.le_refl _) _
          have HT8 : Hid (∀ i, i < 3 → (w8.drew.alloc (.cells #[.string ⟨#[65]⟩, .string ⟨#[97]⟩, .string ⟨#[122, 122]⟩] 9)).cell? ⟨w8.heap.size, i, none⟩ = some (.string (([⟨#[65]⟩, ⟨#[97]⟩, ⟨#[122, 122]⟩] : List ByteArray).getD i ByteArray.empty))) := by
            intro i hi
            rw [Fk.cellTop w8.drew _ _ w8.heap.size _ rfl]
            match i, hi with
            | 0, _ => rfl
            | 1, _ => rfl
            | 2, _ => rfl
          have HA8 := Fk.hide (H8.out.below bA)
          have hn8 := World.new_ne w8 _ c8
          have c8a : ∀ o, (w8.drew.alloc o).cell? ⟨w.heap.size + 1, 0, none⟩ = some (.slice ua un uc) := fun o => (H8.out.below ((Below.drew (Below.refl _ _)).alloc (Nat.le_refl _) o)).1
          have c8b : ∀ o, (w8.alloc o).drew.cell? ⟨w.heap.size + 1, 0, none⟩ = some (.slice ua un uc) := fun o => (H8.out.below (Below.drew ((Below.refl _ _).alloc (Nat.le_refl _) o))).1
          have hS8 : Hid (w8.heap.size ≠ S) := by have := H8.out.2.2.2.2.2.2.2.1; show _ ≠ _; omega
          clear bA
          go_wp2_with fail
          set_option maxRecDepth 20000 in
          go_region_law
            (first
              | (go_simp; go_at_call 73; refine (drawPick_any B S w8.heap.size 3 3 [⟨#[65]⟩, ⟨#[97]⟩, ⟨#[122, 122]⟩] _ HA8.out.2.2.2.2.2.1 hS8.out rfl (by decide) (by decide) HT8.out).mono ?_; rintro e w9 ⟨⟨t9, rfl, ht9⟩, s9, g9⟩; have H9 := Fk.hide (HA8.out.draw hSw s9 g9); have c9 := H9.out.1; have HT9 : Hid (t9.size ≤ 2) := (by show t9.size ≤ 2; simp only [List.mem_cons, List.not_mem_nil, or_false] at ht9; rcases ht9 with rfl | rfl | rfl <;> decide); clear s9 g9 ht9; go_wp2_with fail)
              | (go_simp; go_at_call 23; refine (drawN_any B S 2 _ H9.out.2.2.2.2.2.1 (by omega)).mono ?_; rintro e w10 ⟨⟨r, rfl, hr0, hr1, _⟩, s10, g10⟩; have H10 := Fk.hide (H9.out.draw hSw s10 g10); have hr := hr1 (by omega); have c10 := H10.out.1; have hn10 := World.new_ne w10 _ c10; have c13 : ∀ o, (w10.alloc o).cell? ⟨w.heap.size + 1, 0, none⟩ = some (.slice ua un uc) := fun o => (H10.out.below ((Below.refl _ _).alloc (Nat.le_refl _) o)).1; clear s10 g10 hr1; go_wp2_with fail)
              | (refine step_append_lies _ (by rfl) _ _ _ (by rfl) (w.heap.size + 2) 75 i0 _ 3 40 Tryz.underlying23 hi hz0 hz1 hz2 hzs (by decide) (.slice ua un uc) un (Fk.flat R) (by rfl) (Dk.ownN (H10.out.below ((Below.refl _ _).alloc (Nat.le_refl _) _)).2.2.1 HUN.out) ⟨w10.heap.size, 0, none⟩ 1 1 [.string t9, .string ByteArray.empty, .int .i64 r] (by rfl) (by rfl) (World.news_of_block (cs := #[.string t9, .string ByteArray.empty, .int .i64 r]) (t := 75) (fr := (0, 0)) (heap_alloc_new w10 _)) (by simp [Value.oneCell']) (by omega) (by unfold maxLen; omega) (by omega) (Nat.le_trans H10.out.2.2.2.2.2.2.2.1 (by simp)) (w10.heap.size + 1) (by simp) ?_; intro gg cc w11 o11 g11 hat hlt; have HX := Dk.appended (f := (t9, ByteArray.empty, r)) hSw H10.out g11 o11 HUN.out (Dk.fit3 (by have := HT9.out; omega) (by decide) (by omega) (by omega)) (by omega); have c11 := HX.1.1; have c12 := HX.1.2; have H11 := Fk.hide HX.2; clear HX g11 o11 hat hlt))
          all_goals
            obtain ⟨W, hW⟩ : ∃ W, W = w11.setCell ⟨w.heap.size + 1, 0, none⟩ (.slice (some ⟨gg, 0, none⟩) (un + 1) cc) := ⟨_, rfl⟩
            rw [← hW] at H11 ⊢
            clear hW c8 c8a c8b c9 c10 c11 c12 c13 hn8 hn10
            have f1 := H11.out.1
            have f2 := H11.out.2.2.2.2.2.2.2.2.1
            have f3 := H11.out.2.2.2.2.2.2.2.2.2
            have HE := Fk.hide (Dk.hold_done hSw H11.out)
            have HF := Fk.hide H11.out.2.2.2.1
            have hRl := H11.out.2.2.2.2.1
            go_wp2_with fail
            have g1 : (W.setCell ⟨w.heap.size, 0, none⟩ (.slice (some ⟨gg, 0, none⟩) (un + 1) cc)).cell? ⟨w.heap.size, 0, none⟩ = some (.slice (some ⟨gg, 0, none⟩) (un + 1) cc) := World.cell?_setCell_same _ _ _ f2
            refine bodyPost_ret (v := .agg #[.slice (some ⟨gg, 0, none⟩) (un + 1) cc]) (by simp [results, Tryz.results48, go_sem, g1]) rfl ?_
            first | exact ⟨⟨_, (R ++ [(t9, ByteArray.empty, r)]), rfl, HE.out.1, HF.out, by omega⟩, HE.out.2.1, HE.out.2.2⟩ | exact ⟨⟨_, rfl, (R ++ [(t9, ByteArray.empty, r)]), HE.out.1, HF.out, by omega⟩, HE.out.2.1, HE.out.2.2⟩
        · go_wp2_with fail
          go_loopw [] (fun wq => ∃ (ua : Option Addr) (un uc : Nat) (R : List Fk.Fl), Hid (un = R.length) ∧ un ≤ 13 ∧ Hid (Dk.Hold B S w wq (.slice ua un uc) R)) (fun wq => 14 - Dk.lenAt wq (w.heap.size + 1))
          case atStart => exact ⟨ua, un, uc, R, HUN.out, by have := HUN.out; omega, H8.out⟩
          case round =>
            obtain ⟨va, vn, vc, M, HVN, hvn, HM⟩ := hrel
            have HD := Dk.regBelow (B := B) (S := S) (w := w) (z := 0) (u := .slice va vn vc) (R := M) (w2 := wr.drew) (Below.drew (Below.refl _ _)) ⟨HM.out.1, HM.out, Nat.zero_le _⟩
            have HL : Hid (Dk.lenAt wr (w.heap.size + 1) = vn) := Dk.lenAt_of HM.out.1
            go_wp2_with fail
            go_region_held3 (fun w' => w'.cell? ⟨w.heap.size + 1, 0, none⟩ = some (.slice va vn vc) ∧ Hid (Dk.Reg B S w 0 w' (.slice va vn vc) M))
              (assumption)
              (first | (go_at_call 23; refine (drawN_any B S 3 _ (Dk.srcOf (by assumption)) (by omega)).mono ?_; rintro e w9 ⟨⟨r, rfl, hr0, hr1, _⟩, s9, g9⟩; have H9 := Dk.regDraw hSw s9 g9 (by assumption); have hr := hr1 (by omega); have hw : IntKind.i64.wrap (11 + r) = 11 + r := (by rw [IntKind.wrap_i64]; omega); clear s9 g9 hr1))
            have HX := Fk.hide H9.2.out.1
            have c9 := HX.out.1
            clear HD hw H9
            by_cases hlt2 : (vn : Int) < 11 + r
            · set_option maxRecDepth 100000 in
              go_wp2_with fail
              have c9a : ∀ o, (w9.drew.alloc o).cell? ⟨w.heap.size + 1, 0, none⟩ = some (.slice va vn vc) := fun o => (HX.out.below ((Below.drew (Below.refl _ _)).alloc (Nat.le_refl _) o)).1
              have HX9 := Fk.hide (HX.out.below (Below.drew (Below.refl _ _)))
              have hw10 : IntKind.i64.wrap (10 + (vn : Int)) = 10 + (vn : Int) := by rw [IntKind.wrap_i64]; omega
              set_option maxRecDepth 20000 in
              go_region_law
                (first
                  | (go_simp; go_at_call 74; refine (l01Dec_int (10 + (vn : Int)) _ (by omega) (by omega)).mono ?_; rintro e w10 ⟨rfl, b10⟩; obtain ⟨t10, ht10⟩ : ∃ t, t = Dk.decS (10 + (vn : Int)).toNat := ⟨_, rfl⟩; have h10 : t10.size ≤ 9 := (by rw [ht10]; exact Dk.decS_len (by decide) (by omega)); have h12 : ¬ 9223372036854775807 < 1 + t10.size := (by omega); rw [← ht10]; clear ht10; have H10 := Fk.hide (HX9.out.below b10); have c10 := H10.out.1; have hn10 := World.new_ne w10 _ c10; have c13 : ∀ o, (w10.alloc o).cell? ⟨w.heap.size + 1, 0, none⟩ = some (.slice va vn vc) := fun o => (H10.out.below ((Below.refl _ _).alloc (Nat.le_refl _) o)).1; have h11 : ((⟨#[116]⟩ : ByteArray) ++ t10).size ≤ 10 := (by simp [ByteArray.size_append]; show 1 + _ ≤ _; omega); clear b10; go_wp2_with fail)
                  | (refine step_append_lies _ (by rfl) _ _ _ (by rfl) (w.heap.size + 2) 75 i0 _ 3 40 Tryz.underlying23 hi hz0 hz1 hz2 hzs (by decide) (.slice va vn vc) vn (Fk.flat M) (by rfl) (Dk.ownN (H10.out.below ((Below.refl _ _).alloc (Nat.le_refl _) _)).2.2.1 HVN.out) ⟨w10.heap.size, 0, none⟩ 1 1 [.string (⟨#[116]⟩ ++ t10), .string ByteArray.empty, .int .i64 0] (by rfl) (by rfl) (World.news_of_block (cs := #[.string (⟨#[116]⟩ ++ t10), .string ByteArray.empty, .int .i64 0]) (t := 75) (fr := (0, 0)) (heap_alloc_new w10 _)) (by simp [Value.oneCell']) (by omega) (by unfold maxLen; omega) (by omega) (Nat.le_trans H10.out.2.2.2.2.2.2.2.1 (by simp)) (w10.heap.size + 1) (by simp) ?_; intro gg cc w11 o11 g11 hat hlt3; have HX := Dk.appended (f := (⟨#[116]⟩ ++ t10, ByteArray.empty, 0)) hSw H10.out g11 o11 HVN.out (Dk.fit3 (by omega) (by decide) (by decide) (by decide)) (by have := HVN.out; omega); have c11 := HX.1.1; have c12 := HX.1.2; have H11 := Fk.hide HX.2; clear HX g11 o11 hat hlt3))
              all_goals
                obtain ⟨W, hW⟩ : ∃ W, W = w11.setCell ⟨w.heap.size + 1, 0, none⟩ (.slice (some ⟨gg, 0, none⟩) (vn + 1) cc) := ⟨_, rfl⟩
                rw [← hW] at H11 ⊢
                have HL2 : Hid (Dk.lenAt W (w.heap.size + 1) = vn + 1) := Dk.lenAt_of H11.out.1
                have HV2 : Hid (vn + 1 = (M ++ [((⟨#[116]⟩ : ByteArray) ++ t10, ByteArray.empty, (0 : Int))]).length) := by show _ = _; rw [List.length_append, HVN.out]; rfl
                clear hW c9 c9a c10 c11 c12 c13 hn10 hw10
                go_wp2_with fail
                go_roundw
                case rel => exact ⟨some ⟨gg, 0, none⟩, vn + 1, cc, M ++ [((⟨#[116]⟩ : ByteArray) ++ t10, ByteArray.empty, (0 : Int))], HV2.out, by omega, H11.out⟩
                case measure => show 14 - Dk.lenAt W (w.heap.size + 1) < 14 - Dk.lenAt wr (w.heap.size + 1); rw [HL.out, HL2.out]; omega
            ·
              have f1 := HX.out.1
              have f2 := HX.out.2.2.2.2.2.2.2.2.1
              have f3 := HX.out.2.2.2.2.2.2.2.2.2
              have HE := Fk.hide (Dk.hold_done hSw HX.out)
              have HF := Fk.hide HX.out.2.2.2.1
              have hRl := HX.out.2.2.2.2.1
              set_option maxRecDepth 100000 in
              go_wp2_with fail
              have g1 : (w9.setCell ⟨w.heap.size, 0, none⟩ (.slice va vn vc)).cell? ⟨w.heap.size, 0, none⟩ = some (.slice va vn vc) := World.cell?_setCell_same _ _ _ f2
              refine bodyPost_ret (v := .agg #[.slice va vn vc]) (by simp [results, Tryz.results48, go_sem, g1]) rfl ?_
              first | exact ⟨⟨_, M, rfl, HE.out.1, HF.out, by omega⟩, HE.out.2.1, HE.out.2.2⟩ | exact ⟨⟨_, rfl, M, HE.out.1, HF.out, by omega⟩, HE.out.2.1, HE.out.2.2⟩
        · have c8 := H8.out.1
          go_wp2_with fail
          set_option maxRecDepth 20000 in
          go_region_law
            (first
              | (go_simp; go_at_call 23; refine (drawN_any B S 2 _ (H8.out.below (Below.drew (Below.refl _ _))).2.2.2.2.2.1 (by omega)).mono ?_; rintro e w9 ⟨⟨r, rfl, hr0, hr1, _⟩, s9, g9⟩; have H9 := Fk.hide ((H8.out.below (Below.drew (Below.refl _ _))).draw hSw s9 g9); have hr := hr1 (by omega); have c9 := H9.out.1; have hw : IntKind.i64.wrap (3000 + r) = 3000 + r := (by rw [IntKind.wrap_i64]; omega); obtain ⟨O9, q9, t9, hm9, hv9, ht9⟩ := Dk.zeros w9 (3000 + r) (by omega) (by omega); have HT9 := Fk.hide ht9; have hn9 := World.new_ne w9 _ c9; have c10 : (w9.alloc O9).cell? ⟨w.heap.size + 1, 0, none⟩ = some (.slice ua un uc) := (H9.out.below ((Below.refl _ _).alloc (Nat.le_refl _) _)).1; have hn10 := World.new_ne (w9.alloc O9) _ c10; have c13 : ∀ o, ((w9.alloc O9).alloc o).cell? ⟨w.heap.size + 1, 0, none⟩ = some (.slice ua un uc) := fun o => (H9.out.below (((Below.refl _ _).alloc (Nat.le_refl _) O9).alloc (by simp) o)).1; clear s9 g9 hr1 ht9; go_wp2_with fail)
              | (refine step_append_lies _ (by rfl) _ _ _ (by rfl) (w.heap.size + 2) 75 i0 _ 3 40 Tryz.underlying23 hi hz0 hz1 hz2 hzs (by decide) (.slice ua un uc) un (Fk.flat R) (by rfl) (Dk.ownN (H9.out.below (((Below.refl _ _).alloc (Nat.le_refl _) O9).alloc (by simp) _)).2.2.1 HUN.out) ⟨(w9.alloc O9).heap.size, 0, none⟩ 1 1 [.string ⟨#[122, 122]⟩, .string t9, .int .i64 0] (by simp <;> rfl) (by rfl) (World.news_of_block (cs := #[.string ⟨#[122, 122]⟩, .string t9, .int .i64 0]) (t := 75) (fr := (0, 0)) (heap_alloc_new (w9.alloc O9) _)) (by simp [Value.oneCell']) (by omega) (by unfold maxLen; omega) (by omega) (Nat.le_trans H9.out.2.2.2.2.2.2.2.1 (by simp; omega)) (w9.heap.size + 1 + 1) (by simp) ?_; intro gg cc w11 o11 g11 hat hlt; have HX := Dk.appended (f := (⟨#[122, 122]⟩, t9, 0)) hSw (H9.out.below ((Below.refl _ _).alloc (Nat.le_refl _) O9)) g11 o11 HUN.out (Dk.fit3 (by decide) (by have := HT9.out; omega) (by decide) (by decide)) (by omega); have c11 := HX.1.1; have c12 := HX.1.2; have H11 := Fk.hide HX.2; clear HX g11 o11 hat hlt))
          all_goals
            obtain ⟨W, hW⟩ : ∃ W, W = w11.setCell ⟨w.heap.size + 1, 0, none⟩ (.slice (some ⟨gg, 0, none⟩) (un + 1) cc) := ⟨_, rfl⟩
            rw [← hW] at H11 ⊢
            clear hW c8 c9 c10 c11 c12 c13 hn9 hn10 hm9 hv9 hw
            have f1 := H11.out.1
            have f2 := H11.out.2.2.2.2.2.2.2.2.1
            have f3 := H11.out.2.2.2.2.2.2.2.2.2
            have HE := Fk.hide (Dk.hold_done hSw H11.out)
            have HF := Fk.hide H11.out.2.2.2.1
            have hRl := H11.out.2.2.2.2.1
            go_wp2_with fail
            have g1 : (W.setCell ⟨w.heap.size, 0, none⟩ (.slice (some ⟨gg, 0, none⟩) (un + 1) cc)).cell? ⟨w.heap.size, 0, none⟩ = some (.slice (some ⟨gg, 0, none⟩) (un + 1) cc) := World.cell?_setCell_same _ _ _ f2
            refine bodyPost_ret (v := .agg #[.slice (some ⟨gg, 0, none⟩) (un + 1) cc]) (by simp [results, Tryz.results48, go_sem, g1]) rfl ?_
            first | exact ⟨⟨_, (R ++ [((⟨#[122, 122]⟩ : ByteArray), t9, (0 : Int))]), rfl, HE.out.1, HF.out, by omega⟩, HE.out.2.1, HE.out.2.2⟩ | exact ⟨⟨_, rfl, (R ++ [((⟨#[122, 122]⟩ : ByteArray), t9, (0 : Int))]), HE.out.1, HF.out, by omega⟩, HE.out.2.1, HE.out.2.2⟩
end Go.Proofs.YtojdfdlbdpdlkaaGreatDoor
