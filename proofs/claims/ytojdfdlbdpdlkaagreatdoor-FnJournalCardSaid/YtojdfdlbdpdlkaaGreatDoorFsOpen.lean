/- The walks of the program's openFiles and find: the files in a map by their names, or why not. -/
import Derived.Test.YtojdfdlbdpdlkaaGreatDoorJoined6
import Derived.Test.YtojdfdlbdpdlkaaGreatDoorJoined7
import Derived.WalkKit
import Derived.WalkSpells
import Derived.WalkLawsBesides
import Derived.BigQuiet
import Derived.Maps.OwnSet
namespace Go.Proofs.YtojdfdlbdpdlkaaGreatDoor
open Go.RowKit Go.Maps
open Go.WideMaps (keyOf_string_mk)
set_option linter.unusedVariables false
namespace Fk
/-- why files are not opened: 1 a name is too long, 2 the files or a name are not right, 0 they are -/
def opn (L : List Fl) (T : List ByteArray) : Nat :=
  if T.any (fun t => decide (8000 < t.size)) then 1 else if right L = false then 2 else if T.any (fun t => !Nm.nameB t) then 2 else 0
theorem opn_long (L : List Fl) (T : List ByteArray) (k : Nat) (hk : k < T.length) (h : 8000 < (T.getD k ByteArray.empty).size) : opn L T = 1 := by
  unfold opn
  rw [if_pos]
  rw [List.any_eq_true]
  exact ⟨T[k], List.getElem_mem hk, by simpa [List.getD, List.getElem?_eq_getElem hk] using h⟩
theorem no_long (T : List ByteArray) (h : ∀ k, k < T.length → (T.getD k ByteArray.empty).size ≤ 8000) : T.any (fun t => decide (8000 < t.size)) = false := by
  rw [List.any_eq_false]
  intro t ht
  obtain ⟨k, hk, e⟩ := List.getElem_of_mem ht
  have := h k hk
  simp only [List.getD, List.getElem?_eq_getElem hk, Option.getD_some, e] at this
  simp; omega
theorem opn_ill (L : List Fl) (T : List ByteArray) (h : ∀ k, k < T.length → (T.getD k ByteArray.empty).size ≤ 8000) (hr : right L = false) : opn L T = 2 := by
  unfold opn
  rw [no_long T h, hr]
  simp
theorem opn_name (L : List Fl) (T : List ByteArray) (h : ∀ k, k < T.length → (T.getD k ByteArray.empty).size ≤ 8000) (hr : right L = true) (k : Nat) (hk : k < T.length) (hn : Nm.nameB (T.getD k ByteArray.empty) = false) : opn L T = 2 := by
  unfold opn
  rw [no_long T h, hr]
  have : T.any (fun t => !Nm.nameB t) = true := by
    rw [List.any_eq_true]
    exact ⟨T[k], List.getElem_mem hk, by simpa [List.getD, List.getElem?_eq_getElem hk] using hn⟩
  simp [this]
theorem opn_ok (L : List Fl) (T : List ByteArray) (h : ∀ k, k < T.length → (T.getD k ByteArray.empty).size ≤ 8000) (hr : right L = true) (hn : ∀ k, k < T.length → Nm.nameB (T.getD k ByteArray.empty) = true) : opn L T = 0 := by
  unfold opn
  rw [no_long T h, hr]
  have : T.any (fun t => !Nm.nameB t) = false := by
    rw [List.any_eq_false]
    intro t ht
    obtain ⟨k, hk, e⟩ := List.getElem_of_mem ht
    have := hn k hk
    simp only [List.getD, List.getElem?_eq_getElem hk, Option.getD_some, e] at this
    simp [this]
  simp [this]
theorem opn_right (L : List Fl) (T : List ByteArray) (h : opn L T = 0) : right L = true := by
  unfold opn at h
  cases hr : right L with
  | true => rfl
  | false =>
    rw [hr] at h
    split at h <;> simp at h
end Fk

theorem zeroFile (w : World) : (zeroValue 75).run Tryz.prog w = .ok (.agg #[.string ByteArray.empty, .string ByteArray.empty, .int .i64 0]) w := by kernel_rfl

set_option maxHeartbeats 4000000 in
theorem open_any (v : Value) (L : List Fk.Fl) (T : List ByteArray) (nb : Nat) (a0 a1 a2 a3 a4 : Addr) (w : World) (hv : Fk.View w v L) (hL : Fk.Fits L) (hl : L.length ≤ maxLen) (hT : T.length ≤ 2) (hTs : ∀ k, (T.getD k ByteArray.empty).size ≤ maxLen)
    (hb : nb < w.heap.size) (hc : ∀ k, k < T.length → w.cell? ⟨nb, k, none⟩ = some (.string (T.getD k ByteArray.empty))) (hE : Is.Errs w a0 a1 a2 a3 a4) :
    Calls Tryz.prog 26 #[.agg #[v], .slice (some ⟨nb, 0, none⟩) T.length T.length] w fun e w' =>
      ((Fk.opn L T = 0 ∧ ∃ b D, e = .returned (.tuple #[.map (some b), .nilIface]) ∧ w'.ownsMap Tryz.prog 9 Fk.rdFile b L.length D ∧ Fk.Mp D L ∧ w.heap.size ≤ b) ∨ (Fk.opn L T ≠ 0 ∧ e = .returned (.tuple #[.map none, Is.er a0 a1 a2 a3 a4 (Fk.opn L T)]))) ∧ Below w.heap.size w w' := by
  have HLM := Fk.hide hl
  unfold maxLen at hl
  have b0 : Below w.heap.size w (w.alloc (.cells #[v] 25)) := (Below.refl _ _).alloc (Nat.le_refl _) _
  have hv' := hv.below b0
  have hcell : (w.alloc (.cells #[v] 25)).cell? ⟨w.heap.size, 0, none⟩ = some v := by rw [Fk.cellTop _ _ _ _ _ rfl]; rfl
  have hsz : w.heap.size < (w.alloc (.cells #[v] 25)).heap.size := by simp
  obtain ⟨W, hW⟩ : ∃ W, W = w.alloc (.cells #[v] 25) := ⟨_, rfl⟩
  have hE' := hE.below b0
  have hc' : ∀ k, k < T.length → (w.alloc (.cells #[v] 25)).cell? ⟨nb, k, none⟩ = some (.string (T.getD k ByteArray.empty)) := fun k hk => (b0.cell (by exact hb)).trans (hc k hk)
  rw [← hW] at b0 hv' hcell hsz hE' hc'
  have HW := Fk.hide hW
  clear hW hv hc hE
  obtain ⟨a, cap, rfl, hs⟩ := hv'
  have hvW : Fk.View W (.slice a L.length cap) L := ⟨a, cap, rfl, hs⟩
  have g0 := hE'.c0
  have g1 := hE'.c1
  unfold Is.ev at g0 g1
  have HC := Fk.hide hc'
  have HTS := Fk.hide hTs
  clear hc' hTs
  go_enter Tryz.func26, Tryz.ntmps26
  go_wp2_with fail
  rw [← HW.out]
  go_loop [15] (fun i => ∃ k : Nat, k ≤ T.length ∧ i = .int .i64 k ∧ Hid (∀ j, j < k → (T.getD j ByteArray.empty).size ≤ 8000)) (fun i => T.length - (intOf i).toNat)
  case atStart => exact ⟨0, Nat.zero_le _, rfl, fun j hj => absurd hj (by omega)⟩
  case round =>
    obtain ⟨k, hk, rfl, HK⟩ := hrel
    by_cases hlt : k < T.length
    · have q0 := HC.out k hlt
      have z0 := HTS.out k
      unfold maxLen at z0
      obtain ⟨t, ht⟩ : ∃ t, Hid (t = T.getD k ByteArray.empty) := ⟨_, rfl⟩
      rw [← ht.out] at q0 z0
      by_cases h8 : (8000 : Int) < (t.size : Int)
      · have HF := Fk.hide (Fk.opn_long L T k hlt (by rw [← ht.out]; omega))
        go_wp2_with fail
        go_region
        all_goals
          go_wp2_with fail
          go_ret2
          refine ⟨.inr ⟨by rw [HF.out]; decide, ?_⟩, b0.trans ((Below.drew (Below.refl _ W)).mono b0.size)⟩
          rw [HF.out]
          rfl
      · go_wp2_with fail
        go_round
        case rel =>
          refine ⟨k + 1, by omega, by go_num, fun j hj => ?_⟩
          by_cases e : j = k
          · rw [e, ← ht.out]; omega
          · exact HK.out j (by omega)
        case measure => simp [intOf]; omega
    · have e : k = T.length := by omega
      subst e
      go_wp2_with fail
      refine (fsRight_impl _ L _ hvW hL HLM.out).mono ?_
      rintro e w1 ⟨rfl, b1⟩
      have B1 := Fk.hide (b0.trans (b1.mono b0.size))
      have E1 := Fk.hide (hE'.below b1)
      have f0 := E1.out.c0
      have f1 := E1.out.c1
      unfold Is.ev at f0 f1
      have hcell1 : w1.cell? ⟨w.heap.size, 0, none⟩ = some (.slice a L.length cap) := (b1.cell (by exact hsz)).trans hcell
      have C1 : Hid (∀ k, k < T.length → w1.cell? ⟨nb, k, none⟩ = some (.string (T.getD k ByteArray.empty))) := fun k hk => (b1.cell (by show nb < _; omega)).trans (HC.out k hk)
      have V1 := Fk.hide (hvW.below b1)
      have hsz1 : w.heap.size < w1.heap.size := Nat.lt_of_lt_of_le hsz b1.size
      clear b1 g0 g1 hcell HC hvW hE' hs
      cases hr : Fk.right L with
      | false =>
        have HF := Fk.hide (Fk.opn_ill L T HK.out hr)
        go_wp2_with fail
        go_region
        all_goals
          go_wp2_with fail
          go_ret2
          refine ⟨.inr ⟨by rw [HF.out]; decide, ?_⟩, B1.out.trans ((Below.drew (Below.refl _ w1)).mono B1.out.size)⟩
          rw [HF.out]
          rfl
      | true =>
        go_wp2_with fail
        go_loop [30] (fun i => ∃ k : Nat, k ≤ T.length ∧ i = .int .i64 k ∧ Hid (∀ j, j < k → Nm.nameB (T.getD j ByteArray.empty) = true)) (fun i => T.length - (intOf i).toNat)
        case atStart => exact ⟨0, Nat.zero_le _, rfl, fun j hj => absurd hj (by omega)⟩
        case round =>
          obtain ⟨k, hk, rfl, HN⟩ := hrel
          by_cases hlt : k < T.length
          · have q0 := C1.out k hlt
            have z0 := HTS.out k
            obtain ⟨t, ht⟩ : ∃ t, Hid (t = T.getD k ByteArray.empty) := ⟨_, rfl⟩
            rw [← ht.out] at q0 z0
            cases hn : Nm.nameB t with
            | false =>
              have HF := Fk.hide (Fk.opn_name L T HK.out hr k hlt (by rw [← ht.out]; exact hn))
              go_wp2_with (go_at_call 52; refine (implName_any _ _ z0).mono ?_; rintro e w' ⟨rfl, rfl⟩)
              go_region
              all_goals
                go_wp2_with fail
                go_ret2
                refine ⟨.inr ⟨by rw [HF.out]; decide, ?_⟩, B1.out.trans ((Below.drew (Below.refl _ _)).mono B1.out.size)⟩
                rw [HF.out]
                rfl
            | true =>
              go_wp2_with (go_at_call 52; refine (implName_any _ _ z0).mono ?_; rintro e w' ⟨rfl, rfl⟩)
              go_round
              case rel =>
                refine ⟨k + 1, by omega, by go_num, fun j hj => ?_⟩
                by_cases e : j = k
                · rw [e, ← ht.out]; exact hn
                · exact HN.out j (by omega)
              case measure => simp [intOf]; omega
          · have e : k = T.length := by omega
            subst e
            have HF := Fk.hide (Fk.opn_ok L T HK.out hr HN.out)
            have hmm := @run_makeMap Tryz.prog
            go_wp2_with fail
            have bm : Below w1.heap.size w1 (w1.alloc (.map #[] 0)) := (Below.refl _ _).alloc (Nat.le_refl _) _
            have hm0 := World.ownsMap_made w1 Tryz.prog 9 Fk.rdFile
            have hav := Fk.right_rises L hr
            go_loopw [43] (fun i wr => ∃ (k : Nat) (D : DataW Unit), k ≤ L.length ∧ i = .int .i64 k ∧ wr.ownsMap Tryz.prog 9 Fk.rdFile w1.heap.size k D ∧ Hid (Fk.Mp D (L.take k)) ∧ Below w1.heap.size w1 wr) (fun i _ => L.length - (intOf i).toNat)
            case atStart => exact ⟨0, _, Nat.zero_le _, rfl, hm0, Fk.mp_empty, bm⟩
            case round =>
              obtain ⟨k, D, hk, rfl, hown, HM, bel⟩ := hrel
              clear bm hm0
              by_cases hlt : k < L.length
              · obtain ⟨a', cap', ev, hs1⟩ := V1.out
                simp only [Value.slice.injEq] at ev
                obtain ⟨rfl, _, rfl⟩ := ev
                obtain ⟨b, o, rfl, hb1, hs2⟩ := hs1 (by omega)
                have hs3 := hs2.below hb1 bel
                have q0 := hs3.c0 k hlt
                have q1 := hs3.c1 k hlt
                have q2 := hs3.c2 k hlt
                obtain ⟨z0, z1, z2⟩ := Fk.fits_get hL k
                have hkey := keyOf_string_mk Tryz.underlying9 z0
                clear hs3 hs1 z0 z1 z2
                go_wp2_with (at_mapUpdate; refine wpList_mapUpdate_own _ rfl _ _ _ 52 rfl 9 75 (string_keyed Tryz.underlying9) Tryz.underlying52 Fk.rdFile w1.heap.size k D rfl (hown.alloc _) (by unfold maxLen; omega) _ _ _ rfl rfl hkey _ [] (Fk.rdFile_mk (Fk.nm L k, Fk.dt L k, Fk.sy L k)) ?_; intro w4 hown4 hgrow4)
                have b4 : Below w1.heap.size w1 w4 := (bel.alloc bel.size _).grown hgrow4 (by simp; have := bel.size; omega) (fun j hj => by cases hj; exact Nat.le_refl _)
                have HM4 : Hid (Fk.Mp (D.put (Fk.kl (Fk.nm L k)) (Fk.fd (Fk.nm L k, Fk.dt L k, Fk.sy L k))) (L.take (k + 1))) := by
                  have et : L.take (k + 1) = L.take k ++ [(Fk.nm L k, Fk.dt L k, Fk.sy L k)] := by
                    have e1 : (Fk.nm L k, Fk.dt L k, Fk.sy L k) = L[k] := by simp [Fk.nm, Fk.dt, Fk.sy, List.getD, List.getElem?_eq_getElem hlt]
                    rw [e1, List.take_add_one, List.getElem?_eq_getElem hlt]
                    rfl
                  show Fk.Mp _ _
                  rw [et]
                  refine HM.out.add (Fk.nm L k, Fk.dt L k, Fk.sy L k) fun g hg => ?_
                  have hp := hav.apart
                  have et' : L = L.take k ++ (Fk.nm L k, Fk.dt L k, Fk.sy L k) :: L.drop (k + 1) := by
                    have := (List.take_append_drop (k + 1) L).symm
                    rw [et, List.append_assoc] at this
                    exact this
                  rw [et'] at hp
                  exact (List.pairwise_append.1 hp).2.2 g hg _ (List.mem_cons_self ..)
                clear hgrow4 hown hkey q0 q1 q2
                go_wp2_with fail
                go_roundw
                case rel => exact ⟨k + 1, _, by omega, by go_num, hown4, HM4, b4⟩
                case measure => simp [intOf]; omega
              · have e : k = L.length := by omega
                subst e
                have HM' := Fk.hide (show Fk.Mp D L by have := HM.out; rwa [List.take_length] at this)
                have HO := Fk.hide hown
                have HB := Fk.hide (B1.out.trans (bel.mono B1.out.size))
                clear hown bel HM
                go_wp2_with fail
                go_ret2
                exact ⟨.inl ⟨HF.out, _, D, rfl, HO.out, HM'.out, Nat.le_of_lt hsz1⟩, HB.out⟩

set_option maxHeartbeats 4000000 in
theorem find_any (b n : Nat) (D : DataW Unit) (M : List Fk.Fl) (name : ByteArray) (a0 a1 a2 a3 a4 : Addr) (w : World) (hm : w.ownsMap Tryz.prog 9 Fk.rdFile b n D) (hM : Fk.Mp D M) (hn : name.size ≤ maxLen) (hE : Is.Errs w a0 a1 a2 a3 a4) :
    Calls Tryz.prog 56 #[.map (some b), .string name] w fun e w' =>
      ((∃ f, Fk.get M name = some f ∧ e = .returned (.tuple #[.agg #[.string f.1, .string f.2.1, .int .i64 f.2.2], .nilIface])) ∨ (Fk.get M name = none ∧ e = .returned (.tuple #[.agg #[.string ByteArray.empty, .string ByteArray.empty, .int .i64 0], Is.er a0 a1 a2 a3 a4 3]))) ∧ Below w.heap.size w w' := by
  have hkey := keyOf_string_mk Tryz.underlying9 hn
  have b0 : ∀ o, Below w.heap.size w (w.alloc o) := fun o => (Below.refl _ _).alloc (Nat.le_refl _) _
  cases hg : Fk.get M name with
  | none =>
    have g2 := hE.c2
    unfold Is.ev at g2
    obtain ⟨W, hW⟩ : ∃ W, W = (w.alloc (.cells #[.string { data := #[] }, .string { data := #[] }, .int .i64 0] 75)).alloc (.cells #[.string ByteArray.empty, .string ByteArray.empty, .int .i64 0] 75) := ⟨_, rfl⟩
    have b2 : Below w.heap.size w W := by
      rw [hW]
      repeat (first | exact Below.refl _ _ | refine Below.alloc ?_ (by simp <;> omega) _)
    have c0 : ∀ j, W.cell? ⟨w.heap.size, j, none⟩ = #[Value.string { data := #[] }, .string { data := #[] }, .int .i64 0][j]? := fun j => by rw [hW, Fk.cellOld _ _ _ _ (by simp), Fk.cellTop _ _ _ _ _ rfl]
    have f0 : ∀ j, W.frozen? ⟨w.heap.size, j, none⟩ = false := fun j => by rw [hW, Fk.frozOld _ _ _ _ (by simp), Fk.frozTop _ _ _ _ _ rfl]
    have q0 : W.cell? ⟨w.heap.size, 0, none⟩ = some (.string ByteArray.empty) := c0 0
    have q1 : W.cell? ⟨w.heap.size, 1, none⟩ = some (.string ByteArray.empty) := c0 1
    have q2 : W.cell? ⟨w.heap.size, 2, none⟩ = some (.int .i64 0) := c0 2
    have g2' := Is.cell_below g2 b2
    have h2 : 2 < w.heap.size := World.block_lt_of_cell? w _ g2
    have n2 : ¬ 2 = w.heap.size := by omega
    have n3 : ¬ w.heap.size = 2 := by omega
    have n4 : ∀ v, (W.setCell ⟨w.heap.size, 0, none⟩ v).cell? ⟨2, 0, none⟩ = some (.iface 168 (.pointer (some a2))) := fun v => by
      rw [World.cell?_of_block (w := W) (Deep.blk_setCell_other W _ _ _ (by exact n2))]; exact g2'
    have HW := Fk.hide hW
    clear hW c0
    go_enter Tryz.func56, Tryz.ntmps56
    go_wp2_with (at_lookup; refine Fk.wpList_look_miss _ rfl _ _ 52 rfl 9 75 (string_keyed Tryz.underlying9) Tryz.underlying52 (zeroFile _) b n D M name rfl (hm.alloc _) hM hg _ rfl hkey ?_)
    rw [← HW.out]
    go_region
    all_goals
      go_wp2_with fail
      refine bodyPost_ret (v := .tuple #[.agg #[.string ByteArray.empty, .string ByteArray.empty, .int .i64 0], Is.er a0 a1 a2 a3 a4 3]) (by simp [results, Tryz.results56, go_sem, Is.er, q0, q1, q2] <;> rfl) rfl ⟨.inr ⟨by first | trivial | rfl, rfl⟩, ?_⟩
      repeat (first | exact b2 | refine Below.drew ?_ | refine Below.setCell ?_ (by simp) _)
  | some f =>
    go_enter Tryz.func56, Tryz.ntmps56
    go_wp2_with (at_lookup; refine Fk.wpList_look_hit _ rfl _ _ 52 rfl 9 75 (string_keyed Tryz.underlying9) Tryz.underlying52 (zeroFile _) b n D M name f rfl (hm.alloc _) hM hg _ rfl hkey ?_)
    refine bodyPost_ret (v := .tuple #[.agg #[.string f.1, .string f.2.1, .int .i64 f.2.2], .nilIface]) (by simp [results, Tryz.results56, go_sem] <;> rfl) rfl ⟨.inl ⟨f, rfl, rfl⟩, ?_⟩
    repeat (first | exact Below.refl _ _ | refine Below.setCell ?_ (by simp <;> omega) _ | refine Below.alloc ?_ (by simp <;> omega) _)
end Go.Proofs.YtojdfdlbdpdlkaaGreatDoor
