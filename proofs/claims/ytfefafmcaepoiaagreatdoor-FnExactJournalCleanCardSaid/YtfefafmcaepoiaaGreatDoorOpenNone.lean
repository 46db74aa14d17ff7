/- The walk of the program's openFiles where no name is handed in. -/
import Derived.Test.YtfefafmcaepoiaaGreatDoorFsOpen
namespace Go.Proofs.YtfefafmcaepoiaaGreatDoor
open Go.RowKit Go.Maps
open Go.WideMaps (keyOf_string_mk)
set_option linter.unusedVariables false

set_option maxHeartbeats 4000000 in
theorem open_none (v : Value) (L : List Fk.Fl) (a0 a1 a2 a3 a4 : Addr) (w : World) (hv : Fk.View w v L) (hL : Fk.Fits L) (hl : L.length ≤ maxLen) (hE : Is.Errs w a0 a1 a2 a3 a4) :
    Calls Tryz.prog 25 #[.agg #[v], .slice none 0 0] w fun e w' =>
      ((Fk.opn L [] = 0 ∧ ∃ b D, e = .returned (.tuple #[.map (some b), .nilIface]) ∧ w'.ownsMap Tryz.prog 9 Fk.rdFile b L.length D ∧ Fk.Mp D L ∧ w.heap.size ≤ b) ∨ (Fk.opn L [] ≠ 0 ∧ e = .returned (.tuple #[.map none, Is.er a0 a1 a2 a3 a4 (Fk.opn L [])]))) ∧ Below w.heap.size w w' := by
  have HLM := Fk.hide hl
  unfold maxLen at hl
  have b0 : Below w.heap.size w (w.alloc (.cells #[v] 28)) := (Below.refl _ _).alloc (Nat.le_refl _) _
  have hv' := hv.below b0
  have hcell : (w.alloc (.cells #[v] 28)).cell? ⟨w.heap.size, 0, none⟩ = some v := by rw [Fk.cellTop _ _ _ _ _ rfl]; rfl
  have hsz : w.heap.size < (w.alloc (.cells #[v] 28)).heap.size := by simp
  obtain ⟨W, hW⟩ : ∃ W, W = w.alloc (.cells #[v] 28) := ⟨_, rfl⟩
  have hE' := hE.below b0
  rw [← hW] at b0 hv' hcell hsz hE'
  have HW := Fk.hide hW
  clear hW hv hE
  obtain ⟨a, cap, rfl, hs⟩ := hv'
  have hvW : Fk.View W (.slice a L.length cap) L := ⟨a, cap, rfl, hs⟩
  have g0 := hE'.c0
  have g1 := hE'.c1
  unfold Is.ev at g0 g1
  go_enter Tryz.func25, Tryz.ntmps25
  go_wp2_with fail
  rw [← HW.out]
  go_loop [15] (fun i => i = .int .i64 0) (fun _ => 0)
  case atStart => rfl
  case round =>
    subst hrel
    go_wp2_with fail
    refine (fsRight_impl _ L _ hvW hL HLM.out).mono ?_
    rintro e w1 ⟨rfl, b1⟩
    have B1 := Fk.hide (b0.trans (b1.mono b0.size))
    have E1 := Fk.hide (hE'.below b1)
    have f0 := E1.out.c0
    have f1 := E1.out.c1
    unfold Is.ev at f0 f1
    have hcell1 : w1.cell? ⟨w.heap.size, 0, none⟩ = some (.slice a L.length cap) := (b1.cell (by exact hsz)).trans hcell
    have V1 := Fk.hide (hvW.below b1)
    have hsz1 : w.heap.size < w1.heap.size := Nat.lt_of_lt_of_le hsz b1.size
    clear b1 g0 g1 hcell hvW hE' hs
    cases hr : Fk.right L with
    | false =>
      have HF := Fk.hide (Fk.opn_ill L [] (fun _ h => absurd h (Nat.not_lt_zero _)) hr)
      go_wp2_with fail
      go_region
      all_goals
        go_wp2_with fail
        go_ret2
        refine ⟨.inr ⟨by rw [HF.out]; decide, ?_⟩, B1.out.trans ((Below.drew (Below.refl _ w1)).mono B1.out.size)⟩
        rw [HF.out]
        rfl
    | true =>
      go_wp2_with fail
      go_loop [30] (fun i => i = .int .i64 0) (fun _ => 0)
      case atStart => rfl
      case round =>
        subst hrel
        have HF := Fk.hide (Fk.opn_ok L [] (fun _ h => absurd h (Nat.not_lt_zero _)) hr (fun _ h => absurd h (Nat.not_lt_zero _)))
        have hmm := @run_makeMap Tryz.prog
        go_wp2_with fail
        have bm : Below w1.heap.size w1 (w1.alloc (.map #[] 0)) := (Below.refl _ _).alloc (Nat.le_refl _) _
        have hm0 := World.ownsMap_made w1 Tryz.prog 9 Fk.rdFile
        have hav := Fk.right_rises L hr
        go_loopw [43] (fun i wr => ∃ (k : Nat) (D : DataW Unit), k ≤ L.length ∧ i = .int .i64 k ∧ wr.ownsMap Tryz.prog 9 Fk.rdFile w1.heap.size k D ∧ Hid (Fk.Mp D (L.take k)) ∧ Below w1.heap.size w1 wr) (fun i _ => L.length - (intOf i).toNat)
        case atStart => exact ⟨0, _, Nat.zero_le _, rfl, hm0, Fk.mp_empty, bm⟩
        case round =>
          obtain ⟨k, D, hk, rfl, hown, HM, bel⟩ := hrel
          clear bm hm0
          by_cases hlt : k < L.length
          · obtain ⟨a', cap', ev, hs1⟩ := V1.out
            simp only [Value.slice.injEq] at ev
            obtain ⟨rfl, _, rfl⟩ := ev
            obtain ⟨b, o, rfl, hb1, hs2⟩ := hs1 (by omega)
            have hs3 := hs2.below hb1 bel
            have q0 := hs3.c0 k hlt
            have q1 := hs3.c1 k hlt
            have q2 := hs3.c2 k hlt
            obtain ⟨z0, z1, z2⟩ := Fk.fits_get hL k
            have hkey := keyOf_string_mk Tryz.underlying9 z0
            clear hs3 hs1 z0 z1 z2
            go_wp2_with (at_mapUpdate; refine wpList_mapUpdate_own _ rfl _ _ _ 51 rfl 9 73 (string_keyed Tryz.underlying9) Tryz.underlying51 Fk.rdFile w1.heap.size k D rfl (hown.alloc _) (by unfold maxLen; omega) _ _ _ rfl rfl hkey _ [] (Fk.rdFile_mk (Fk.nm L k, Fk.dt L k, Fk.sy L k)) ?_; intro w4 hown4 hgrow4)
            have b4 : Below w1.heap.size w1 w4 := (bel.alloc bel.size _).grown hgrow4 (by simp; have := bel.size; omega) (fun j hj => by cases hj; exact Nat.le_refl _)
            have HM4 : Hid (Fk.Mp (D.put (Fk.kl (Fk.nm L k)) (Fk.fd (Fk.nm L k, Fk.dt L k, Fk.sy L k))) (L.take (k + 1))) := by
              have et : L.take (k + 1) = L.take k ++ [(Fk.nm L k, Fk.dt L k, Fk.sy L k)] := by
                have e1 : (Fk.nm L k, Fk.dt L k, Fk.sy L k) = L[k] := by simp [Fk.nm, Fk.dt, Fk.sy, List.getD, List.getElem?_eq_getElem hlt]
                rw [e1, List.take_add_one, List.getElem?_eq_getElem hlt]
                rfl
              show Fk.Mp _ _
              rw [et]
              refine HM.out.add (Fk.nm L k, Fk.dt L k, Fk.sy L k) fun g hg => ?_
              have hp := hav.apart
              have et' : L = L.take k ++ (Fk.nm L k, Fk.dt L k, Fk.sy L k) :: L.drop (k + 1) := by
                have := (List.take_append_drop (k + 1) L).symm
                rw [et, List.append_assoc] at this
                exact this
              rw [et'] at hp
              exact (List.pairwise_append.1 hp).2.2 g hg _ (List.mem_cons_self ..)
            clear hgrow4 hown hkey q0 q1 q2
            go_wp2_with fail
            go_roundw
            case rel => exact ⟨k + 1, _, by omega, by go_num, hown4, HM4, b4⟩
            case measure => simp [intOf]; omega
          · have e : k = L.length := by omega
            subst e
            have HM' := Fk.hide (show Fk.Mp D L by have := HM.out; rwa [List.take_length] at this)
            have HO := Fk.hide hown
            have HB := Fk.hide (B1.out.trans (bel.mono B1.out.size))
            clear hown bel HM
            go_wp2_with fail
            go_ret2
            exact ⟨.inl ⟨HF.out, _, D, rfl, HO.out, HM'.out, Nat.le_of_lt hsz1⟩, HB.out⟩
end Go.Proofs.YtfefafmcaepoiaaGreatDoor
