/- The walks of what the program does to a map of files: sync, remove. -/
import Derived.Test.YtfefafmcaepoiaaGreatDoorFsOps
namespace Go.Proofs.YtfefafmcaepoiaaGreatDoor
open Go.RowKit Go.Maps
open Go.WideMaps (keyOf_string_mk)
set_option linter.unusedVariables false

set_option maxHeartbeats 2000000 in
theorem sync_any (b n : Nat) (D : DataW Unit) (M : List Fk.Fl) (name : ByteArray) (a0 a1 a2 a3 a4 : Addr) (w : World) (hm : w.ownsMap Tryz.prog 9 Fk.rdFile b n D) (hM : Fk.Mp D M) (hnn : n ≤ 1000) (hn : name.size ≤ maxLen) (hE : Is.Errs w a0 a1 a2 a3 a4) :
    Calls Tryz.prog 27 #[.map (some b), .string name] w fun e w' =>
      ((Fk.get M name = none ∧ e = .returned (Is.er a0 a1 a2 a3 a4 3)) ∨ (∃ f D', Fk.get M name = some f ∧ e = .returned .nilIface ∧ w'.ownsMap Tryz.prog 9 Fk.rdFile b (n + 1) D' ∧ Fk.Mp D' (Fk.without M name ++ [(f.1, f.2.1, (f.2.1.size : Int))]))) ∧ w.grownBy w' (some b) := by
  have hkey := keyOf_string_mk Tryz.underlying9 hn
  go_enter Tryz.func27, Tryz.ntmps27
  go_wp2_with fail
  refine (find_any b n D M name a0 a1 a2 a3 a4 _ hm hM hn hE).mono ?_
  rintro e w1 ⟨h1, b1⟩
  have G1 := Fk.hide (Fk.grownBy_below (some b) b1)
  have m1 := Fk.map_below hm b1
  clear b1 hm
  rcases h1 with ⟨⟨fa, fb, fc⟩, hg, rfl⟩ | ⟨hg, rfl⟩
  · have hfa : fa = name := (Fk.get_some hg).2
    subst hfa
    have HG := Fk.hide hg
    clear hg
    go_wp2_with (at_mapUpdate; refine wpList_mapUpdate_own _ rfl _ _ _ 51 rfl 9 73 (string_keyed Tryz.underlying9) Tryz.underlying51 Fk.rdFile b n D rfl (m1.alloc _) (by unfold maxLen; omega) _ _ _ rfl rfl hkey _ [] (Fk.rdFile_mk (fa, fb, (fb.size : Int))) ?_; intro w2 m2 g2)
    have G2 := Fk.hide (Fk.grownBy_trans (Fk.grownBy_trans G1.out (World.grownBy_alloc _ _ _)) g2)
    have M2 := Fk.hide (hM.set (fa, fb, (fb.size : Int)))
    clear g2
    go_ret
    exact ⟨.inr ⟨_, _, HG.out, rfl, m2, M2.out⟩, G2.out⟩
  · unfold Is.er
    have HG := Fk.hide hg
    clear hg
    go_wp2_with fail
    go_ret
    exact ⟨.inl ⟨HG.out, rfl⟩, Fk.grownBy_trans G1.out (World.grownBy_alloc _ _ _)⟩
end Go.Proofs.YtfefafmcaepoiaaGreatDoor
