/- The walks of what the program does to a map of files: sync, remove. -/
import Derived.Test.YtfefafmcaepoiaaDoorFsOps
namespace Go.Proofs.YtfefafmcaepoiaaDoor
open Go.RowKit Go.Maps
open Go.WideMaps (keyOf_string_mk)
set_option linter.unusedVariables false

set_option maxHeartbeats 2000000 in
theorem remove_any (b n : Nat) (D : DataW Unit) (M : List Fk.Fl) (name : ByteArray) (a0 a1 a2 a3 a4 : Addr) (w : World) (hm : w.ownsMap Tryd.prog 9 Fk.rdFile b n D) (hM : Fk.Mp D M) (hnn : n ≤ 1000) (hn : name.size ≤ maxLen) (hE : Is.Errs w a0 a1 a2 a3 a4) :
    Calls Tryd.prog 55 #[.map (some b), .string name] w fun e w' =>
      ((Fk.get M name = none ∧ e = .returned (Is.er a0 a1 a2 a3 a4 3)) ∨ (∃ f D', Fk.get M name = some f ∧ e = .returned .nilIface ∧ w'.ownsMap Tryd.prog 9 Fk.rdFile b (n + 1) D' ∧ Fk.Mp D' (Fk.without M name))) ∧ w.grownBy w' (some b) := by
  have hkey := keyOf_string_mk Tryd.underlying9 hn
  go_enter Tryd.func55, Tryd.ntmps55
  go_wp2_with fail
  refine (find_any b n D M name a0 a1 a2 a3 a4 _ hm hM hn hE).mono ?_
  rintro e w1 ⟨h1, b1⟩
  have G1 := Fk.hide (Fk.grownBy_below (some b) b1)
  have m1 := Fk.map_below hm b1
  clear b1 hm
  rcases h1 with ⟨⟨fa, fb, fc⟩, hg, rfl⟩ | ⟨hg, rfl⟩
  · have HG := Fk.hide hg
    clear hg
    go_wp2_with (at_delete; refine wpList_delete_own _ rfl _ _ 53 9 rfl 60 (string_keyed Tryd.underlying9) Tryd.underlying53 Fk.rdFile b n D rfl (m1.alloc _) _ _ rfl hkey ?_; intro w2 m2 t2)
    have G2 := Fk.hide (Fk.grownBy_trans (Fk.grownBy_trans G1.out (World.grownBy_alloc _ _ _)) t2.grown)
    have M2 := Fk.hide (hM.drop name)
    clear t2
    go_ret
    exact ⟨.inr ⟨_, _, HG.out, rfl, m2.mono (by omega), M2.out⟩, G2.out⟩
  · unfold Is.er
    have HG := Fk.hide hg
    clear hg
    go_wp2_with fail
    go_ret
    exact ⟨.inl ⟨HG.out, rfl⟩, Fk.grownBy_trans G1.out (World.grownBy_alloc _ _ _)⟩
end Go.Proofs.YtfefafmcaepoiaaDoor
