/- The walk of what the program does to a map of files: cut. -/
import Derived.Test.YtfefafmcaepoiaaGreatDoorFsSyncWalks
namespace Go.Proofs.YtfefafmcaepoiaaGreatDoor
open Go.RowKit Go.Maps
open Go.WideMaps (keyOf_string_mk)
set_option linter.unusedVariables false
set_option linter.unusedSimpArgs false
namespace Fk
def cutTo (f : Fl) (sz : Int) : Fl := (f.1, f.2.1.extract 0 sz.toNat, min f.2.2 sz)
def resCut (L : List Fl) (name : ByteArray) (sz : Int) : Int ⊕ List Fl :=
  match get L name with
  | none => .inl 6
  | some f => if 0 ≤ sz ∧ sz ≤ f.2.1.size then .inr (without L name ++ [cutTo f sz]) else .inl 8
/-- how a change of a map of files ends -/
def Done (b n : Nat) (a0 a1 a2 a3 a4 : Addr) (res : Int ⊕ List Fl) (e : Ending) (w' : World) : Prop :=
  (∃ k, 1 ≤ k ∧ k ≤ 5 ∧ res = .inl (Is.cd k) ∧ e = .returned (Is.er a0 a1 a2 a3 a4 k)) ∨ (∃ D' M, res = .inr M ∧ e = .returned .nilIface ∧ w'.ownsMap Tryz.prog 9 rdFile b (n + 2) D' ∧ Mp D' M)
theorem cut_fit {L : List Fl} (h : right L = true) {name : ByteArray} {sz : Int} {M : List Fl} (hM : resCut L name sz = .inr M) : M.length ≤ 1000 ∧ ∀ f ∈ M, f.1.size ≤ 1073741824 ∧ f.2.1.size ≤ 1073741824 := by
  have h12 := (right_inv L h).1
  have hfit := right_fit h
  have hw : (without L name).length ≤ L.length := List.length_filter_le _ _
  unfold resCut at hM
  split at hM
  · cases hM
  · rename_i f hg
    split at hM
    · obtain rfl := Sum.inr.inj hM
      refine ⟨by simp; omega, fun x hx => ?_⟩
      rcases List.mem_append.1 hx with hx | hx
      · have := hfit x (without_sub x hx); omega
      · have e : x = cutTo f sz := by simpa using hx
        subst e
        have hf := hfit f (get_some hg).1
        refine ⟨by show f.1.size ≤ _; omega, ?_⟩
        show (f.2.1.extract 0 sz.toNat).size ≤ _
        simp [ByteArray.size_extract]
        omega
    · cases hM
theorem cut_short (L : List Fl) (name : ByteArray) (sz : Int) : opn L [name] = 0 → ∀ M, resCut L name sz = .inr M → M.length ≤ 1000 := fun h0 _ hM => (cut_fit (opn_right L _ h0) hM).1
end Fk

set_option maxRecDepth 20000 in
set_option maxHeartbeats 2000000 in
theorem cut_done (b n : Nat) (D : DataW Unit) (M : List Fk.Fl) (name : ByteArray) (sz : Int) (a0 a1 a2 a3 a4 : Addr) (w : World) (hm : w.ownsMap Tryz.prog 9 Fk.rdFile b n D) (hM : Fk.Mp D M) (hR : Fk.right M = true) (hnn : n ≤ 1000) (hn : name.size ≤ maxLen) (hE : Is.Errs w a0 a1 a2 a3 a4) :
    Calls Tryz.prog 63 #[.map (some b), .string name, .int .i64 sz] w fun e w' => Fk.Done b n a0 a1 a2 a3 a4 (Fk.resCut M name sz) e w' ∧ w.grownBy w' (some b) := by
  have hkey := keyOf_string_mk Tryz.underlying9 hn
  go_enter Tryz.func63, Tryz.ntmps63
  go_wp2_with fail
  refine (find_any b n D M name a0 a1 a2 a3 a4 _ hm hM hn hE).mono ?_
  rintro e w1 ⟨h1, b1⟩
  have G1 := Fk.hide (Fk.grownBy_below (some b) b1)
  have E1 := hE.below b1
  have g3 := E1.c3
  unfold Is.ev at g3
  have m1 := Fk.map_below hm b1
  clear b1 hm
  rcases h1 with ⟨⟨fa, fb, fc⟩, hg, rfl⟩ | ⟨hg, rfl⟩
  · have hfa : fa = name := (Fk.get_some hg).2
    subst hfa
    have hx : (w1.alloc (.cells #[.string fa, .string fb, .int .i64 fc] 73)).cell? ⟨3, 0, none⟩ = some (.iface 166 (.pointer (some a3))) := (Fk.cellOld _ _ _ _ (World.block_lt_of_cell? w1 _ g3)).trans g3
    by_cases h0 : sz < 0
    · have HG : Hid (Fk.resCut M fa sz = .inl 8) := by show _ = _; simp only [Fk.resCut, hg]; rw [if_neg (by omega)]
      clear hg
      go_wp2_with fail
      go_ret
      exact ⟨.inl ⟨4, by decide, by decide, HG.out, rfl⟩, Fk.grownBy_trans G1.out (World.grownBy_alloc _ _ _)⟩
    by_cases h2 : (fb.size : Int) < sz
    · have HG : Hid (Fk.resCut M fa sz = .inl 8) := by show _ = _; simp only [Fk.resCut, hg]; rw [if_neg (by omega)]
      clear hg
      go_wp2_with fail
      go_ret
      exact ⟨.inl ⟨4, by decide, by decide, HG.out, rfl⟩, Fk.grownBy_trans G1.out (World.grownBy_alloc _ _ _)⟩
    have h3 : 0 ≤ sz := by omega
    have h4 : sz ≤ (fb.size : Int) := by omega
    have HG : Hid (Fk.resCut M fa sz = .inr (Fk.without M fa ++ [Fk.cutTo (fa, fb, fc) sz])) := by show _ = _; simp only [Fk.resCut, hg]; rw [if_pos (by omega)]
    clear hg
    obtain ⟨t, ht⟩ : ∃ t, t = fb.extract 0 sz.toNat := ⟨_, rfl⟩
    have hsl : ∀ W, (Instr.slice 9 (.string fb) none (some (.int .i64 sz)) none).run Tryz.prog W = .ok (.string t) W := fun W => by
      rw [ht, run_slice_string_h _ _ _ Tryz.underlying9 _ _ h3 h4]
    have HT := Fk.hide ht
    clear ht
    have M2 : Hid (Fk.Mp (D.put (Fk.kl fa) (Fk.fd (fa, t, min fc sz))) (Fk.without M fa ++ [Fk.cutTo (fa, fb, fc) sz])) := by
      have := hM.set (fa, t, min fc sz)
      show Fk.Mp _ _
      unfold Fk.cutTo
      rw [HT.out] at this ⊢
      exact this
    go_wp2_with (at_mapUpdate; refine wpList_mapUpdate_own _ rfl _ _ _ 51 rfl 9 73 (string_keyed Tryz.underlying9) Tryz.underlying51 Fk.rdFile b n D rfl (m1.alloc _) (by unfold maxLen; omega) _ _ _ rfl rfl hkey _ [] (Fk.rdFile_mk (fa, t, min fc sz)) ?_; intro w2 m2 g2)
    have G2 := Fk.hide (Fk.grownBy_trans (Fk.grownBy_trans G1.out (World.grownBy_alloc _ _ _)) g2)
    clear g2
    go_ret
    exact ⟨.inr ⟨_, _, HG.out, rfl, m2.mono (by omega), M2.out⟩, G2.out⟩
  · unfold Is.er
    have HG : Hid (Fk.resCut M name sz = .inl 6) := by show _ = _; simp only [Fk.resCut, hg]
    clear hg
    go_wp2_with fail
    go_ret
    exact ⟨.inl ⟨3, by decide, by decide, HG.out, rfl⟩, Fk.grownBy_trans G1.out (World.grownBy_alloc _ _ _)⟩
end Go.Proofs.YtfefafmcaepoiaaGreatDoor
