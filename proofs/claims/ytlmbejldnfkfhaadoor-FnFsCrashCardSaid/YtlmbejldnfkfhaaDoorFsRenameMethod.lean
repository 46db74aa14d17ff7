/- The walk of what the program does to a map of files: rename. -/
import Derived.Test.YtlmbejldnfkfhaaDoorFsCutMethod
namespace Go.Proofs.YtlmbejldnfkfhaaDoor
open Go.RowKit Go.Maps
open Go.WideMaps (keyOf_string_mk)
set_option linter.unusedVariables false
set_option linter.unusedSimpArgs false
namespace Fk
theorem box_kept {w1 w2 : World} {b : Nat} {t : TypeId} {fa fb : ByteArray} {fc : Int} (g : (w1.alloc (.cells #[.string fa, .string fb, .int .i64 fc] t)).grownBy w2 (some b)) (hb : b < w1.heap.size) :
    w2.cell? ⟨w1.heap.size, 0, none⟩ = some (.string fa) ∧ w2.cell? ⟨w1.heap.size, 1, none⟩ = some (.string fb) ∧ w2.cell? ⟨w1.heap.size, 2, none⟩ = some (.int .i64 fc) ∧ ∀ j, w2.frozen? ⟨w1.heap.size, j, none⟩ = false := by
  have hne : some w1.heap.size ≠ some b := fun e => by have := Option.some.inj e; omega
  have hB := g.block w1.heap.size (by simp) hne
  refine ⟨?_, ?_, ?_, fun j => ?_⟩
  · rw [World.cell?_of_block hB, cellTop _ _ _ _ _ rfl]; rfl
  · rw [World.cell?_of_block hB, cellTop _ _ _ _ _ rfl]; rfl
  · rw [World.cell?_of_block hB, cellTop _ _ _ _ _ rfl]; rfl
  · rw [World.frozen?_of_block hB, frozTop _ _ _ _ _ rfl]
theorem grownBy_setNew {w w2 : World} {r : Option Nat} (h : w.grownBy w2 r) (g j : Nat) (hg : w.heap.size ≤ g) (u : Value) : w.grownBy (w2.setCell ⟨g, j, none⟩ u) r :=
  ⟨h.os, h.tape, h.output, by simpa [World.setCell] using h.size, fun k hk hr => (Deep.blk_setCell_other w2 ⟨g, j, none⟩ u k (fun e => by simp only at e; omega)).trans (h.block k hk hr)⟩
def resRename (L : List Fl) (name to : ByteArray) : Int ⊕ List Fl :=
  match get L name with
  | none => .inl 6
  | some f => .inr (without (without L name) to ++ [(to, f.2.1, f.2.2)])
theorem opn_two (L : List Fl) (a b : ByteArray) (h : opn L [a, b] = 0) : a.size ≤ 8000 ∧ b.size ≤ 8000 := by
  unfold opn at h
  split at h
  · cases h
  · rename_i hl
    simp at hl
    omega
theorem rename_fit {L : List Fl} (h : right L = true) {name to : ByteArray} {M : List Fl} (hM : resRename L name to = .inr M) (ho : opn L [name, to] = 0) : M.length ≤ 1000 ∧ ∀ f ∈ M, f.1.size ≤ 1073741824 ∧ f.2.1.size ≤ 1073741824 := by
  have h12 := (right_inv L h).1
  have hfit := right_fit h
  have h2 := opn_two L name to ho
  have hw : (without L name).length ≤ L.length := List.length_filter_le _ _
  have hw2 : (without (without L name) to).length ≤ (without L name).length := List.length_filter_le _ _
  unfold resRename at hM
  split at hM
  · cases hM
  · rename_i f hg
    obtain rfl := Sum.inr.inj hM
    refine ⟨by simp; omega, fun x hx => ?_⟩
    rcases List.mem_append.1 hx with hx | hx
    · have := hfit x (without_sub x (without_sub x hx)); omega
    · have e : x = (to, f.2.1, f.2.2) := by simpa using hx
      subst e
      have hf := hfit f (get_some hg).1
      exact ⟨by show to.size ≤ _; omega, by show f.2.1.size ≤ _; omega⟩
theorem rename_short (L : List Fl) (name to : ByteArray) : opn L [name, to] = 0 → ∀ M, resRename L name to = .inr M → M.length ≤ 1000 := fun h0 _ hM => (rename_fit (opn_right L _ h0) hM h0).1
end Fk

set_option maxHeartbeats 2000000 in
theorem rename_done (b n : Nat) (D : DataW Unit) (M : List Fk.Fl) (name to : ByteArray) (a0 a1 a2 a3 a4 : Addr) (w : World) (hm : w.ownsMap Tryd.prog 9 Fk.rdFile b n D) (hM : Fk.Mp D M) (hR : Fk.right M = true) (hnn : n ≤ 1000) (hn : name.size ≤ maxLen) (ht : to.size ≤ maxLen) (hE : Is.Errs w a0 a1 a2 a3 a4) :
    Calls Tryd.prog 121 #[.map (some b), .string name, .string to] w fun e w' => Fk.Done b n a0 a1 a2 a3 a4 (Fk.resRename M name to) e w' ∧ w.grownBy w' (some b) := by
  have hkey := keyOf_string_mk Tryd.underlying9 hn
  have hkey2 := keyOf_string_mk Tryd.underlying9 ht
  go_enter Tryd.func121, Tryd.ntmps121
  go_wp2_with fail
  refine (find_any b n D M name a0 a1 a2 a3 a4 _ hm hM hn hE).mono ?_
  rintro e w1 ⟨h1, b1⟩
  have G1 := Fk.hide (Fk.grownBy_below (some b) b1)
  have m1 := Fk.map_below hm b1
  have hb : b < w1.heap.size := m1.lt
  clear b1 hm
  rcases h1 with ⟨⟨fa, fb, fc⟩, hg, rfl⟩ | ⟨hg, rfl⟩
  · have HG : Hid (Fk.resRename M name to = .inr (Fk.without (Fk.without M name) to ++ [(to, fb, fc)])) := by show _ = _; simp only [Fk.resRename, hg]
    clear hg
    have M2 := Fk.hide ((hM.drop name).set (to, fb, fc))
    go_wp2_with (first
      | (at_delete; refine wpList_delete_own _ rfl _ _ 93 9 rfl 48 (string_keyed Tryd.underlying9) Tryd.underlying93 Fk.rdFile b n D rfl (m1.alloc _) _ _ rfl hkey ?_; intro w2 m2 t2; have G2 := Fk.hide (Fk.grownBy_trans (Fk.grownBy_trans G1.out (World.grownBy_alloc _ _ _)) t2.grown); obtain ⟨p0, p1, p2, p3⟩ := Fk.box_kept t2.grown hb; clear t2)
      | (at_mapUpdate; refine wpList_mapUpdate_own _ rfl _ _ _ 93 rfl 9 48 (string_keyed Tryd.underlying9) Tryd.underlying93 Fk.rdFile b n _ rfl (m2.setCell (a := ⟨w1.heap.size, 0, none⟩) (by show b ≠ w1.heap.size; omega) _) (by unfold maxLen; omega) _ _ _ rfl rfl hkey2 _ [] (Fk.rdFile_mk (to, fb, fc)) ?_; intro w3 m3 g3))
    have G3 := Fk.hide (Fk.grownBy_trans (Fk.grownBy_setNew G2.out w1.heap.size 0 G1.out.size (.string to)) g3)
    clear g3
    go_ret
    exact ⟨.inr ⟨_, _, HG.out, rfl, m3.mono (by omega), M2.out⟩, G3.out⟩
  · unfold Is.er
    have HG : Hid (Fk.resRename M name to = .inl 6) := by show _ = _; simp only [Fk.resRename, hg]
    clear hg
    go_wp2_with fail
    go_ret
    exact ⟨.inl ⟨3, by decide, by decide, HG.out, rfl⟩, Fk.grownBy_trans G1.out (World.grownBy_alloc _ _ _)⟩
end Go.Proofs.YtlmbejldnfkfhaaDoor
