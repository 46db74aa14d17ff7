/- The walks of what the program does to a map of files: sync, remove. The walks of FsSync, the program's and the specification's: both answer alike. The walk of what the program does to a map of files: cut. The walk of what the program does to a map of files: rename. -/
import Derived.Test.YtojdfdlbdpdlkaaGreatDoorJoined9
namespace Go.Proofs.YtojdfdlbdpdlkaaGreatDoor
open Go.RowKit Go.Maps
open Go.WideMaps (keyOf_string_mk)
set_option linter.unusedVariables false

set_option maxHeartbeats 2000000 in
theorem sync_any (b n : Nat) (D : DataW Unit) (M : List Fk.Fl) (name : ByteArray) (a0 a1 a2 a3 a4 : Addr) (w : World) (hm : w.ownsMap Tryz.prog 9 Fk.rdFile b n D) (hM : Fk.Mp D M) (hnn : n ≤ 1000) (hn : name.size ≤ maxLen) (hE : Is.Errs w a0 a1 a2 a3 a4) :
    Calls Tryz.prog 28 #[.map (some b), .string name] w fun e w' =>
      ((Fk.get M name = none ∧ e = .returned (Is.er a0 a1 a2 a3 a4 3)) ∨ (∃ f D', Fk.get M name = some f ∧ e = .returned .nilIface ∧ w'.ownsMap Tryz.prog 9 Fk.rdFile b (n + 1) D' ∧ Fk.Mp D' (Fk.without M name ++ [(f.1, f.2.1, (f.2.1.size : Int))]))) ∧ w.grownBy w' (some b) := by
  have hkey := keyOf_string_mk Tryz.underlying9 hn
  go_enter Tryz.func28, Tryz.ntmps28
  go_wp2_with fail
  refine (find_any b n D M name a0 a1 a2 a3 a4 _ hm hM hn hE).mono ?_
  rintro e w1 ⟨h1, b1⟩
  have G1 := Fk.hide (Fk.grownBy_below (some b) b1)
  have m1 := Fk.map_below hm b1
  clear b1 hm
  rcases h1 with ⟨⟨fa, fb, fc⟩, hg, rfl⟩ | ⟨hg, rfl⟩
  · have hfa : fa = name := (Fk.get_some hg).2
    subst hfa
    have HG := Fk.hide hg
    clear hg
    go_wp2_with (at_mapUpdate; refine wpList_mapUpdate_own _ rfl _ _ _ 52 rfl 9 75 (string_keyed Tryz.underlying9) Tryz.underlying52 Fk.rdFile b n D rfl (m1.alloc _) (by unfold maxLen; omega) _ _ _ rfl rfl hkey _ [] (Fk.rdFile_mk (fa, fb, (fb.size : Int))) ?_; intro w2 m2 g2)
    have G2 := Fk.hide (Fk.grownBy_trans (Fk.grownBy_trans G1.out (World.grownBy_alloc _ _ _)) g2)
    have M2 := Fk.hide (hM.set (fa, fb, (fb.size : Int)))
    clear g2
    go_ret
    exact ⟨.inr ⟨_, _, HG.out, rfl, m2, M2.out⟩, G2.out⟩
  · unfold Is.er
    have HG := Fk.hide hg
    clear hg
    go_wp2_with fail
    go_ret
    exact ⟨.inl ⟨HG.out, rfl⟩, Fk.grownBy_trans G1.out (World.grownBy_alloc _ _ _)⟩
set_option maxHeartbeats 2000000 in
theorem remove_any (b n : Nat) (D : DataW Unit) (M : List Fk.Fl) (name : ByteArray) (a0 a1 a2 a3 a4 : Addr) (w : World) (hm : w.ownsMap Tryz.prog 9 Fk.rdFile b n D) (hM : Fk.Mp D M) (hnn : n ≤ 1000) (hn : name.size ≤ maxLen) (hE : Is.Errs w a0 a1 a2 a3 a4) :
    Calls Tryz.prog 68 #[.map (some b), .string name] w fun e w' =>
      ((Fk.get M name = none ∧ e = .returned (Is.er a0 a1 a2 a3 a4 3)) ∨ (∃ f D', Fk.get M name = some f ∧ e = .returned .nilIface ∧ w'.ownsMap Tryz.prog 9 Fk.rdFile b (n + 1) D' ∧ Fk.Mp D' (Fk.without M name))) ∧ w.grownBy w' (some b) := by
  have hkey := keyOf_string_mk Tryz.underlying9 hn
  go_enter Tryz.func68, Tryz.ntmps68
  go_wp2_with fail
  refine (find_any b n D M name a0 a1 a2 a3 a4 _ hm hM hn hE).mono ?_
  rintro e w1 ⟨h1, b1⟩
  have G1 := Fk.hide (Fk.grownBy_below (some b) b1)
  have m1 := Fk.map_below hm b1
  clear b1 hm
  rcases h1 with ⟨⟨fa, fb, fc⟩, hg, rfl⟩ | ⟨hg, rfl⟩
  · have HG := Fk.hide hg
    clear hg
    go_wp2_with (at_delete; refine wpList_delete_own _ rfl _ _ 52 9 rfl 75 (string_keyed Tryz.underlying9) Tryz.underlying52 Fk.rdFile b n D rfl (m1.alloc _) _ _ rfl hkey ?_; intro w2 m2 t2)
    have G2 := Fk.hide (Fk.grownBy_trans (Fk.grownBy_trans G1.out (World.grownBy_alloc _ _ _)) t2.grown)
    have M2 := Fk.hide (hM.drop name)
    clear t2
    go_ret
    exact ⟨.inr ⟨_, _, HG.out, rfl, m2.mono (by omega), M2.out⟩, G2.out⟩
  · unfold Is.er
    have HG := Fk.hide hg
    clear hg
    go_wp2_with fail
    go_ret
    exact ⟨.inl ⟨HG.out, rfl⟩, Fk.grownBy_trans G1.out (World.grownBy_alloc _ _ _)⟩
end Go.Proofs.YtojdfdlbdpdlkaaGreatDoor

namespace Go.Proofs.YtojdfdlbdpdlkaaGreatDoor
open Go.RowKit Go.Maps
set_option linter.unusedVariables false


namespace Fk
/-- one file of a rising list laid anew: it rises, and has just that one in the place of the old one -/
theorem set_rises {L : List Fl} (h : Rises L) {k : Nat} (hk : k < L.length) (n b : ByteArray) (c : Int) (hnk : nm L k = n) : Rises (L.set k (n, b, c)) ∧ ∀ g, g ∈ L.set k (n, b, c) ↔ g ∈ without L n ++ [(n, b, c)] := by
  have hk1 : L[k].1 = n := by rw [← hnk]; simp [nm, List.getD, List.getElem?_eq_getElem hk]
  have hlt := List.pairwise_iff_getElem.1 h
  constructor
  · refine List.pairwise_iff_getElem.2 fun i j hi hj hij => ?_
    simp only [List.length_set] at hi hj
    have hb := hlt i j hi hj hij
    rw [List.getElem_set, List.getElem_set]
    split
    · rename_i e1
      subst e1
      rw [if_neg (by omega)]
      rw [hk1] at hb
      exact hb
    · split
      · rename_i _ e2
        subst e2
        rw [hk1] at hb
        exact hb
      · exact hb
  · intro g
    rw [List.mem_append, List.mem_singleton]
    constructor
    · intro hg
      obtain ⟨i, hi, e⟩ := List.getElem_of_mem hg
      simp only [List.length_set] at hi
      rw [List.getElem_set] at e
      split at e
      · exact .inr e.symm
      · rename_i hki
        left
        subst e
        refine List.mem_filter.2 ⟨List.getElem_mem hi, ?_⟩
        simp only [Bool.not_eq_true', decide_eq_false_iff_not]
        intro e'
        rcases Nat.lt_or_gt_of_ne hki with hc | hc
        · exact less_ne (hlt k i hk hi hc) (hk1.trans e'.symm)
        · exact less_ne (hlt i k hi hk hc) (e'.trans hk1.symm)
    · intro hg
      rcases hg with hg | hg
      · obtain ⟨hm, hne⟩ := List.mem_filter.1 hg
        obtain ⟨i, hi, e⟩ := List.getElem_of_mem hm
        have hki : k ≠ i := by
          intro e'
          subst e'
          rw [← e, hk1] at hne
          simp at hne
        refine List.mem_iff_getElem.2 ⟨i, by simpa using hi, ?_⟩
        rw [List.getElem_set, if_neg hki]
        exact e
      · exact List.mem_iff_getElem.2 ⟨k, by simpa using hk, by rw [List.getElem_set, if_pos rfl]; exact hg.symm⟩
end Fk

set_option maxHeartbeats 1000000 in
theorem l02Ill_any (c : Int) (w : World) : Calls Tryz.prog 34 #[.int .i64 c] w fun e w' => e = .returned (.agg #[.slice none 0 0, .int .i64 c]) ∧ Below w.heap.size w w' := by
  go_enter Tryz.func34, Tryz.ntmps34
  go_wp2
  refine bodyPost_ret (v := .agg #[.slice none 0 0, .int .i64 c]) (by simp [results, Tryz.results34, go_sem] <;> rfl) rfl ⟨rfl, ?_⟩
  repeat (first | exact Below.refl _ _ | refine Below.setCell ?_ (by simp <;> omega) _ | refine Below.alloc ?_ (by simp <;> omega) _)
end Go.Proofs.YtojdfdlbdpdlkaaGreatDoor

namespace Go.Proofs.YtojdfdlbdpdlkaaGreatDoor
open Go.RowKit Go.Maps
open Go.WideMaps (keyOf_string_mk)
set_option linter.unusedVariables false
set_option linter.unusedSimpArgs false
namespace Fk
def cutTo (f : Fl) (sz : Int) : Fl := (f.1, f.2.1.extract 0 sz.toNat, min f.2.2 sz)
def resCut (L : List Fl) (name : ByteArray) (sz : Int) : Int ⊕ List Fl :=
  match get L name with
  | none => .inl 6
  | some f => if 0 ≤ sz ∧ sz ≤ f.2.1.size then .inr (without L name ++ [cutTo f sz]) else .inl 8
/-- how a change of a map of files ends -/
def Done (b n : Nat) (a0 a1 a2 a3 a4 : Addr) (res : Int ⊕ List Fl) (e : Ending) (w' : World) : Prop :=
  (∃ k, 1 ≤ k ∧ k ≤ 5 ∧ res = .inl (Is.cd k) ∧ e = .returned (Is.er a0 a1 a2 a3 a4 k)) ∨ (∃ D' M, res = .inr M ∧ e = .returned .nilIface ∧ w'.ownsMap Tryz.prog 9 rdFile b (n + 2) D' ∧ Mp D' M)
theorem cut_fit {L : List Fl} (h : right L = true) {name : ByteArray} {sz : Int} {M : List Fl} (hM : resCut L name sz = .inr M) : M.length ≤ 1000 ∧ ∀ f ∈ M, f.1.size ≤ 1073741824 ∧ f.2.1.size ≤ 1073741824 := by
  have h12 := (right_inv L h).1
  have hfit := right_fit h
  have hw : (without L name).length ≤ L.length := List.length_filter_le _ _
  unfold resCut at hM
  split at hM
  · cases hM
  · rename_i f hg
    split at hM
    · obtain rfl := Sum.inr.inj hM
      refine ⟨by simp; omega, fun x hx => ?_⟩
      rcases List.mem_append.1 hx with hx | hx
      · have := hfit x (without_sub x hx); omega
      · have e : x = cutTo f sz := by simpa using hx
        subst e
        have hf := hfit f (get_some hg).1
        refine ⟨by show f.1.size ≤ _; omega, ?_⟩
        show (f.2.1.extract 0 sz.toNat).size ≤ _
        simp [ByteArray.size_extract]
        omega
    · cases hM
theorem cut_short (L : List Fl) (name : ByteArray) (sz : Int) : opn L [name] = 0 → ∀ M, resCut L name sz = .inr M → M.length ≤ 1000 := fun h0 _ hM => (cut_fit (opn_right L _ h0) hM).1
end Fk

set_option maxRecDepth 20000 in
set_option maxHeartbeats 2000000 in
theorem cut_done (b n : Nat) (D : DataW Unit) (M : List Fk.Fl) (name : ByteArray) (sz : Int) (a0 a1 a2 a3 a4 : Addr) (w : World) (hm : w.ownsMap Tryz.prog 9 Fk.rdFile b n D) (hM : Fk.Mp D M) (hR : Fk.right M = true) (hnn : n ≤ 1000) (hn : name.size ≤ maxLen) (hE : Is.Errs w a0 a1 a2 a3 a4) :
    Calls Tryz.prog 58 #[.map (some b), .string name, .int .i64 sz] w fun e w' => Fk.Done b n a0 a1 a2 a3 a4 (Fk.resCut M name sz) e w' ∧ w.grownBy w' (some b) := by
  have hkey := keyOf_string_mk Tryz.underlying9 hn
  go_enter Tryz.func58, Tryz.ntmps58
  go_wp2_with fail
  refine (find_any b n D M name a0 a1 a2 a3 a4 _ hm hM hn hE).mono ?_
  rintro e w1 ⟨h1, b1⟩
  have G1 := Fk.hide (Fk.grownBy_below (some b) b1)
  have E1 := hE.below b1
  have g3 := E1.c3
  unfold Is.ev at g3
  have m1 := Fk.map_below hm b1
  clear b1 hm
  rcases h1 with ⟨⟨fa, fb, fc⟩, hg, rfl⟩ | ⟨hg, rfl⟩
  · have hfa : fa = name := (Fk.get_some hg).2
    subst hfa
    have hx : (w1.alloc (.cells #[.string fa, .string fb, .int .i64 fc] 75)).cell? ⟨3, 0, none⟩ = some (.iface 168 (.pointer (some a3))) := (Fk.cellOld _ _ _ _ (World.block_lt_of_cell? w1 _ g3)).trans g3
    by_cases h0 : sz < 0
    · have HG : Hid (Fk.resCut M fa sz = .inl 8) := by show _ = _; simp only [Fk.resCut, hg]; rw [if_neg (by omega)]
      clear hg
      go_wp2_with fail
      go_ret
      exact ⟨.inl ⟨4, by decide, by decide, HG.out, rfl⟩, Fk.grownBy_trans G1.out (World.grownBy_alloc _ _ _)⟩
    by_cases h2 : (fb.size : Int) < sz
    · have HG : Hid (Fk.resCut M fa sz = .inl 8) := by show _ = _; simp only [Fk.resCut, hg]; rw [if_neg (by omega)]
      clear hg
      go_wp2_with fail
      go_ret
      exact ⟨.inl ⟨4, by decide, by decide, HG.out, rfl⟩, Fk.grownBy_trans G1.out (World.grownBy_alloc _ _ _)⟩
    have h3 : 0 ≤ sz := by omega
    have h4 : sz ≤ (fb.size : Int) := by omega
    have HG : Hid (Fk.resCut M fa sz = .inr (Fk.without M fa ++ [Fk.cutTo (fa, fb, fc) sz])) := by show _ = _; simp only [Fk.resCut, hg]; rw [if_pos (by omega)]
    clear hg
    obtain ⟨t, ht⟩ : ∃ t, t = fb.extract 0 sz.toNat := ⟨_, rfl⟩
    have hsl : ∀ W, (Instr.slice 9 (.string fb) none (some (.int .i64 sz)) none).run Tryz.prog W = .ok (.string t) W := fun W => by
      rw [ht, run_slice_string_h _ _ _ Tryz.underlying9 _ _ h3 h4]
    have HT := Fk.hide ht
    clear ht
    have M2 : Hid (Fk.Mp (D.put (Fk.kl fa) (Fk.fd (fa, t, min fc sz))) (Fk.without M fa ++ [Fk.cutTo (fa, fb, fc) sz])) := by
      have := hM.set (fa, t, min fc sz)
      show Fk.Mp _ _
      unfold Fk.cutTo
      rw [HT.out] at this ⊢
      exact this
    go_wp2_with (at_mapUpdate; refine wpList_mapUpdate_own _ rfl _ _ _ 52 rfl 9 75 (string_keyed Tryz.underlying9) Tryz.underlying52 Fk.rdFile b n D rfl (m1.alloc _) (by unfold maxLen; omega) _ _ _ rfl rfl hkey _ [] (Fk.rdFile_mk (fa, t, min fc sz)) ?_; intro w2 m2 g2)
    have G2 := Fk.hide (Fk.grownBy_trans (Fk.grownBy_trans G1.out (World.grownBy_alloc _ _ _)) g2)
    clear g2
    go_ret
    exact ⟨.inr ⟨_, _, HG.out, rfl, m2.mono (by omega), M2.out⟩, G2.out⟩
  · unfold Is.er
    have HG : Hid (Fk.resCut M name sz = .inl 6) := by show _ = _; simp only [Fk.resCut, hg]
    clear hg
    go_wp2_with fail
    go_ret
    exact ⟨.inl ⟨3, by decide, by decide, HG.out, rfl⟩, Fk.grownBy_trans G1.out (World.grownBy_alloc _ _ _)⟩
end Go.Proofs.YtojdfdlbdpdlkaaGreatDoor

namespace Go.Proofs.YtojdfdlbdpdlkaaGreatDoor
open Go.RowKit Go.Maps
open Go.WideMaps (keyOf_string_mk)
set_option linter.unusedVariables false
set_option linter.unusedSimpArgs false
namespace Fk
theorem box_kept {w1 w2 : World} {b : Nat} {t : TypeId} {fa fb : ByteArray} {fc : Int} (g : (w1.alloc (.cells #[.string fa, .string fb, .int .i64 fc] t)).grownBy w2 (some b)) (hb : b < w1.heap.size) :
    w2.cell? ⟨w1.heap.size, 0, none⟩ = some (.string fa) ∧ w2.cell? ⟨w1.heap.size, 1, none⟩ = some (.string fb) ∧ w2.cell? ⟨w1.heap.size, 2, none⟩ = some (.int .i64 fc) ∧ ∀ j, w2.frozen? ⟨w1.heap.size, j, none⟩ = false := by
  have hne : some w1.heap.size ≠ some b := fun e => by have := Option.some.inj e; omega
  have hB := g.block w1.heap.size (by simp) hne
  refine ⟨?_, ?_, ?_, fun j => ?_⟩
  · rw [World.cell?_of_block hB, cellTop _ _ _ _ _ rfl]; rfl
  · rw [World.cell?_of_block hB, cellTop _ _ _ _ _ rfl]; rfl
  · rw [World.cell?_of_block hB, cellTop _ _ _ _ _ rfl]; rfl
  · rw [World.frozen?_of_block hB, frozTop _ _ _ _ _ rfl]
theorem grownBy_setNew {w w2 : World} {r : Option Nat} (h : w.grownBy w2 r) (g j : Nat) (hg : w.heap.size ≤ g) (u : Value) : w.grownBy (w2.setCell ⟨g, j, none⟩ u) r :=
  ⟨h.os, h.tape, h.output, by simpa [World.setCell] using h.size, fun k hk hr => (Deep.blk_setCell_other w2 ⟨g, j, none⟩ u k (fun e => by simp only at e; omega)).trans (h.block k hk hr)⟩
def resRename (L : List Fl) (name to : ByteArray) : Int ⊕ List Fl :=
  match get L name with
  | none => .inl 6
  | some f => .inr (without (without L name) to ++ [(to, f.2.1, f.2.2)])
theorem opn_two (L : List Fl) (a b : ByteArray) (h : opn L [a, b] = 0) : a.size ≤ 8000 ∧ b.size ≤ 8000 := by
  unfold opn at h
  split at h
  · cases h
  · rename_i hl
    simp at hl
    omega
theorem rename_fit {L : List Fl} (h : right L = true) {name to : ByteArray} {M : List Fl} (hM : resRename L name to = .inr M) (ho : opn L [name, to] = 0) : M.length ≤ 1000 ∧ ∀ f ∈ M, f.1.size ≤ 1073741824 ∧ f.2.1.size ≤ 1073741824 := by
  have h12 := (right_inv L h).1
  have hfit := right_fit h
  have h2 := opn_two L name to ho
  have hw : (without L name).length ≤ L.length := List.length_filter_le _ _
  have hw2 : (without (without L name) to).length ≤ (without L name).length := List.length_filter_le _ _
  unfold resRename at hM
  split at hM
  · cases hM
  · rename_i f hg
    obtain rfl := Sum.inr.inj hM
    refine ⟨by simp; omega, fun x hx => ?_⟩
    rcases List.mem_append.1 hx with hx | hx
    · have := hfit x (without_sub x (without_sub x hx)); omega
    · have e : x = (to, f.2.1, f.2.2) := by simpa using hx
      subst e
      have hf := hfit f (get_some hg).1
      exact ⟨by show to.size ≤ _; omega, by show f.2.1.size ≤ _; omega⟩
theorem rename_short (L : List Fl) (name to : ByteArray) : opn L [name, to] = 0 → ∀ M, resRename L name to = .inr M → M.length ≤ 1000 := fun h0 _ hM => (rename_fit (opn_right L _ h0) hM h0).1
end Fk

end Go.Proofs.YtojdfdlbdpdlkaaGreatDoor
