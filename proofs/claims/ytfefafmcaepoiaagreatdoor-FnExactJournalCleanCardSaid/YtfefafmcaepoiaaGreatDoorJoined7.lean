/- The walk of what the program does to a map of files: cut. The walk of what the program does to a map of files: rename. The walk of what the program does to a map of files: append. -/
import Derived.Test.YtfefafmcaepoiaaGreatDoorFsSyncWalks
import Derived.Test.YtfefafmcaepoiaaGreatDoorJoined4
namespace Go.Proofs.YtfefafmcaepoiaaGreatDoor
open Go.RowKit Go.Maps
open Go.WideMaps (keyOf_string_mk)
set_option linter.unusedVariables false
set_option linter.unusedSimpArgs false
namespace Fk
def cutTo (f : Fl) (sz : Int) : Fl := (f.1, f.2.1.extract 0 sz.toNat, min f.2.2 sz)
def resCut (L : List Fl) (name : ByteArray) (sz : Int) : Int ⊕ List Fl :=
  match get L name with
  | none => .inl 6
  | some f => if 0 ≤ sz ∧ sz ≤ f.2.1.size then .inr (without L name ++ [cutTo f sz]) else .inl 8
/-- how a change of a map of files ends -/
def Done (b n : Nat) (a0 a1 a2 a3 a4 : Addr) (res : Int ⊕ List Fl) (e : Ending) (w' : World) : Prop :=
  (∃ k, 1 ≤ k ∧ k ≤ 5 ∧ res = .inl (Is.cd k) ∧ e = .returned (Is.er a0 a1 a2 a3 a4 k)) ∨ (∃ D' M, res = .inr M ∧ e = .returned .nilIface ∧ w'.ownsMap Tryz.prog 9 rdFile b (n + 2) D' ∧ Mp D' M)
theorem cut_fit {L : List Fl} (h : right L = true) {name : ByteArray} {sz : Int} {M : List Fl} (hM : resCut L name sz = .inr M) : M.length ≤ 1000 ∧ ∀ f ∈ M, f.1.size ≤ 1073741824 ∧ f.2.1.size ≤ 1073741824 := by
  have h12 := (right_inv L h).1
  have hfit := right_fit h
  have hw : (without L name).length ≤ L.length := List.length_filter_le _ _
  unfold resCut at hM
  split at hM
  · cases hM
  · rename_i f hg
    split at hM
    · obtain rfl := Sum.inr.inj hM
      refine ⟨by simp; omega, fun x hx => ?_⟩
      rcases List.mem_append.1 hx with hx | hx
      · have := hfit x (without_sub x hx); omega
      · have e : x = cutTo f sz := by simpa using hx
        subst e
        have hf := hfit f (get_some hg).1
        refine ⟨by show f.1.size ≤ _; omega, ?_⟩
        show (f.2.1.extract 0 sz.toNat).size ≤ _
        simp [ByteArray.size_extract]
        omega
    · cases hM
theorem cut_short (L : List Fl) (name : ByteArray) (sz : Int) : opn L [name] = 0 → ∀ M, resCut L name sz = .inr M → M.length ≤ 1000 := fun h0 _ hM => (cut_fit (opn_right L _ h0) hM).1
end Fk

set_option maxRecDepth 20000 in
set_option maxHeartbeats 2000000 in
theorem cut_done (b n : Nat) (D : DataW Unit) (M : List Fk.Fl) (name : ByteArray) (sz : Int) (a0 a1 a2 a3 a4 : Addr) (w : World) (hm : w.ownsMap Tryz.prog 9 Fk.rdFile b n D) (hM : Fk.Mp D M) (hR : Fk.right M = true) (hnn : n ≤ 1000) (hn : name.size ≤ maxLen) (hE : Is.Errs w a0 a1 a2 a3 a4) :
    Calls Tryz.prog 63 #[.map (some b), .string name, .int .i64 sz] w fun e w' => Fk.Done b n a0 a1 a2 a3 a4 (Fk.resCut M name sz) e w' ∧ w.grownBy w' (some b) := by
  have hkey := keyOf_string_mk Tryz.underlying9 hn
  go_enter Tryz.func63, Tryz.ntmps63
  go_wp2_with fail
  refine (find_any b n D M name a0 a1 a2 a3 a4 _ hm hM hn hE).mono ?_
  rintro e w1 ⟨h1, b1⟩
  have G1 := Fk.hide (Fk.grownBy_below (some b) b1)
  have E1 := hE.below b1
  have g3 := E1.c3
  unfold Is.ev at g3
  have m1 := Fk.map_below hm b1
  clear b1 hm
  rcases h1 with ⟨⟨fa, fb, fc⟩, hg, rfl⟩ | ⟨hg, rfl⟩
  · have hfa : fa = name := (Fk.get_some hg).2
    subst hfa
    have hx : (w1.alloc (.cells #[.string fa, .string fb, .int .i64 fc] 73)).cell? ⟨3, 0, none⟩ = some (.iface 166 (.pointer (some a3))) := (Fk.cellOld _ _ _ _ (World.block_lt_of_cell? w1 _ g3)).trans g3
    by_cases h0 : sz < 0
    · have HG : Hid (Fk.resCut M fa sz = .inl 8) := by show _ = _; simp only [Fk.resCut, hg]; rw [if_neg (by omega)]
      clear hg
      go_wp2_with fail
      go_ret
      exact ⟨.inl ⟨4, by decide, by decide, HG.out, rfl⟩, Fk.grownBy_trans G1.out (World.grownBy_alloc _ _ _)⟩
    by_cases h2 : (fb.size : Int) < sz
    · have HG : Hid (Fk.resCut M fa sz = .inl 8) := by show _ = _; simp only [Fk.resCut, hg]; rw [if_neg (by omega)]
      clear hg
      go_wp2_with fail
      go_ret
      exact ⟨.inl ⟨4, by decide, by decide, HG.out, rfl⟩, Fk.grownBy_trans G1.out (World.grownBy_alloc _ _ _)⟩
    have h3 : 0 ≤ sz := by omega
    have h4 : sz ≤ (fb.size : Int) := by omega
    have HG : Hid (Fk.resCut M fa sz = .inr (Fk.without M fa ++ [Fk.cutTo (fa, fb, fc) sz])) := by show _ = _; simp only [Fk.resCut, hg]; rw [if_pos (by omega)]
    clear hg
    obtain ⟨t, ht⟩ : ∃ t, t = fb.extract 0 sz.toNat := ⟨_, rfl⟩
    have hsl : ∀ W, (Instr.slice 9 (.string fb) none (some (.int .i64 sz)) none).run Tryz.prog W = .ok (.string t) W := fun W => by
      rw [ht, run_slice_string_h _ _ _ Tryz.underlying9 _ _ h3 h4]
    have HT := Fk.hide ht
    clear ht
    have M2 : Hid (Fk.Mp (D.put (Fk.kl fa) (Fk.fd (fa, t, min fc sz))) (Fk.without M fa ++ [Fk.cutTo (fa, fb, fc) sz])) := by
      have := hM.set (fa, t, min fc sz)
      show Fk.Mp _ _
      unfold Fk.cutTo
      rw [HT.out] at this ⊢
      exact this
    go_wp2_with (at_mapUpdate; refine wpList_mapUpdate_own _ rfl _ _ _ 51 rfl 9 73 (string_keyed Tryz.underlying9) Tryz.underlying51 Fk.rdFile b n D rfl (m1.alloc _) (by unfold maxLen; omega) _ _ _ rfl rfl hkey _ [] (Fk.rdFile_mk (fa, t, min fc sz)) ?_; intro w2 m2 g2)
    have G2 := Fk.hide (Fk.grownBy_trans (Fk.grownBy_trans G1.out (World.grownBy_alloc _ _ _)) g2)
    clear g2
    go_ret
    exact ⟨.inr ⟨_, _, HG.out, rfl, m2.mono (by omega), M2.out⟩, G2.out⟩
  · unfold Is.er
    have HG : Hid (Fk.resCut M name sz = .inl 6) := by show _ = _; simp only [Fk.resCut, hg]
    clear hg
    go_wp2_with fail
    go_ret
    exact ⟨.inl ⟨3, by decide, by decide, HG.out, rfl⟩, Fk.grownBy_trans G1.out (World.grownBy_alloc _ _ _)⟩
end Go.Proofs.YtfefafmcaepoiaaGreatDoor

namespace Go.Proofs.YtfefafmcaepoiaaGreatDoor
open Go.RowKit Go.Maps
open Go.WideMaps (keyOf_string_mk)
set_option linter.unusedVariables false
set_option linter.unusedSimpArgs false
namespace Fk
theorem box_kept {w1 w2 : World} {b : Nat} {t : TypeId} {fa fb : ByteArray} {fc : Int} (g : (w1.alloc (.cells #[.string fa, .string fb, .int .i64 fc] t)).grownBy w2 (some b)) (hb : b < w1.heap.size) :
    w2.cell? ⟨w1.heap.size, 0, none⟩ = some (.string fa) ∧ w2.cell? ⟨w1.heap.size, 1, none⟩ = some (.string fb) ∧ w2.cell? ⟨w1.heap.size, 2, none⟩ = some (.int .i64 fc) ∧ ∀ j, w2.frozen? ⟨w1.heap.size, j, none⟩ = false := by
  have hne : some w1.heap.size ≠ some b := fun e => by have := Option.some.inj e; omega
  have hB := g.block w1.heap.size (by simp) hne
  refine ⟨?_, ?_, ?_, fun j => ?_⟩
  · rw [World.cell?_of_block hB, cellTop _ _ _ _ _ rfl]; rfl
  · rw [World.cell?_of_block hB, cellTop _ _ _ _ _ rfl]; rfl
  · rw [World.cell?_of_block hB, cellTop _ _ _ _ _ rfl]; rfl
  · rw [World.frozen?_of_block hB, frozTop _ _ _ _ _ rfl]
theorem grownBy_setNew {w w2 : World} {r : Option Nat} (h : w.grownBy w2 r) (g j : Nat) (hg : w.heap.size ≤ g) (u : Value) : w.grownBy (w2.setCell ⟨g, j, none⟩ u) r :=
  ⟨h.os, h.tape, h.output, by simpa [World.setCell] using h.size, fun k hk hr => (Deep.blk_setCell_other w2 ⟨g, j, none⟩ u k (fun e => by simp only at e; omega)).trans (h.block k hk hr)⟩
def resRename (L : List Fl) (name to : ByteArray) : Int ⊕ List Fl :=
  match get L name with
  | none => .inl 6
  | some f => .inr (without (without L name) to ++ [(to, f.2.1, f.2.2)])
theorem opn_two (L : List Fl) (a b : ByteArray) (h : opn L [a, b] = 0) : a.size ≤ 8000 ∧ b.size ≤ 8000 := by
  unfold opn at h
  split at h
  · cases h
  · rename_i hl
    simp at hl
    omega
theorem rename_fit {L : List Fl} (h : right L = true) {name to : ByteArray} {M : List Fl} (hM : resRename L name to = .inr M) (ho : opn L [name, to] = 0) : M.length ≤ 1000 ∧ ∀ f ∈ M, f.1.size ≤ 1073741824 ∧ f.2.1.size ≤ 1073741824 := by
  have h12 := (right_inv L h).1
  have hfit := right_fit h
  have h2 := opn_two L name to ho
  have hw : (without L name).length ≤ L.length := List.length_filter_le _ _
  have hw2 : (without (without L name) to).length ≤ (without L name).length := List.length_filter_le _ _
  unfold resRename at hM
  split at hM
  · cases hM
  · rename_i f hg
    obtain rfl := Sum.inr.inj hM
    refine ⟨by simp; omega, fun x hx => ?_⟩
    rcases List.mem_append.1 hx with hx | hx
    · have := hfit x (without_sub x (without_sub x hx)); omega
    · have e : x = (to, f.2.1, f.2.2) := by simpa using hx
      subst e
      have hf := hfit f (get_some hg).1
      exact ⟨by show to.size ≤ _; omega, by show f.2.1.size ≤ _; omega⟩
theorem rename_short (L : List Fl) (name to : ByteArray) : opn L [name, to] = 0 → ∀ M, resRename L name to = .inr M → M.length ≤ 1000 := fun h0 _ hM => (rename_fit (opn_right L _ h0) hM h0).1
end Fk

end Go.Proofs.YtfefafmcaepoiaaGreatDoor

namespace Go.Proofs.YtfefafmcaepoiaaGreatDoor
open Go.RowKit Go.Maps
open Go.WideMaps (keyOf_string_mk)
set_option linter.unusedVariables false
set_option linter.unusedSimpArgs false
namespace Fk
def resAppend (L : List Fl) (name text : ByteArray) : Int ⊕ List Fl :=
  match get L name with
  | none => if 12 ≤ L.length then .inl 9 else if 3000 < text.size then .inl 9 else .inr (without L name ++ [(name, ByteArray.empty ++ text, 0)])
  | some f => if 3000 < f.2.1.size + text.size then .inl 9 else .inr (without L name ++ [(f.1, f.2.1 ++ text, f.2.2)])
/-- why a text can't be appended ahead of all that its file says -/
def opnA (L : List Fl) (name text : ByteArray) : Nat := if 8000 < text.size then 1 else opn L [name]
theorem opn_one (L : List Fl) (a : ByteArray) (h : opn L [a] = 0) : a.size ≤ 8000 := by
  unfold opn at h
  split at h
  · cases h
  · rename_i hl
    simp at hl
    omega
theorem append_fit {L : List Fl} (h : right L = true) {name text : ByteArray} {M : List Fl} (hM : resAppend L name text = .inr M) (ho : opn L [name] = 0) : M.length ≤ 1000 ∧ ∀ f ∈ M, f.1.size ≤ 1073741824 ∧ f.2.1.size ≤ 1073741824 := by
  have h12 := (right_inv L h).1
  have hfit := right_fit h
  have h2 := opn_one L name ho
  have hw : (without L name).length ≤ L.length := List.length_filter_le _ _
  unfold resAppend at hM
  split at hM
  · split at hM
    · cases hM
    · split at hM
      · cases hM
      · obtain rfl := Sum.inr.inj hM
        refine ⟨by simp; omega, fun x hx => ?_⟩
        rcases List.mem_append.1 hx with hx | hx
        · have := hfit x (without_sub x hx); omega
        · have e : x = (name, ByteArray.empty ++ text, 0) := by simpa using hx
          subst e
          exact ⟨by show name.size ≤ _; omega, by show (ByteArray.empty ++ text).size ≤ _; simp [ByteArray.size_append]; omega⟩
  · rename_i f hg
    split at hM
    · cases hM
    · obtain rfl := Sum.inr.inj hM
      refine ⟨by simp; omega, fun x hx => ?_⟩
      rcases List.mem_append.1 hx with hx | hx
      · have := hfit x (without_sub x hx); omega
      · have e : x = (f.1, f.2.1 ++ text, f.2.2) := by simpa using hx
        subst e
        have hf := hfit f (get_some hg).1
        exact ⟨by show f.1.size ≤ _; omega, by show (f.2.1 ++ text).size ≤ _; simp [ByteArray.size_append]; omega⟩
theorem append_short (L : List Fl) (name text : ByteArray) : opnA L name text = 0 → ∀ M, resAppend L name text = .inr M → M.length ≤ 1000 := fun h0 _ hM => by
  have h1 : opn L [name] = 0 := by
    unfold opnA at h0
    split at h0
    · cases h0
    · exact h0
  exact (append_fit (opn_right L _ h1) hM h1).1
end Fk

set_option maxRecDepth 20000 in
set_option maxHeartbeats 4000000 in
theorem append_done (b n : Nat) (D : DataW Unit) (M : List Fk.Fl) (name text : ByteArray) (a0 a1 a2 a3 a4 : Addr) (w : World) (hm : w.ownsMap Tryz.prog 9 Fk.rdFile b n D) (hM : Fk.Mp D M) (hR : Fk.right M = true) (hnn : n ≤ 1000) (hn : name.size ≤ maxLen) (ht : text.size ≤ 8000) (hE : Is.Errs w a0 a1 a2 a3 a4) :
    Calls Tryz.prog 51 #[.map (some b), .string name, .string text] w fun e w' => Fk.Done b n a0 a1 a2 a3 a4 (Fk.resAppend M name text) e w' ∧ w.grownBy w' (some b) := by
  have hkey := keyOf_string_mk Tryz.underlying9 hn
  have hfit := Fk.hide (Fk.right_fit hR)
  have h12 := (Fk.right_inv M hR).1
  go_enter Tryz.func51, Tryz.ntmps51
  go_wp2_with fail
  refine (find_any b n D M name a0 a1 a2 a3 a4 _ hm hM hn hE).mono ?_
  rintro e w1 ⟨h1, b1⟩
  have G1 := Fk.hide (Fk.grownBy_below (some b) b1)
  have E1 := hE.below b1
  have g2 := E1.c2
  have g4 := E1.c4
  unfold Is.ev at g2 g4
  have m1 := Fk.map_below hm b1
  have hb : b < w1.heap.size := m1.lt
  clear b1 hm E1
  rcases h1 with ⟨⟨fa, fb, fc⟩, hg, rfl⟩ | ⟨hg, rfl⟩
  · have hfa : fa = name := (Fk.get_some hg).2
    subst hfa
    have hfb := (hfit.out _ (Fk.get_some hg).1).2
    simp only at hfb
    obtain ⟨W2, hW2⟩ : ∃ W2, W2 = w1.alloc (.cells #[.string fa, .string fb, .int .i64 fc] 73) := ⟨_, rfl⟩
    have b2 : Below w1.heap.size w1 W2 := by rw [hW2]; exact (Below.refl _ _).alloc (Nat.le_refl _) _
    have hz2 : w1.heap.size < W2.heap.size := by rw [hW2]; simp
    have y0 : W2.cell? ⟨w1.heap.size, 0, none⟩ = some (.string fa) := by rw [hW2, Fk.cellTop _ _ _ _ _ rfl]; rfl
    have y1 : W2.cell? ⟨w1.heap.size, 1, none⟩ = some (.string fb) := by rw [hW2, Fk.cellTop _ _ _ _ _ rfl]; rfl
    have y2 : W2.cell? ⟨w1.heap.size, 2, none⟩ = some (.int .i64 fc) := by rw [hW2, Fk.cellTop _ _ _ _ _ rfl]; rfl
    have yf : ∀ j, W2.frozen? ⟨w1.heap.size, j, none⟩ = false := fun j => by rw [hW2, Fk.frozTop _ _ _ _ _ rfl]
    have x2 : W2.cell? ⟨2, 0, none⟩ = some (.iface 166 (.pointer (some a2))) := (b2.cell (World.block_lt_of_cell? w1 _ g2)).trans g2
    have x4 : W2.cell? ⟨4, 0, none⟩ = some (.iface 166 (.pointer (some a4))) := (b2.cell (World.block_lt_of_cell? w1 _ g4)).trans g4
    have G2 : Hid (w.grownBy W2 (some b)) := by rw [hW2]; exact Fk.grownBy_trans G1.out (World.grownBy_alloc _ _ _)
    have m2 := Fk.map_below m1 b2
    have HW2 := Fk.hide hW2
    clear hW2 b2
    have xx2 : (w1.alloc (.cells #[.string fa, .string fb, .int .i64 fc] 73)).cell? ⟨2, 0, none⟩ = some (.iface 166 (.pointer (some a2))) := by rw [← HW2.out]; exact x2
    go_wp2_with fail
    rw [← HW2.out]
    clear xx2
    refine (Is.is_nil a2 _).mono ?_
    rintro e w2' ⟨rfl, e2'⟩
    rw [e2']
    clear e2' w2'
    have hwr : IntKind.i64.wrap ((fb.size : Int) + (text.size : Int)) = (fb.size : Int) + (text.size : Int) := by rw [IntKind.wrap_i64]; omega
    by_cases hbig : (3000 : Int) < (fb.size : Int) + (text.size : Int)
    · have HG : Hid (Fk.resAppend M fa text = .inl 9) := by show _ = _; simp only [Fk.resAppend, hg]; rw [if_pos (by omega)]
      clear hg
      go_wp2_with fail
      go_ret
      exact ⟨.inl ⟨5, by decide, by decide, HG.out, rfl⟩, G2.out⟩
    · have HG : Hid (Fk.resAppend M fa text = .inr (Fk.without M fa ++ [(fa, fb ++ text, fc)])) := by show _ = _; simp only [Fk.resAppend, hg]; rw [if_neg (by omega)]
      clear hg
      have M2 := Fk.hide (hM.set (fa, fb ++ text, fc))
      go_wp2_with fail
      refine (join_two fb text _ _ (by omega) (by omega)).mono ?_
      rintro e w3 ⟨rfl, b3⟩
      obtain ⟨t, ht⟩ : ∃ t, t = fb ++ text := ⟨_, rfl⟩
      rw [← ht] at M2 HG
      rw [← ht]
      clear ht
      have G3 := Fk.hide (Fk.grownBy_trans G2.out (Fk.grownBy_below (some b) b3))
      have m3 := Fk.map_below m2 b3
      have z0 : w3.cell? ⟨w1.heap.size, 0, none⟩ = some (.string fa) := (b3.cell hz2).trans y0
      have z1 : w3.cell? ⟨w1.heap.size, 1, none⟩ = some (.string fb) := (b3.cell hz2).trans y1
      have z2 : w3.cell? ⟨w1.heap.size, 2, none⟩ = some (.int .i64 fc) := (b3.cell hz2).trans y2
      have zf : ∀ j, w3.frozen? ⟨w1.heap.size, j, none⟩ = false := fun j => (b3.frozen hz2).trans (yf j)
      have hw1 : w.heap.size ≤ w1.heap.size := G1.out.size
      clear b3 y0 y1 y2 yf x2 x4 G2 m2
      go_wp2_with (at_mapUpdate; refine wpList_mapUpdate_own _ rfl _ _ _ 51 rfl 9 73 (string_keyed Tryz.underlying9) Tryz.underlying51 Fk.rdFile b n D rfl (m3.setCell (a := ⟨w1.heap.size, 1, none⟩) (by show b ≠ w1.heap.size; omega) _) (by unfold maxLen; omega) _ _ _ rfl rfl hkey _ [] (Fk.rdFile_mk (fa, t, fc)) ?_; intro w4 m4 g4')
      have G4 := Fk.hide (Fk.grownBy_trans (Fk.grownBy_setNew G3.out w1.heap.size 1 hw1 (.string t)) g4')
      clear g4'
      go_ret
      exact ⟨.inr ⟨_, _, HG.out, rfl, m4.mono (by omega), M2.out⟩, G4.out⟩
  · unfold Is.er
    obtain ⟨W2, hW2⟩ : ∃ W2, W2 = w1.alloc (.cells #[.string ByteArray.empty, .string ByteArray.empty, .int .i64 0] 73) := ⟨_, rfl⟩
    have b2 : Below w1.heap.size w1 W2 := by rw [hW2]; exact (Below.refl _ _).alloc (Nat.le_refl _) _
    have hz2 : w1.heap.size < W2.heap.size := by rw [hW2]; simp
    have y0 : W2.cell? ⟨w1.heap.size, 0, none⟩ = some (.string ByteArray.empty) := by rw [hW2, Fk.cellTop _ _ _ _ _ rfl]; rfl
    have y1 : W2.cell? ⟨w1.heap.size, 1, none⟩ = some (.string ByteArray.empty) := by rw [hW2, Fk.cellTop _ _ _ _ _ rfl]; rfl
    have y2 : W2.cell? ⟨w1.heap.size, 2, none⟩ = some (.int .i64 0) := by rw [hW2, Fk.cellTop _ _ _ _ _ rfl]; rfl
    have yf : ∀ j, W2.frozen? ⟨w1.heap.size, j, none⟩ = false := fun j => by rw [hW2, Fk.frozTop _ _ _ _ _ rfl]
    have x2 : W2.cell? ⟨2, 0, none⟩ = some (.iface 166 (.pointer (some a2))) := (b2.cell (World.block_lt_of_cell? w1 _ g2)).trans g2
    have x4 : W2.cell? ⟨4, 0, none⟩ = some (.iface 166 (.pointer (some a4))) := (b2.cell (World.block_lt_of_cell? w1 _ g4)).trans g4
    have G2 : Hid (w.grownBy W2 (some b)) := by rw [hW2]; exact Fk.grownBy_trans G1.out (World.grownBy_alloc _ _ _)
    have m2 := Fk.map_below m1 b2
    have HW2 := Fk.hide hW2
    clear hW2 b2
    have xx2 : (w1.alloc (.cells #[.string ByteArray.empty, .string ByteArray.empty, .int .i64 0] 73)).cell? ⟨2, 0, none⟩ = some (.iface 166 (.pointer (some a2))) := by rw [← HW2.out]; exact x2
    go_wp2_with fail
    rw [← HW2.out]
    clear xx2
    refine (Is.is_same a2 _).mono ?_
    rintro e w2' ⟨rfl, e2'⟩
    rw [e2']
    clear e2' w2'
    by_cases hfull : (12 : Int) ≤ (M.length : Int)
    · have HG : Hid (Fk.resAppend M name text = .inl 9) := by show _ = _; simp only [Fk.resAppend, hg]; rw [if_pos (by omega)]
      clear hg
      go_wp2_with (at_len; refine wpList_len_own _ rfl _ 51 rfl 9 73 Tryz.underlying51 Fk.rdFile b n D rfl m2 ?_; rw [hM.size])
      go_ret
      exact ⟨.inl ⟨5, by decide, by decide, HG.out, rfl⟩, G2.out⟩
    · have hW3 : ∀ W, W = W2 → W = W2 := fun _ h => h
      by_cases hbig : (3000 : Int) < (text.size : Int)
      · have HG : Hid (Fk.resAppend M name text = .inl 9) := by show _ = _; simp only [Fk.resAppend, hg]; rw [if_neg (by omega), if_pos (by omega)]
        clear hg
        rw [HW2.out]
        have m2x := m2
        rw [HW2.out] at m2x
        have xx4 : (w1.alloc (.cells #[.string name, .string { data := #[] }, .int .i64 0] 73)).cell? ⟨4, 0, none⟩ = some (.iface 166 (.pointer (some a4))) := (Fk.cellOld _ _ _ _ (World.block_lt_of_cell? w1 _ g4)).trans g4
        clear y0 y1 y2 yf x2 x4
        go_wp2_with (at_len; refine wpList_len_own _ rfl _ 51 rfl 9 73 Tryz.underlying51 Fk.rdFile b n D rfl m2x ?_; rw [hM.size])
        go_ret
        exact ⟨.inl ⟨5, by decide, by decide, HG.out, rfl⟩, Fk.grownBy_trans G1.out (World.grownBy_alloc _ _ _)⟩
      · have HG : Hid (Fk.resAppend M name text = .inr (Fk.without M name ++ [(name, ByteArray.empty ++ text, 0)])) := by show _ = _; simp only [Fk.resAppend, hg]; rw [if_neg (by omega), if_neg (by omega)]
        clear hg
        have M2 := Fk.hide (hM.set (name, ByteArray.empty ++ text, 0))
        rw [HW2.out]
        have m2x := m2
        rw [HW2.out] at m2x
        clear y0 y1 y2 yf x2 x4 G2 m2 HW2 hz2 hW3
        clear W2
        obtain ⟨W2, hW2⟩ : ∃ W2, W2 = w1.alloc (.cells #[.string name, .string { data := #[] }, .int .i64 0] 73) := ⟨_, rfl⟩
        have b2 : Below w1.heap.size w1 W2 := by rw [hW2]; exact (Below.refl _ _).alloc (Nat.le_refl _) _
        have hz2 : w1.heap.size < W2.heap.size := by rw [hW2]; simp
        have y0 : W2.cell? ⟨w1.heap.size, 0, none⟩ = some (.string name) := by rw [hW2, Fk.cellTop _ _ _ _ _ rfl]; rfl
        have y1 : W2.cell? ⟨w1.heap.size, 1, none⟩ = some (.string { data := #[] }) := by rw [hW2, Fk.cellTop _ _ _ _ _ rfl]; rfl
        have y2 : W2.cell? ⟨w1.heap.size, 2, none⟩ = some (.int .i64 0) := by rw [hW2, Fk.cellTop _ _ _ _ _ rfl]; rfl
        have yf : ∀ j, W2.frozen? ⟨w1.heap.size, j, none⟩ = false := fun j => by rw [hW2, Fk.frozTop _ _ _ _ _ rfl]
        have x2 : W2.cell? ⟨2, 0, none⟩ = some (.iface 166 (.pointer (some a2))) := (b2.cell (World.block_lt_of_cell? w1 _ g2)).trans g2
        have x4 : W2.cell? ⟨4, 0, none⟩ = some (.iface 166 (.pointer (some a4))) := (b2.cell (World.block_lt_of_cell? w1 _ g4)).trans g4
        have G2 : Hid (w.grownBy W2 (some b)) := by rw [hW2]; exact Fk.grownBy_trans G1.out (World.grownBy_alloc _ _ _)
        have m2 := Fk.map_below m1 b2
        have HW2 := Fk.hide hW2
        clear hW2 b2
        have HZZ : Hid (w1.heap.size + 1 = W2.heap.size) := by show _ = _; rw [HW2.out]; simp
        go_wp2_with (at_len; refine wpList_len_own _ rfl _ 51 rfl 9 73 Tryz.underlying51 Fk.rdFile b n D rfl m2x ?_; rw [hM.size])
        rw [← HW2.out, HZZ.out]
        refine (join_two ByteArray.empty text _ _ (by decide) (by omega)).mono ?_
        rintro e w3 ⟨rfl, b3⟩
        obtain ⟨t, ht⟩ : ∃ t, t = ByteArray.empty ++ text := ⟨_, rfl⟩
        rw [← ht] at M2 HG
        rw [← ht]
        clear ht
        have G3 := Fk.hide (Fk.grownBy_trans G2.out (Fk.grownBy_below (some b) b3))
        have m3 := Fk.map_below m2 b3
        have z0 : w3.cell? ⟨w1.heap.size, 0, none⟩ = some (.string name) := (b3.cell hz2).trans y0
        have z1 : w3.cell? ⟨w1.heap.size, 1, none⟩ = some (.string { data := #[] }) := (b3.cell hz2).trans y1
        have z2 : w3.cell? ⟨w1.heap.size, 2, none⟩ = some (.int .i64 0) := (b3.cell hz2).trans y2
        have zf : ∀ j, w3.frozen? ⟨w1.heap.size, j, none⟩ = false := fun j => (b3.frozen hz2).trans (yf j)
        have hw1 : w.heap.size ≤ w1.heap.size := G1.out.size
        clear b3 y0 y1 y2 yf x2 x4 G2 m2
        go_wp2_with (at_mapUpdate; refine wpList_mapUpdate_own _ rfl _ _ _ 51 rfl 9 73 (string_keyed Tryz.underlying9) Tryz.underlying51 Fk.rdFile b n D rfl (m3.setCell (a := ⟨w1.heap.size, 1, none⟩) (by show b ≠ w1.heap.size; omega) _) (by unfold maxLen; omega) _ _ _ rfl rfl hkey _ [] (Fk.rdFile_mk (name, t, 0)) ?_; intro w4 m4 g4')
        have G4 := Fk.hide (Fk.grownBy_trans (Fk.grownBy_setNew G3.out w1.heap.size 1 hw1 (.string t)) g4')
        clear g4'
        go_ret
        exact ⟨.inr ⟨_, _, HG.out, rfl, m4.mono (by omega), M2.out⟩, G4.out⟩
end Go.Proofs.YtfefafmcaepoiaaGreatDoor
