/- The walks of the program's copyFile, toFs and outcome: the files of a map, in new memory, rising by name. The walks of the program's outcome and of what it does to a map of files: sync, remove. -/
import Derived.Test.YtojdfdlbdpdlkaaGreatDoorJoined4
import Derived.Test.YtojdfdlbdpdlkaaGreatDoorIter
import Derived.Test.YtojdfdlbdpdlkaaGreatDoorJoined5
import Derived.Test.YtojdfdlbdpdlkaaGreatDoorJoined8
import Derived.WalkKit
import Derived.WalkSpells
import Derived.WalkLawsBesides
namespace Go.Proofs.YtojdfdlbdpdlkaaGreatDoor
open Go.RowKit Go.Maps Go.Sort
open Go.WideMaps (keyOf_string_mk)
set_option linter.unusedVariables false

set_option maxHeartbeats 1000000 in
theorem copyFile_any (a b : ByteArray) (s : Int) (w : World) (ha : a.size ≤ 1073741824) (hb : b.size ≤ 1073741824) :
    Calls Tryz.prog 86 #[.agg #[.string a, .string b, .int .i64 s]] w fun e w' => e = .returned (.agg #[.string a, .string b, .int .i64 s]) ∧ Below w.heap.size w w' := by
  obtain ⟨W, hW⟩ : ∃ W, W = (w.alloc (.cells #[.string a, .string b, .int .i64 s] 75)).alloc (.cells #[.string { data := #[] }, .string { data := #[] }, .int .i64 0] 75) := ⟨_, rfl⟩
  have b0 : Below w.heap.size w W := by
    rw [hW]
    repeat (first | exact Below.refl _ _ | refine Below.alloc ?_ (by simp <;> omega) _)
  have hsz : W.heap.size = w.heap.size + 2 := by rw [hW]; simp
  have c0 : W.cell? ⟨w.heap.size, 0, none⟩ = some (.string a) := by rw [hW, Fk.cellOld _ _ _ _ (by simp), Fk.cellTop _ _ _ _ _ (by simp)]; rfl
  have c1 : W.cell? ⟨w.heap.size, 1, none⟩ = some (.string b) := by rw [hW, Fk.cellOld _ _ _ _ (by simp), Fk.cellTop _ _ _ _ _ (by simp)]; rfl
  have c2 : W.cell? ⟨w.heap.size, 2, none⟩ = some (.int .i64 s) := by rw [hW, Fk.cellOld _ _ _ _ (by simp), Fk.cellTop _ _ _ _ _ (by simp)]; rfl
  have d0 : W.cell? ⟨w.heap.size + 1, 0, none⟩ = some (.string { data := #[] }) := by rw [hW, Fk.cellTop _ _ _ _ _ (by simp)]; rfl
  have d1 : W.cell? ⟨w.heap.size + 1, 1, none⟩ = some (.string { data := #[] }) := by rw [hW, Fk.cellTop _ _ _ _ _ (by simp)]; rfl
  have d2 : W.cell? ⟨w.heap.size + 1, 2, none⟩ = some (.int .i64 0) := by rw [hW, Fk.cellTop _ _ _ _ _ (by simp)]; rfl
  have df : ∀ j, W.frozen? ⟨w.heap.size + 1, j, none⟩ = false := fun j => by rw [hW, Fk.frozTop _ _ _ _ _ (by simp)]
  have HW := Fk.hide hW
  clear hW
  have r0 := cell_regrown c0
  have r1 := cell_regrown c1
  have r2 := cell_regrown c2
  have fa : ∀ w', Calls Tryz.prog 96 #[.string a] w' fun e w'' => e = .returned (.string a) ∧ Below w'.heap.size w' w'' := fun w' => copyText_any a w' ha
  have fb : ∀ w', Calls Tryz.prog 96 #[.string b] w' fun e w'' => e = .returned (.string b) ∧ Below w'.heap.size w' w'' := fun w' => copyText_any b w' hb
  go_enter Tryz.func86, Tryz.ntmps86
  go_wp2_with fail
  rw [← HW.out]
  refine Qt.region_below_tail 9 (by kernel_rfl) (by kernel_rfl) ?_
  simp only [List.take_succ_cons, List.take_zero, List.drop_succ_cons, List.drop_zero]
  repeat (go_big_quiet_step (first | (go_at_call_of 96 a; exact Calls.regrown_of (fa _)) | (go_at_call_of 96 b; exact Calls.regrown_of (fb _))))
  refine wpQuiet_nil ?_
  intro w4 hw'
  obtain ⟨⟨dq, osq⟩, hw''⟩ := hw'
  have b4 : Below W.heap.size W w4 := by rw [hw'']; exact below_regrown W dq osq
  have b5 : Below w.heap.size w w4 := b0.trans (b4.mono b0.size)
  have e0 : w4.cell? ⟨w.heap.size + 1, 0, none⟩ = some (.string { data := #[] }) := (b4.cell (by show w.heap.size + 1 < _; omega)).trans d0
  have e1 : w4.cell? ⟨w.heap.size + 1, 1, none⟩ = some (.string { data := #[] }) := (b4.cell (by show w.heap.size + 1 < _; omega)).trans d1
  have e2 : w4.cell? ⟨w.heap.size + 1, 2, none⟩ = some (.int .i64 0) := (b4.cell (by show w.heap.size + 1 < _; omega)).trans d2
  have ef : ∀ j, w4.frozen? ⟨w.heap.size + 1, j, none⟩ = false := fun j => (b4.frozen (by show w.heap.size + 1 < _; omega)).trans (df j)
  clear hw'' b4 r0 r1 r2 fa fb c0 c1 c2 d0 d1 d2 df
  go_wp2_with fail
  refine bodyPost_ret (v := .agg #[.string a, .string b, .int .i64 s]) (by simp [results, Tryz.results86, go_sem, e0, e1, e2] <;> rfl) rfl ⟨rfl, ?_⟩
  exact ((b5.setCell (by simp) _).setCell (by simp) _).setCell (by simp) _

theorem Fk.view_one (w : World) (a b : ByteArray) (s : Int) (t : TypeId) : Fk.View (w.alloc (.cells #[.string a, .string b, .int .i64 s] t)) (.slice (some ⟨w.heap.size, 0, none⟩) 1 1) [(a, b, s)] := by
  refine ⟨_, 1, rfl, fun _ => ⟨w.heap.size, 0, rfl, by simp, ?_, ?_, ?_⟩⟩
  · intro i hi
    have e : i = 0 := by simpa using hi
    subst e
    rw [Fk.cellTop _ _ _ _ _ rfl]; rfl
  · intro i hi
    have e : i = 0 := by simpa using hi
    subst e
    rw [Fk.cellTop _ _ _ _ _ rfl]; rfl
  · intro i hi
    have e : i = 0 := by simpa using hi
    subst e
    rw [Fk.cellTop _ _ _ _ _ rfl]; rfl
theorem Fk.shut_some (a : Addr) (n c : Nat) : Fk.Shut (.slice (some a) n c) := fun x _ _ h hx => by
  simp only [Value.slice.injEq] at h
  rw [← h.1] at hx
  cases hx
theorem Fk.map_below {w w' : World} {P : Program} {k : TypeId} {b n : Nat} {D : DataW Unit} (h : w.ownsMap P k Fk.rdFile b n D) (hB : Below w.heap.size w w') : w'.ownsMap P k Fk.rdFile b n D := h.kept (Fk.grownBy_below none hB) (by simp)

set_option maxHeartbeats 2000000 in
theorem toFsMap_any (b n : Nat) (D : DataW Unit) (M : List Fk.Fl) (w : World) (hm : w.ownsMap Tryz.prog 9 Fk.rdFile b n D) (hM : Fk.Mp D M) (hl : M.length ≤ 1000) (hfit : ∀ f ∈ M, f.1.size ≤ 1073741824 ∧ f.2.1.size ≤ 1073741824) :
    Calls Tryz.prog 57 #[.map (some b)] w fun e w' => (∃ u R, e = .returned (.agg #[u]) ∧ Fk.Own w' w.heap.size 75 u R ∧ Fk.Rises R ∧ (∀ f, f ∈ R ↔ f ∈ M)) ∧ Below w.heap.size w w' := by
  obtain ⟨i0, hi, hz0, hz1, hz2⟩ := info_parts infoFile
  have hzs : (Value.agg #[.string ByteArray.empty, .string ByteArray.empty, .int .i64 0]).cells.size = 3 := by kernel_rfl
  obtain ⟨W0, hW0⟩ : ∃ W0, W0 = w.alloc (.cells #[.slice none 0 0] 25) := ⟨_, rfl⟩
  have b0 : Below w.heap.size w W0 := by rw [hW0]; exact (Below.refl _ _).alloc (Nat.le_refl _) _
  have hs0 : W0.heap.size = w.heap.size + 1 := by rw [hW0]; simp
  have c0 : W0.cell? ⟨w.heap.size, 0, none⟩ = some (.slice none 0 0) := by rw [hW0, Fk.cellTop _ _ _ _ _ rfl]; rfl
  have f0 : W0.frozen? ⟨w.heap.size, 0, none⟩ = false := by rw [hW0, Fk.frozTop _ _ _ _ _ rfl]
  have m0 := Fk.map_below hm b0
  have HW0 := Fk.hide hW0
  have HS0 := Fk.hide hs0
  clear hs0
  have hsz : Maps.size D ≤ maxLen := by rw [hM.size]; unfold maxLen; omega
  have hby : Maps.size D * 16 ≤ 140737488355328 := by rw [hM.size]; omega
  clear hW0
  go_enter Tryz.func57, Tryz.ntmps57
  go_wp2_with fail
  rw [← HW0.out]
  refine (callsIn_wide.1 (Tryz.maps_Keys_85 _ _)).mono ?_
  rintro e w1 ⟨rfl, rfl⟩
  go_wp2_with fail
  refine (callsIn_wide.1 (Tryz.slices_Sorted_keys_84_85 b n D Fk.rdFile W0 m0 hsz hby)).mono ?_
  rintro e w2 ⟨v, ss, rfl, hS, hrow, hnil, hb2⟩
  have hb1 : Below w.heap.size w (W0.alloc (.cells #[.map (some b)] 52)) := b0.alloc b0.size _
  have B2 := Fk.hide (hb1.trans (hb2.mono hb1.size))
  have c2 : w2.cell? ⟨w.heap.size, 0, none⟩ = some (.slice none 0 0) := (hb2.cell (by have := HS0.out; simp; omega)).trans (by rw [Fk.cellOld _ _ _ _ (by have := HS0.out; omega)]; exact c0)
  have f2 : w2.frozen? ⟨w.heap.size, 0, none⟩ = false := (hb2.frozen (by have := HS0.out; simp; omega)).trans (by rw [Fk.frozOld _ _ _ _ (by have := HS0.out; omega)]; exact f0)
  have hs2 : w.heap.size + 1 ≤ w2.heap.size := by have h1 := hb2.size; have h2 := HS0.out; simp at h1; omega
  have m2 := Fk.hide (Fk.map_below (m0.alloc _) hb2)
  obtain ⟨T, hT⟩ : ∃ T, T = ss.mergeSort (fun x y => decide (x ≤ y)) := ⟨_, rfl⟩
  have hTp : T.Perm (strKeys D) := by rw [hT]; exact (List.mergeSort_perm _ _).trans hS
  have hTl : T.length = ss.length := by rw [hT, List.length_mergeSort]
  rw [← hT, ← hTl] at hrow
  have HR1 := Fk.hide (Fk.order_rises hM hS)
  have HR2 := Fk.hide (Fk.order_mem hM hS)
  rw [← hT] at HR1 HR2
  have hT12 : T.length ≤ 1000 := by
    have h1 : T.length = (strKeys D).length := hTp.length_eq
    have h2 : (strKeys D).length = Maps.size D := by
      obtain ⟨es, rfl⟩ := hM.tidy.isMap
      simp [strKeys, Maps.size]
    rw [hM.size] at h2
    omega
  clear hT hnil hS hTl hb2 c0 f0 m0 hm
  obtain ⟨va, vc, rfl⟩ : ∃ va vc, v = .slice va T.length vc := by
    rcases hrow.2 with ⟨h1, h2⟩ | ⟨g, c, _, h1, _⟩
    · exact ⟨none, 0, by rw [h1, h2]⟩
    · exact ⟨_, _, h1⟩
  have HV : Hid (∀ k, k < T.length → ∃ g, va = some ⟨g, 0, none⟩ ∧ g < w2.heap.size ∧ w2.cell? ⟨g, k, none⟩ = some (.string (Fk.nameOf (T.getD k [])))) := by
    intro k hk
    rcases hrow.2 with ⟨h1, h2⟩ | ⟨g, c, cur, h1, _, hg, _⟩
    · omega
    · have h1' : va = some ⟨g, 0, none⟩ := by simp only [Value.slice.injEq] at h1; exact h1.1
      subst h1'
      refine ⟨g, rfl, (Array.getElem?_eq_some_iff.1 hg).1, ?_⟩
      rw [World.ownsRow.cellAt hrow k (by omega)]
      simp [List.getElem?_map, List.getElem?_eq_getElem hk, List.getD, Fk.nameOf]
  clear hrow
  go_wp2_with fail
  go_loopw [3, 10] (fun lv i wr => ∃ k : Nat, k ≤ T.length ∧ i = .int .i64 k ∧ Fk.Own wr w2.heap.size 75 lv (Fk.inOrder M (T.take k)) ∧ Below w2.heap.size w2 wr) (fun _ i _ => T.length - (intOf i).toNat)
  case atStart => exact ⟨0, Nat.zero_le _, rfl, Fk.own_nil _ _ _, Below.refl _ _⟩
  case round =>
    obtain ⟨k, hk, rfl, ho, bel⟩ := hrel
    by_cases hlt : k < T.length
    · obtain ⟨g, rfl, hg, hq⟩ := HV.out k hlt
      have q0 : wr.cell? ⟨g, k, none⟩ = some (.string (Fk.nameOf (T.getD k []))) := (bel.cell (by exact hg)).trans hq
      obtain ⟨f, hget, hfm, hfn⟩ := Fk.order_get hM (hTp.mem_iff.1 (show T.getD k [] ∈ T by simp [List.getD, List.getElem?_eq_getElem hlt]))
      have hf2 := hfit f hfm
      have HE : Hid (Fk.inOrder M (T.take (k + 1)) = Fk.inOrder M (T.take k) ++ [f]) := by
        show _ = _
        have e1 : (T.getD k []) = T[k] := by simp [List.getD, List.getElem?_eq_getElem hlt]
        rw [e1] at hget
        have e2 : T.take (k + 1) = T.take k ++ [T[k]] := by rw [List.take_add_one, List.getElem?_eq_getElem hlt]; rfl
        unfold Fk.inOrder
        rw [e2, List.map_append]
        simp [hget]
      obtain ⟨nmk, hnm⟩ : ∃ x, Hid (x = Fk.nameOf (T.getD k [])) := ⟨_, rfl⟩
      rw [← hnm.out] at q0 hget
      rw [← hnm.out] at hfn
      have hkey := keyOf_string_mk Tryz.underlying9 (s := nmk) (by rw [← hfn]; unfold maxLen; omega)
      have mr := Fk.map_below m2.out bel
      have HFN := Fk.hide hfn
      clear hfn hq hfm
      obtain ⟨fa, fb, fs⟩ := f
      go_wp2_with (at_lookup; refine Fk.wpList_look_bare _ rfl _ _ 52 rfl 9 75 (string_keyed Tryz.underlying9) Tryz.underlying52 (zeroFile _) b n D M nmk _ rfl mr hM hget _ rfl hkey ?_)
      refine (copyFile_any _ _ _ _ hf2.1 hf2.2).mono ?_
      rintro e w3 ⟨rfl, b3⟩
      have o3 := ho.below b3
      have bl3 : Below w2.heap.size w2 w3 := bel.trans (b3.mono bel.size)
      clear b3 ho q0 mr hkey bel
      have hvw := Fk.view_one w3 fa fb fs 75
      have o4 := o3.below ((Below.refl w3.heap.size w3).alloc (Nat.le_refl _) (.cells #[.string fa, .string fb, .int .i64 fs] 75))
      have hlen : (Fk.inOrder M (T.take k)).length + [(fa, fb, fs)].length ≤ 1000000000 := by simp [Fk.inOrder]; omega
      have hbb : w2.heap.size ≤ (w3.alloc (.cells #[.string fa, .string fb, .int .i64 fs] 75)).heap.size := by have := bl3.size; simp; omega
      go_wp2_with (at_builtin; refine Fk.wpList_append_view _ rfl _ _ 23 rfl w2.heap.size 75 i0 _ Tryz.underlying23 hi hz0 hz1 hz2 hzs _ _ (Fk.inOrder M (T.take k)) [(fa, fb, fs)] rfl rfl o4 hvw (Fk.shut_some _ _ _) hlen hbb ?_; intro u w5 o5 g5)
      have b5 : RowKit.Below w2.heap.size w2 w5 := (bl3.alloc bl3.size _).grown g5 hbb (fun j hj => (World.ownsRow.lt o4 j (by exact hj)).1)
      rw [← HE.out] at o5
      clear g5 hvw o4 o3 bl3
      go_wp2_with fail
      go_roundw
      case rel => exact ⟨k + 1, by omega, by go_num, o5, b5⟩
      case measure => simp [intOf]; omega
    · have e : k = T.length := by omega
      subst e
      rw [List.take_length] at ho
      have c3 : wr.cell? ⟨w.heap.size, 0, none⟩ = some (.slice none 0 0) := (bel.cell (by show w.heap.size < _; omega)).trans c2
      have f3 : wr.frozen? ⟨w.heap.size, 0, none⟩ = false := (bel.frozen (by show w.heap.size < _; omega)).trans f2
      have B3 := Fk.hide (B2.out.trans (bel.mono B2.out.size))
      obtain ⟨ua, uc, rfl⟩ := ho.slice
      have HO := Fk.hide ho
      clear ho bel
      go_wp2_with fail
      refine bodyPost_ret (v := .agg #[.slice ua (Fk.inOrder M T).length uc]) (by simp [results, Tryz.results57, go_sem, c3] <;> rfl) rfl ⟨⟨_, _, rfl, ?_, HR1.out, HR2.out⟩, ?_⟩
      · exact Fk.Own.mono (ownsRow_setCell_below HO.out (by show w.heap.size < _; omega) _) (by omega)
      · exact B3.out.setCell (by simp) _
end Go.Proofs.YtojdfdlbdpdlkaaGreatDoor

namespace Go.Proofs.YtojdfdlbdpdlkaaGreatDoor
open Go.RowKit Go.Maps
open Go.WideMaps (keyOf_string_mk)
set_option linter.unusedVariables false
namespace Fk
/-- what is answered: by why the files are not opened (1, 2), or by what comes of them: a code, or files -/
def Ans (o : Nat) (res : Int ⊕ List Fl) (R : List Fl) (c : Int) : Prop :=
  (o = 1 ∧ R = [] ∧ c = 2) ∨ (o = 2 ∧ R = [] ∧ c = 1) ∨ (o = 0 ∧ ((∃ k, res = .inl k ∧ R = [] ∧ c = k) ∨ (∃ M, res = .inr M ∧ c = 0 ∧ Rises R ∧ ∀ g, g ∈ R ↔ g ∈ M)))
theorem Ans.one {o : Nat} {res : Int ⊕ List Fl} {R R' : List Fl} {c c' : Int} (h : Ans o res R c) (h' : Ans o res R' c') : R = R' ∧ c = c' := by
  rcases h with ⟨ho, hR, hc⟩ | ⟨ho, hR, hc⟩ | ⟨ho, h⟩ <;> rcases h' with ⟨ho', hR', hc'⟩ | ⟨ho', hR', hc'⟩ | ⟨ho', h'⟩
  · exact ⟨hR.trans hR'.symm, hc.trans hc'.symm⟩
  · omega
  · omega
  · omega
  · exact ⟨hR.trans hR'.symm, hc.trans hc'.symm⟩
  · omega
  · omega
  · omega
  · rcases h with ⟨k, e, hR, hc⟩ | ⟨M, e, hc, hr, hm⟩ <;> rcases h' with ⟨k', e', hR', hc'⟩ | ⟨M', e', hc', hr', hm'⟩
    · rw [e] at e'
      obtain rfl := Sum.inl.inj e'
      exact ⟨hR.trans hR'.symm, hc.trans hc'.symm⟩
    · rw [e] at e'; cases e'
    · rw [e] at e'; cases e'
    · rw [e] at e'
      obtain rfl := Sum.inr.inj e'
      exact ⟨rises_ext hr hr' (fun f => (hm f).trans (hm' f).symm), hc.trans hc'.symm⟩
theorem len_of_subset : ∀ {R M : List Fl}, Rises R → (∀ g, g ∈ R → g ∈ M) → R.length ≤ M.length := by
  intro R
  induction R with
  | nil => intro M _ _; exact Nat.zero_le _
  | cons f r ih =>
    intro M hr hs
    have hf := hs f (List.mem_cons_self ..)
    have hr' := List.pairwise_cons.1 hr
    have h1 := ih (M := without M f.1) hr'.2 (fun g hg => by
      refine List.mem_filter.2 ⟨hs g (List.mem_cons_of_mem _ hg), ?_⟩
      have := less_ne (hr'.1 g hg)
      simpa using fun e => this e.symm)
    have h2 : (without M f.1).length < M.length := by
      unfold without
      rw [List.length_filter_lt_length_iff_exists]
      exact ⟨f, hf, by simp⟩
    simp only [List.length_cons]
    omega
/-- an answer is short -/
theorem ans_short {o : Nat} {res : Int ⊕ List Fl} {R : List Fl} {c : Int} (h : Ans o res R c) (hr : o = 0 → ∀ M, res = .inr M → M.length ≤ 1000) : R.length ≤ 1048576 := by
  rcases h with ⟨_, hR, _⟩ | ⟨_, hR, _⟩ | ⟨h0, ⟨k, _, hR, _⟩ | ⟨M, e, _, h1, h2⟩⟩
  · simp [hR]
  · simp [hR]
  · simp [hR]
  · have := len_of_subset h1 (fun g hg => (h2 g).1 hg)
    have := hr h0 M e
    omega
def resSync (L : List Fl) (name : ByteArray) : Int ⊕ List Fl :=
  match get L name with
  | none => .inl 6
  | some f => .inr (without L name ++ [(f.1, f.2.1, (f.2.1.size : Int))])
def resRemove (L : List Fl) (name : ByteArray) : Int ⊕ List Fl :=
  match get L name with
  | none => .inl 6
  | some _ => .inr (without L name)
theorem right_fit {L : List Fl} (h : right L = true) : ∀ f ∈ L, f.1.size ≤ 20 ∧ f.2.1.size ≤ 3000 := by
  intro f hf
  obtain ⟨j, hj, e⟩ := List.getElem_of_mem hf
  have h2 := (right_inv L h).2 j hj
  simp only [step, Bool.and_eq_true] at h2
  have h3 := fok_inv h2.1
  have h4 : (nm L j) = f.1 ∧ dt L j = f.2.1 := by simp [nm, dt, List.getD, List.getElem?_eq_getElem hj, e]
  rw [h4.1, h4.2] at h3
  refine ⟨?_, h3.2.1⟩
  have := h3.1
  unfold Nm.nameB at this
  simp only [Bool.and_eq_true, decide_eq_true_eq] at this
  exact this.1.1.2
theorem opn_cases (L : List Fl) (T : List ByteArray) : opn L T = 0 ∨ opn L T = 1 ∨ opn L T = 2 := by
  unfold opn
  split
  · exact .inr (.inl rfl)
  · split
    · exact .inr (.inr rfl)
    · split
      · exact .inr (.inr rfl)
      · exact .inl rfl
theorem sync_short (L : List Fl) (name : ByteArray) : opn L [name] = 0 → ∀ M, resSync L name = .inr M → M.length ≤ 1000 := by
  intro h0 M hM
  have h12 := (right_inv L (opn_right L _ h0)).1
  have hw : (without L name).length ≤ L.length := List.length_filter_le _ _
  unfold resSync at hM
  split at hM
  · cases hM
  · obtain rfl := Sum.inr.inj hM
    simp; omega
theorem without_sub {L : List Fl} {name : ByteArray} : ∀ f ∈ without L name, f ∈ L := fun f hf => (List.mem_filter.1 hf).1
theorem without_len (L : List Fl) (name : ByteArray) : (without L name).length ≤ L.length := List.length_filter_le _ _
end Fk

set_option maxHeartbeats 1000000 in
theorem outcome_err (n : Nat) (mb : Option Nat) (a0 a1 a2 a3 a4 : Addr) (w : World) (hn : 1 ≤ n) (hn5 : n ≤ 5) (hE : Is.Errs w a0 a1 a2 a3 a4) :
    Calls Tryz.prog 29 #[.map mb, Is.er a0 a1 a2 a3 a4 n] w fun e w' => e = .returned (.agg #[.slice none 0 0, .int .i64 (Is.cd n)]) ∧ Below w.heap.size w w' := by
  obtain ⟨W, hW⟩ : ∃ W, W = w.alloc (.cells #[.slice none 0 0, .int .i64 0] 29) := ⟨_, rfl⟩
  have b0 : Below w.heap.size w W := by rw [hW]; exact (Below.refl _ _).alloc (Nat.le_refl _) _
  have c0 : W.cell? ⟨w.heap.size, 0, none⟩ = some (.slice none 0 0) := by rw [hW, Fk.cellTop _ _ _ _ _ rfl]; rfl
  have c1 : W.cell? ⟨w.heap.size, 1, none⟩ = some (.int .i64 0) := by rw [hW, Fk.cellTop _ _ _ _ _ rfl]; rfl
  have cf : ∀ j, W.frozen? ⟨w.heap.size, j, none⟩ = false := fun j => by rw [hW, Fk.frozTop _ _ _ _ _ rfl]
  have HC := Is.code_any n a0 a1 a2 a3 a4 W (hE.below b0)
  have HW := Fk.hide hW
  have HB : Hid (∀ x y, Below w.heap.size w ((W.setCell ⟨w.heap.size, 0, none⟩ x).setCell ⟨w.heap.size, 1, none⟩ y)) := fun x y => (b0.setCell (by simp) _).setCell (by simp) _
  clear hW
  have hne : ∃ v, Is.er a0 a1 a2 a3 a4 n = .iface 168 v := by
    match n, hn with
    | 1, _ => exact ⟨_, rfl⟩
    | 2, _ => exact ⟨_, rfl⟩
    | 3, _ => exact ⟨_, rfl⟩
    | 4, _ => exact ⟨_, rfl⟩
    | (k + 5), _ => exact ⟨_, rfl⟩
  obtain ⟨v, hv⟩ := hne
  rw [hv] at HC ⊢
  have HCH := Fk.hide HC
  clear HC hv
  go_enter Tryz.func29, Tryz.ntmps29
  go_wp2_with fail
  rw [← HW.out]
  refine HCH.out.mono ?_
  rintro e w1 ⟨rfl, rfl⟩
  go_wp2_with fail
  refine bodyPost_ret (v := .agg #[.slice none 0 0, .int .i64 (Is.cd n)]) (by simp [results, Tryz.results29, go_sem, c0, c1] <;> rfl) rfl ⟨rfl, HB.out _ _⟩

set_option maxHeartbeats 1000000 in
theorem outcome_ok (b n : Nat) (D : DataW Unit) (M : List Fk.Fl) (w : World) (hm : w.ownsMap Tryz.prog 9 Fk.rdFile b n D) (hM : Fk.Mp D M) (hl : M.length ≤ 1000) (hfit : ∀ f ∈ M, f.1.size ≤ 1073741824 ∧ f.2.1.size ≤ 1073741824) :
    Calls Tryz.prog 29 #[.map (some b), .nilIface] w fun e w' => (∃ u R, e = .returned (.agg #[u, .int .i64 0]) ∧ Fk.Own w' w.heap.size 75 u R ∧ Fk.Rises R ∧ (∀ f, f ∈ R ↔ f ∈ M)) ∧ Below w.heap.size w w' := by
  obtain ⟨W, hW⟩ : ∃ W, W = w.alloc (.cells #[.slice none 0 0, .int .i64 0] 29) := ⟨_, rfl⟩
  have b0 : Below w.heap.size w W := by rw [hW]; exact (Below.refl _ _).alloc (Nat.le_refl _) _
  have hsz : W.heap.size = w.heap.size + 1 := by rw [hW]; simp
  have c0 : W.cell? ⟨w.heap.size, 0, none⟩ = some (.slice none 0 0) := by rw [hW, Fk.cellTop _ _ _ _ _ rfl]; rfl
  have c1 : W.cell? ⟨w.heap.size, 1, none⟩ = some (.int .i64 0) := by rw [hW, Fk.cellTop _ _ _ _ _ rfl]; rfl
  have cf : ∀ j, W.frozen? ⟨w.heap.size, j, none⟩ = false := fun j => by rw [hW, Fk.frozTop _ _ _ _ _ rfl]
  have m0 := Fk.map_below hm b0
  have HW := Fk.hide hW
  clear hW hm
  go_enter Tryz.func29, Tryz.ntmps29
  go_wp2_with fail
  rw [← HW.out]
  refine (toFsMap_any b n D M _ m0 hM hl hfit).mono ?_
  rintro e w1 ⟨⟨u, R, rfl, ho, hr, hmem⟩, b1⟩
  have d0 : w1.cell? ⟨w.heap.size, 0, none⟩ = some (.slice none 0 0) := (b1.cell (by show w.heap.size < _; omega)).trans c0
  have d1 : w1.cell? ⟨w.heap.size, 1, none⟩ = some (.int .i64 0) := (b1.cell (by show w.heap.size < _; omega)).trans c1
  have df : ∀ j, w1.frozen? ⟨w.heap.size, j, none⟩ = false := fun j => (b1.frozen (by show w.heap.size < _; omega)).trans (cf j)
  have B1 := Fk.hide (b0.trans (b1.mono b0.size))
  have HO := Fk.hide ho
  have HR := Fk.hide hr
  have HM := Fk.hide hmem
  obtain ⟨ua, uc, rfl⟩ := ho.slice
  clear ho hr hmem b1 c0 c1 cf m0
  go_wp2_with fail
  refine bodyPost_ret (v := .agg #[.slice ua R.length uc, .int .i64 0]) (by simp [results, Tryz.results29, go_sem, d0, d1] <;> rfl) rfl ⟨⟨_, R, rfl, ?_, HR.out, HM.out⟩, ?_⟩
  · exact Fk.Own.mono (ownsRow_setCell_below (ownsRow_setCell_below HO.out (by show w.heap.size < _; omega) _) (by show w.heap.size < _; omega) _) (by omega)
  · exact (B1.out.setCell (by simp) _).setCell (by simp) _
end Go.Proofs.YtojdfdlbdpdlkaaGreatDoor
