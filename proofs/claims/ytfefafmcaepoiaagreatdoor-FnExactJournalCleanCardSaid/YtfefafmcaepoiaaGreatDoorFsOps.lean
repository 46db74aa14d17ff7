/- The walks of the program's outcome and of what it does to a map of files: sync, remove. -/
import Derived.Test.YtfefafmcaepoiaaGreatDoorJoined12
namespace Go.Proofs.YtfefafmcaepoiaaGreatDoor
open Go.RowKit Go.Maps
open Go.WideMaps (keyOf_string_mk)
set_option linter.unusedVariables false
namespace Fk
/-- what is answered: by why the files are not opened (1, 2), or by what comes of them: a code, or files -/
def Ans (o : Nat) (res : Int ⊕ List Fl) (R : List Fl) (c : Int) : Prop :=
  (o = 1 ∧ R = [] ∧ c = 2) ∨ (o = 2 ∧ R = [] ∧ c = 1) ∨ (o = 0 ∧ ((∃ k, res = .inl k ∧ R = [] ∧ c = k) ∨ (∃ M, res = .inr M ∧ c = 0 ∧ Rises R ∧ ∀ g, g ∈ R ↔ g ∈ M)))
theorem Ans.one {o : Nat} {res : Int ⊕ List Fl} {R R' : List Fl} {c c' : Int} (h : Ans o res R c) (h' : Ans o res R' c') : R = R' ∧ c = c' := by
  rcases h with ⟨ho, hR, hc⟩ | ⟨ho, hR, hc⟩ | ⟨ho, h⟩ <;> rcases h' with ⟨ho', hR', hc'⟩ | ⟨ho', hR', hc'⟩ | ⟨ho', h'⟩
  · exact ⟨hR.trans hR'.symm, hc.trans hc'.symm⟩
  · omega
  · omega
  · omega
  · exact ⟨hR.trans hR'.symm, hc.trans hc'.symm⟩
  · omega
  · omega
  · omega
  · rcases h with ⟨k, e, hR, hc⟩ | ⟨M, e, hc, hr, hm⟩ <;> rcases h' with ⟨k', e', hR', hc'⟩ | ⟨M', e', hc', hr', hm'⟩
    · rw [e] at e'
      obtain rfl := Sum.inl.inj e'
      exact ⟨hR.trans hR'.symm, hc.trans hc'.symm⟩
    · rw [e] at e'; cases e'
    · rw [e] at e'; cases e'
    · rw [e] at e'
      obtain rfl := Sum.inr.inj e'
      exact ⟨rises_ext hr hr' (fun f => (hm f).trans (hm' f).symm), hc.trans hc'.symm⟩
theorem len_of_subset : ∀ {R M : List Fl}, Rises R → (∀ g, g ∈ R → g ∈ M) → R.length ≤ M.length := by
  intro R
  induction R with
  | nil => intro M _ _; exact Nat.zero_le _
  | cons f r ih =>
    intro M hr hs
    have hf := hs f (List.mem_cons_self ..)
    have hr' := List.pairwise_cons.1 hr
    have h1 := ih (M := without M f.1) hr'.2 (fun g hg => by
      refine List.mem_filter.2 ⟨hs g (List.mem_cons_of_mem _ hg), ?_⟩
      have := less_ne (hr'.1 g hg)
      simpa using fun e => this e.symm)
    have h2 : (without M f.1).length < M.length := by
      unfold without
      rw [List.length_filter_lt_length_iff_exists]
      exact ⟨f, hf, by simp⟩
    simp only [List.length_cons]
    omega
/-- an answer is short -/
theorem ans_short {o : Nat} {res : Int ⊕ List Fl} {R : List Fl} {c : Int} (h : Ans o res R c) (hr : o = 0 → ∀ M, res = .inr M → M.length ≤ 1000) : R.length ≤ 1048576 := by
  rcases h with ⟨_, hR, _⟩ | ⟨_, hR, _⟩ | ⟨h0, ⟨k, _, hR, _⟩ | ⟨M, e, _, h1, h2⟩⟩
  · simp [hR]
  · simp [hR]
  · simp [hR]
  · have := len_of_subset h1 (fun g hg => (h2 g).1 hg)
    have := hr h0 M e
    omega
def resSync (L : List Fl) (name : ByteArray) : Int ⊕ List Fl :=
  match get L name with
  | none => .inl 6
  | some f => .inr (without L name ++ [(f.1, f.2.1, (f.2.1.size : Int))])
def resRemove (L : List Fl) (name : ByteArray) : Int ⊕ List Fl :=
  match get L name with
  | none => .inl 6
  | some _ => .inr (without L name)
theorem right_fit {L : List Fl} (h : right L = true) : ∀ f ∈ L, f.1.size ≤ 20 ∧ f.2.1.size ≤ 3000 := by
  intro f hf
  obtain ⟨j, hj, e⟩ := List.getElem_of_mem hf
  have h2 := (right_inv L h).2 j hj
  simp only [step, Bool.and_eq_true] at h2
  have h3 := fok_inv h2.1
  have h4 : (nm L j) = f.1 ∧ dt L j = f.2.1 := by simp [nm, dt, List.getD, List.getElem?_eq_getElem hj, e]
  rw [h4.1, h4.2] at h3
  refine ⟨?_, h3.2.1⟩
  have := h3.1
  unfold Nm.nameB at this
  simp only [Bool.and_eq_true, decide_eq_true_eq] at this
  exact this.1.1.2
theorem opn_cases (L : List Fl) (T : List ByteArray) : opn L T = 0 ∨ opn L T = 1 ∨ opn L T = 2 := by
  unfold opn
  split
  · exact .inr (.inl rfl)
  · split
    · exact .inr (.inr rfl)
    · split
      · exact .inr (.inr rfl)
      · exact .inl rfl
theorem sync_short (L : List Fl) (name : ByteArray) : opn L [name] = 0 → ∀ M, resSync L name = .inr M → M.length ≤ 1000 := by
  intro h0 M hM
  have h12 := (right_inv L (opn_right L _ h0)).1
  have hw : (without L name).length ≤ L.length := List.length_filter_le _ _
  unfold resSync at hM
  split at hM
  · cases hM
  · obtain rfl := Sum.inr.inj hM
    simp; omega
theorem without_sub {L : List Fl} {name : ByteArray} : ∀ f ∈ without L name, f ∈ L := fun f hf => (List.mem_filter.1 hf).1
theorem without_len (L : List Fl) (name : ByteArray) : (without L name).length ≤ L.length := List.length_filter_le _ _
end Fk

set_option maxHeartbeats 1000000 in
theorem outcome_err (n : Nat) (mb : Option Nat) (a0 a1 a2 a3 a4 : Addr) (w : World) (hn : 1 ≤ n) (hn5 : n ≤ 5) (hE : Is.Errs w a0 a1 a2 a3 a4) :
    Calls Tryz.prog 28 #[.map mb, Is.er a0 a1 a2 a3 a4 n] w fun e w' => e = .returned (.agg #[.slice none 0 0, .int .i64 (Is.cd n)]) ∧ Below w.heap.size w w' := by
  obtain ⟨W, hW⟩ : ∃ W, W = w.alloc (.cells #[.slice none 0 0, .int .i64 0] 30) := ⟨_, rfl⟩
  have b0 : Below w.heap.size w W := by rw [hW]; exact (Below.refl _ _).alloc (Nat.le_refl _) _
  have c0 : W.cell? ⟨w.heap.size, 0, none⟩ = some (.slice none 0 0) := by rw [hW, Fk.cellTop _ _ _ _ _ rfl]; rfl
  have c1 : W.cell? ⟨w.heap.size, 1, none⟩ = some (.int .i64 0) := by rw [hW, Fk.cellTop _ _ _ _ _ rfl]; rfl
  have cf : ∀ j, W.frozen? ⟨w.heap.size, j, none⟩ = false := fun j => by rw [hW, Fk.frozTop _ _ _ _ _ rfl]
  have HC := Is.code_any n a0 a1 a2 a3 a4 W (hE.below b0)
  have HW := Fk.hide hW
  have HB : Hid (∀ x y, Below w.heap.size w ((W.setCell ⟨w.heap.size, 0, none⟩ x).setCell ⟨w.heap.size, 1, none⟩ y)) := fun x y => (b0.setCell (by simp) _).setCell (by simp) _
  clear hW
  have hne : ∃ v, Is.er a0 a1 a2 a3 a4 n = .iface 166 v := by
    match n, hn with
    | 1, _ => exact ⟨_, rfl⟩
    | 2, _ => exact ⟨_, rfl⟩
    | 3, _ => exact ⟨_, rfl⟩
    | 4, _ => exact ⟨_, rfl⟩
    | (k + 5), _ => exact ⟨_, rfl⟩
  obtain ⟨v, hv⟩ := hne
  rw [hv] at HC ⊢
  have HCH := Fk.hide HC
  clear HC hv
  go_enter Tryz.func28, Tryz.ntmps28
  go_wp2_with fail
  rw [← HW.out]
  refine HCH.out.mono ?_
  rintro e w1 ⟨rfl, rfl⟩
  go_wp2_with fail
  refine bodyPost_ret (v := .agg #[.slice none 0 0, .int .i64 (Is.cd n)]) (by simp [results, Tryz.results28, go_sem, c0, c1] <;> rfl) rfl ⟨rfl, HB.out _ _⟩

set_option maxHeartbeats 1000000 in
theorem outcome_ok (b n : Nat) (D : DataW Unit) (M : List Fk.Fl) (w : World) (hm : w.ownsMap Tryz.prog 9 Fk.rdFile b n D) (hM : Fk.Mp D M) (hl : M.length ≤ 1000) (hfit : ∀ f ∈ M, f.1.size ≤ 1073741824 ∧ f.2.1.size ≤ 1073741824) :
    Calls Tryz.prog 28 #[.map (some b), .nilIface] w fun e w' => (∃ u R, e = .returned (.agg #[u, .int .i64 0]) ∧ Fk.Own w' w.heap.size 73 u R ∧ Fk.Rises R ∧ (∀ f, f ∈ R ↔ f ∈ M)) ∧ Below w.heap.size w w' := by
  obtain ⟨W, hW⟩ : ∃ W, W = w.alloc (.cells #[.slice none 0 0, .int .i64 0] 30) := ⟨_, rfl⟩
  have b0 : Below w.heap.size w W := by rw [hW]; exact (Below.refl _ _).alloc (Nat.le_refl _) _
  have hsz : W.heap.size = w.heap.size + 1 := by rw [hW]; simp
  have c0 : W.cell? ⟨w.heap.size, 0, none⟩ = some (.slice none 0 0) := by rw [hW, Fk.cellTop _ _ _ _ _ rfl]; rfl
  have c1 : W.cell? ⟨w.heap.size, 1, none⟩ = some (.int .i64 0) := by rw [hW, Fk.cellTop _ _ _ _ _ rfl]; rfl
  have cf : ∀ j, W.frozen? ⟨w.heap.size, j, none⟩ = false := fun j => by rw [hW, Fk.frozTop _ _ _ _ _ rfl]
  have m0 := Fk.map_below hm b0
  have HW := Fk.hide hW
  clear hW hm
  go_enter Tryz.func28, Tryz.ntmps28
  go_wp2_with fail
  rw [← HW.out]
  refine (toFsMap_any b n D M _ m0 hM hl hfit).mono ?_
  rintro e w1 ⟨⟨u, R, rfl, ho, hr, hmem⟩, b1⟩
  have d0 : w1.cell? ⟨w.heap.size, 0, none⟩ = some (.slice none 0 0) := (b1.cell (by show w.heap.size < _; omega)).trans c0
  have d1 : w1.cell? ⟨w.heap.size, 1, none⟩ = some (.int .i64 0) := (b1.cell (by show w.heap.size < _; omega)).trans c1
  have df : ∀ j, w1.frozen? ⟨w.heap.size, j, none⟩ = false := fun j => (b1.frozen (by show w.heap.size < _; omega)).trans (cf j)
  have B1 := Fk.hide (b0.trans (b1.mono b0.size))
  have HO := Fk.hide ho
  have HR := Fk.hide hr
  have HM := Fk.hide hmem
  obtain ⟨ua, uc, rfl⟩ := ho.slice
  clear ho hr hmem b1 c0 c1 cf m0
  go_wp2_with fail
  refine bodyPost_ret (v := .agg #[.slice ua R.length uc, .int .i64 0]) (by simp [results, Tryz.results28, go_sem, d0, d1] <;> rfl) rfl ⟨⟨_, R, rfl, ?_, HR.out, HM.out⟩, ?_⟩
  · exact Fk.Own.mono (ownsRow_setCell_below (ownsRow_setCell_below HO.out (by show w.heap.size < _; omega) _) (by show w.heap.size < _; omega) _) (by omega)
  · exact (B1.out.setCell (by simp) _).setCell (by simp) _
end Go.Proofs.YtfefafmcaepoiaaGreatDoor
