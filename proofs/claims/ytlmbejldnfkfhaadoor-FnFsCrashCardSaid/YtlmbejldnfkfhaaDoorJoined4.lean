/- The walk of the comparison of two answers with a text. The walks of FsRead, the program's and the specification's: both answer 'rdOf'. Plain mathematics of files: what is read behind a change, and what is as it was but for the names that it touches. No function of the program here. Plain mathematics of a crash: what is left of right files is right, each has its synced beginning; of a synced file all is there; a cut file has just that many bytes. No function of the program here. -/
import Derived.Test.YtlmbejldnfkfhaaDoorProg
import Derived.WalkKit
import Derived.WalkSpells
import Derived.WalkLawsBesides
import Derived.Test.YtlmbejldnfkfhaaDoorFsBegin
import Derived.Test.YtlmbejldnfkfhaaDoorCopyWalks
import Derived.Test.YtlmbejldnfkfhaaDoorFsMore
import Derived.Test.YtlmbejldnfkfhaaDoorJoined3
import Derived.Test.YtlmbejldnfkfhaaDoorFsKeys
import Derived.Test.YtlmbejldnfkfhaaDoorJoined11
import Derived.Test.YtlmbejldnfkfhaaDoorJoined13
namespace Go.Proofs.YtlmbejldnfkfhaaDoor
open Go.RowKit
set_option linter.unusedVariables false

/-- an answer with a text -/
def textOut (r : ByteArray × Int × Int) : Value := .agg #[.string r.1, .int .i64 r.2.1, .int .i64 r.2.2]

end Go.Proofs.YtlmbejldnfkfhaaDoor

namespace Go.Proofs.YtlmbejldnfkfhaaDoor
open Go.RowKit
set_option linter.unusedVariables false
/-- what is read of a name -/
def Fk.rdOf (L : List Fk.Fl) (name : ByteArray) : ByteArray × Int × Int :=
  if Fk.opn L [name] = 1 then (ByteArray.empty, 0, 2) else if Fk.opn L [name] = 2 then (ByteArray.empty, 0, 1) else
    match Fk.get L name with
    | some f => (f.2.1, 0, 0)
    | none => (ByteArray.empty, 0, 6)
theorem Fk.opn_le (L : List Fk.Fl) (T : List ByteArray) : Fk.opn L T = 0 ∨ Fk.opn L T = 1 ∨ Fk.opn L T = 2 := by
  unfold Fk.opn
  split
  · exact .inr (.inl rfl)
  · split
    · exact .inr (.inr rfl)
    · split
      · exact .inr (.inr rfl)
      · exact .inl rfl

set_option maxHeartbeats 2000000 in
theorem fsRead_impl (v : Value) (L : List Fk.Fl) (name : ByteArray) (a0 a1 a2 a3 a4 : Addr) (w : World) (hv : Fk.View w v L) (hL : Fk.Fits L) (hl : L.length ≤ maxLen) (hn : name.size ≤ maxLen) (hE : Is.Errs w a0 a1 a2 a3 a4) :
    Calls Tryd.prog 24 #[.agg #[v], .string name] w fun e w' => e = .returned (textOut (Fk.rdOf L name)) ∧ Below w.heap.size w w' := by
  obtain ⟨W, hW⟩ : ∃ W, W = ((w.alloc (.cells #[v] 25)).alloc (.cells #[.string { data := #[] }, .int .i64 0, .int .i64 0] 44)).alloc (.cells #[.string name] 9) := ⟨_, rfl⟩
  have b0 : Below w.heap.size w W := by
    rw [hW]
    repeat (first | exact Below.refl _ _ | refine Below.alloc ?_ (by simp <;> omega) _)
  have hsz : W.heap.size = w.heap.size + 3 := by rw [hW]; simp
  have q0 : W.cell? ⟨w.heap.size + 1, 0, none⟩ = some (.string { data := #[] }) := by rw [hW, Fk.cellOld _ _ _ _ (by simp), Fk.cellTop _ _ _ _ _ (by simp)]; rfl
  have q1 : W.cell? ⟨w.heap.size + 1, 1, none⟩ = some (.int .i64 0) := by rw [hW, Fk.cellOld _ _ _ _ (by simp), Fk.cellTop _ _ _ _ _ (by simp)]; rfl
  have q2 : W.cell? ⟨w.heap.size + 1, 2, none⟩ = some (.int .i64 0) := by rw [hW, Fk.cellOld _ _ _ _ (by simp), Fk.cellTop _ _ _ _ _ (by simp)]; rfl
  have f0 : ∀ j, W.frozen? ⟨w.heap.size + 1, j, none⟩ = false := fun j => by rw [hW, Fk.frozOld _ _ _ _ (by simp), Fk.frozTop _ _ _ _ _ (by simp)]
  have qn : W.cell? ⟨w.heap.size + 2, 0, none⟩ = some (.string name) := by rw [hW, Fk.cellTop _ _ _ _ _ (by simp)]; rfl
  have hv' := hv.below b0
  have hE' := hE.below b0
  have HW := Fk.hide hW
  clear hW hv hE
  have hvW := hv'
  obtain ⟨a, cap, rfl, hs⟩ := hv'
  clear hs
  go_enter Tryd.func24, Tryd.ntmps24
  go_wp2_with fail
  rw [← HW.out]
  refine (open_any _ L [name] (w.heap.size + 2) a0 a1 a2 a3 a4 _ hvW hL hl (by simp) ?_ (by omega) ?_ hE').mono ?_
  · intro k
    match k with
    | 0 => exact hn
    | k + 1 => exact Nat.zero_le _
  · intro k hk
    have e : k = 0 := by simpa using hk
    subst e
    exact qn
  rintro e w1 ⟨h1, b1⟩
  have B1 := Fk.hide (b0.trans (b1.mono b0.size))
  have p0 : w1.cell? ⟨w.heap.size + 1, 0, none⟩ = some (.string { data := #[] }) := (b1.cell (by show w.heap.size + 1 < _; omega)).trans q0
  have p1 : w1.cell? ⟨w.heap.size + 1, 1, none⟩ = some (.int .i64 0) := (b1.cell (by show w.heap.size + 1 < _; omega)).trans q1
  have p2 : w1.cell? ⟨w.heap.size + 1, 2, none⟩ = some (.int .i64 0) := (b1.cell (by show w.heap.size + 1 < _; omega)).trans q2
  have pf : ∀ j, w1.frozen? ⟨w.heap.size + 1, j, none⟩ = false := fun j => (b1.frozen (by show w.heap.size + 1 < _; omega)).trans (f0 j)
  have E1 := Fk.hide (hE'.below b1)
  have hsz1 : w.heap.size + 3 ≤ w1.heap.size := by have := b1.size; omega
  clear b1 q0 q1 q2 f0 hvW qn hE'
  rcases h1 with ⟨h, b, D, rfl, hown, hM, hb⟩ | ⟨h, rfl⟩
  · have HO := Fk.hide h
    have HM := Fk.hide hM
    clear h hM
    go_wp2_with fail
    refine (find_any b L.length D L name a0 a1 a2 a3 a4 _ hown HM.out hn E1.out).mono ?_
    rintro e w2 ⟨h2, b2⟩
    have B2 := Fk.hide (B1.out.trans (b2.mono B1.out.size))
    have E2 := Fk.hide (E1.out.below b2)
    have s0 : w2.cell? ⟨w.heap.size + 1, 0, none⟩ = some (.string { data := #[] }) := (b2.cell (by show w.heap.size + 1 < _; omega)).trans p0
    have s1 : w2.cell? ⟨w.heap.size + 1, 1, none⟩ = some (.int .i64 0) := (b2.cell (by show w.heap.size + 1 < _; omega)).trans p1
    have s2 : w2.cell? ⟨w.heap.size + 1, 2, none⟩ = some (.int .i64 0) := (b2.cell (by show w.heap.size + 1 < _; omega)).trans p2
    have sf : ∀ j, w2.frozen? ⟨w.heap.size + 1, j, none⟩ = false := fun j => (b2.frozen (by show w.heap.size + 1 < _; omega)).trans (pf j)
    have hsz2 : w.heap.size + 3 ≤ w2.heap.size := by have := b2.size; omega
    clear b2 p0 p1 p2 pf hown E1
    rcases h2 with ⟨f, hg, rfl⟩ | ⟨hg, rfl⟩
    · have HR : Hid (Fk.rdOf L name = (f.2.1, 0, 0)) := by show _ = _; simp [Fk.rdOf, HO.out, hg]
      have hf : f.2.1.size ≤ 3000 := by
        have h1 := (Fk.get_some hg).1
        obtain ⟨j, hj, e⟩ := List.getElem_of_mem h1
        have h2 := (Fk.right_inv L (Fk.opn_right L [name] HO.out)).2 j hj
        simp only [Fk.step, Bool.and_eq_true] at h2
        have h3 := (Fk.fok_inv h2.1).2.1
        simpa [Fk.dt, List.getD, List.getElem?_eq_getElem hj, e] using h3
      clear hg
      obtain ⟨fa, fb, fc⟩ := f
      obtain ⟨W3, hW3⟩ : ∃ W3, W3 = w2.alloc (.cells #[.string fa, .string fb, .int .i64 fc] 48) := ⟨_, rfl⟩
      have b3 : Below w2.heap.size w2 W3 := by rw [hW3]; exact (Below.refl _ _).alloc (Nat.le_refl _) _
      have HW3 := Fk.hide hW3
      have E3 := Fk.hide (E2.out.below b3)
      have B3 := Fk.hide (B2.out.trans (b3.mono B2.out.size))
      have u0 : W3.cell? ⟨w.heap.size + 1, 0, none⟩ = some (.string { data := #[] }) := (b3.cell (by show w.heap.size + 1 < _; omega)).trans s0
      have u1 : W3.cell? ⟨w.heap.size + 1, 1, none⟩ = some (.int .i64 0) := (b3.cell (by show w.heap.size + 1 < _; omega)).trans s1
      have u2 : W3.cell? ⟨w.heap.size + 1, 2, none⟩ = some (.int .i64 0) := (b3.cell (by show w.heap.size + 1 < _; omega)).trans s2
      have uf : ∀ j, W3.frozen? ⟨w.heap.size + 1, j, none⟩ = false := fun j => (b3.frozen (by show w.heap.size + 1 < _; omega)).trans (sf j)
      have hsz3 : w.heap.size + 3 ≤ W3.heap.size := by have := b3.size; omega
      clear hW3 b3 E2
      go_wp2_with fail
      rw [← HW3.out]
      clear s0 s1 s2 sf
      refine (copyText_any _ _ (by omega)).mono ?_
      rintro e w4 ⟨rfl, b4⟩
      have E4 := Fk.hide (E3.out.below b4)
      have B4 := Fk.hide (B3.out.trans (b4.mono B3.out.size))
      have x0 : w4.cell? ⟨w.heap.size + 1, 0, none⟩ = some (.string { data := #[] }) := (b4.cell (by show w.heap.size + 1 < _; omega)).trans u0
      have x1 : w4.cell? ⟨w.heap.size + 1, 1, none⟩ = some (.int .i64 0) := (b4.cell (by show w.heap.size + 1 < _; omega)).trans u1
      have x2 : w4.cell? ⟨w.heap.size + 1, 2, none⟩ = some (.int .i64 0) := (b4.cell (by show w.heap.size + 1 < _; omega)).trans u2
      have xf : ∀ j, w4.frozen? ⟨w.heap.size + 1, j, none⟩ = false := fun j => (b4.frozen (by show w.heap.size + 1 < _; omega)).trans (uf j)
      clear b4 u0 u1 u2 uf E3
      have HC := Is.code_any 0 a0 a1 a2 a3 a4 w4 E4.out
      unfold Is.er Is.cd at HC
      go_wp2_with fail
      refine HC.mono ?_
      rintro e w5 ⟨rfl, rfl⟩
      have HB3 : Hid (∀ x y z, Below w.heap.size w (((w5.setCell ⟨w.heap.size + 1, 0, none⟩ x).setCell ⟨w.heap.size + 1, 1, none⟩ y).setCell ⟨w.heap.size + 1, 2, none⟩ z)) := fun x y z => ((B4.out.setCell (by simp) _).setCell (by simp) _).setCell (by simp) _
      clear HC
      go_wp2_with fail
      refine bodyPost_ret (v := textOut (fb, 0, 0)) (by simp [results, Tryd.results24, go_sem, textOut, x0, x1, x2] <;> rfl) rfl ⟨by rw [HR.out], HB3.out _ _ _⟩
    · have HR : Hid (Fk.rdOf L name = (ByteArray.empty, 0, 6)) := by show _ = _; simp [Fk.rdOf, HO.out, hg]
      clear hg
      obtain ⟨W3, hW3⟩ : ∃ W3, W3 = w2.alloc (.cells #[.string ByteArray.empty, .string ByteArray.empty, .int .i64 0] 48) := ⟨_, rfl⟩
      have b3 : Below w2.heap.size w2 W3 := by rw [hW3]; exact (Below.refl _ _).alloc (Nat.le_refl _) _
      unfold Is.er
      have HW3 := Fk.hide hW3
      have E3 := Fk.hide (E2.out.below b3)
      have B3 := Fk.hide (B2.out.trans (b3.mono B2.out.size))
      have u0 : W3.cell? ⟨w.heap.size + 1, 0, none⟩ = some (.string { data := #[] }) := (b3.cell (by show w.heap.size + 1 < _; omega)).trans s0
      have u1 : W3.cell? ⟨w.heap.size + 1, 1, none⟩ = some (.int .i64 0) := (b3.cell (by show w.heap.size + 1 < _; omega)).trans s1
      have u2 : W3.cell? ⟨w.heap.size + 1, 2, none⟩ = some (.int .i64 0) := (b3.cell (by show w.heap.size + 1 < _; omega)).trans s2
      have uf : ∀ j, W3.frozen? ⟨w.heap.size + 1, j, none⟩ = false := fun j => (b3.frozen (by show w.heap.size + 1 < _; omega)).trans (sf j)
      have hsz3 : w.heap.size + 3 ≤ W3.heap.size := by have := b3.size; omega
      clear hW3 b3 E2
      go_wp2_with fail
      rw [← HW3.out]
      clear s0 s1 s2 sf
      refine (copyText_any _ _ (by decide)).mono ?_
      rintro e w4 ⟨rfl, b4⟩
      have E4 := Fk.hide (E3.out.below b4)
      have B4 := Fk.hide (B3.out.trans (b4.mono B3.out.size))
      have x0 : w4.cell? ⟨w.heap.size + 1, 0, none⟩ = some (.string { data := #[] }) := (b4.cell (by show w.heap.size + 1 < _; omega)).trans u0
      have x1 : w4.cell? ⟨w.heap.size + 1, 1, none⟩ = some (.int .i64 0) := (b4.cell (by show w.heap.size + 1 < _; omega)).trans u1
      have x2 : w4.cell? ⟨w.heap.size + 1, 2, none⟩ = some (.int .i64 0) := (b4.cell (by show w.heap.size + 1 < _; omega)).trans u2
      have xf : ∀ j, w4.frozen? ⟨w.heap.size + 1, j, none⟩ = false := fun j => (b4.frozen (by show w.heap.size + 1 < _; omega)).trans (uf j)
      clear b4 u0 u1 u2 uf E3
      have HC := Is.code_any 3 a0 a1 a2 a3 a4 w4 E4.out
      unfold Is.er Is.cd at HC
      go_wp2_with fail
      refine HC.mono ?_
      rintro e w5 ⟨rfl, rfl⟩
      have HB3 : Hid (∀ x y z, Below w.heap.size w (((w5.setCell ⟨w.heap.size + 1, 0, none⟩ x).setCell ⟨w.heap.size + 1, 1, none⟩ y).setCell ⟨w.heap.size + 1, 2, none⟩ z)) := fun x y z => ((B4.out.setCell (by simp) _).setCell (by simp) _).setCell (by simp) _
      clear HC
      go_wp2_with fail
      refine bodyPost_ret (v := textOut (ByteArray.empty, 0, 6)) (by simp [results, Tryd.results24, go_sem, textOut, x0, x1, x2] <;> rfl) rfl ⟨by rw [HR.out], HB3.out _ _ _⟩
  · rcases Fk.opn_le L [name] with h0 | h1 | h2
    · exact absurd h0 h
    · have HR : Hid (Fk.rdOf L name = (ByteArray.empty, 0, 2)) := by show _ = _; simp [Fk.rdOf, h1]
      have HC := Is.code_any 1 a0 a1 a2 a3 a4 w1 E1.out
      rw [h1]
      unfold Is.er Is.cd at HC
      unfold Is.er
      clear h h1
      go_wp2_with fail
      refine HC.mono ?_
      rintro e w5 ⟨rfl, rfl⟩
      have HB3 : Hid (∀ x y z, Below w.heap.size w (((w5.setCell ⟨w.heap.size + 1, 0, none⟩ x).setCell ⟨w.heap.size + 1, 1, none⟩ y).setCell ⟨w.heap.size + 1, 2, none⟩ z)) := fun x y z => ((B1.out.setCell (by simp) _).setCell (by simp) _).setCell (by simp) _
      clear HC
      go_wp2_with fail
      refine bodyPost_ret (v := textOut (ByteArray.empty, 0, 2)) (by simp [results, Tryd.results24, go_sem, textOut, p0, p1, p2] <;> rfl) rfl ⟨by rw [HR.out], HB3.out _ _ _⟩
    · have HR : Hid (Fk.rdOf L name = (ByteArray.empty, 0, 1)) := by show _ = _; simp [Fk.rdOf, h2]
      have HC := Is.code_any 2 a0 a1 a2 a3 a4 w1 E1.out
      rw [h2]
      unfold Is.er Is.cd at HC
      unfold Is.er
      clear h h2
      go_wp2_with fail
      refine HC.mono ?_
      rintro e w5 ⟨rfl, rfl⟩
      have HB3 : Hid (∀ x y z, Below w.heap.size w (((w5.setCell ⟨w.heap.size + 1, 0, none⟩ x).setCell ⟨w.heap.size + 1, 1, none⟩ y).setCell ⟨w.heap.size + 1, 2, none⟩ z)) := fun x y z => ((B1.out.setCell (by simp) _).setCell (by simp) _).setCell (by simp) _
      clear HC
      go_wp2_with fail
      refine bodyPost_ret (v := textOut (ByteArray.empty, 0, 1)) (by simp [results, Tryd.results24, go_sem, textOut, p0, p1, p2] <;> rfl) rfl ⟨by rw [HR.out], HB3.out _ _ _⟩
end Go.Proofs.YtlmbejldnfkfhaaDoor

namespace Go.Proofs.YtlmbejldnfkfhaaDoor
open Go.RowKit
set_option linter.unusedVariables false
namespace Fk
theorem rises_but {L : List Fl} (h : Rises L) (one two : ByteArray) : Rises (but L one two) := List.Pairwise.sublist List.filter_sublist h
theorem mem_but {L : List Fl} {one two : ByteArray} {f : Fl} : f ∈ but L one two ↔ f ∈ L ∧ f.1 ≠ one ∧ f.1 ≠ two := by
  unfold but
  rw [List.mem_filter]
  simp
theorem mem_without {L : List Fl} {name : ByteArray} {f : Fl} : f ∈ without L name ↔ f ∈ L ∧ f.1 ≠ name := by
  unfold without
  rw [List.mem_filter]
  simp
/-- an answer that is files -/
theorem ans_ok {o : Nat} {res : Int ⊕ List Fl} {R : List Fl} (h : Ans o res R 0) (hk : ∀ k, res = .inl k → k ≠ 0) : o = 0 ∧ ∃ M, res = .inr M ∧ Rises R ∧ ∀ g, g ∈ R ↔ g ∈ M := by
  rcases h with ⟨_, _, hc⟩ | ⟨_, _, hc⟩ | ⟨h0, ⟨k, e, _, hc⟩ | ⟨M, e, _, h1, h2⟩⟩
  · cases hc
  · cases hc
  · exact absurd hc.symm (hk k e)
  · exact ⟨h0, M, e, h1, h2⟩
theorem but_same {L R : List Fl} {one two : ByteArray} (hL : Rises L) (hR : Rises R) (h : ∀ f : Fl, f.1 ≠ one → f.1 ≠ two → (f ∈ L ↔ f ∈ R)) : but L one two = but R one two := by
  refine rises_ext (rises_but hL _ _) (rises_but hR _ _) (fun f => ?_)
  rw [mem_but, mem_but]
  constructor
  · rintro ⟨h1, h2, h3⟩; exact ⟨(h f h2 h3).1 h1, h2, h3⟩
  · rintro ⟨h1, h2, h3⟩; exact ⟨(h f h2 h3).2 h1, h2, h3⟩
theorem opn_of {R : List Fl} {name : ByteArray} (hr : right R = true) (hn : Nm.nameB name = true) (hs : name.size ≤ 8000) : opn R [name] = 0 := by
  unfold opn
  have h1 : ([name].any fun t => decide (8000 < t.size)) = false := by simp; omega
  have h2 : ([name].any fun t => !Nm.nameB t) = false := by simp [hn]
  rw [h1, h2, hr]
  simp
theorem get_of {R : List Fl} (hR : Rises R) {f : Fl} (hf : f ∈ R) : get R f.1 = some f := get_mem hR.apart hf
theorem rd_fit {L : List Fl} (h : Fits L) (name : ByteArray) : (rdOf L name).1.size ≤ maxLen := by
  unfold rdOf
  split
  · exact Nat.zero_le _
  · split
    · exact Nat.zero_le _
    · split
      · rename_i f hg
        exact (h f (get_some hg).1).2.1
      · exact Nat.zero_le _
theorem rd_right {L : List Fl} (h : right L = true) (name : ByteArray) : (rdOf L name).1.size ≤ 3000 := by
  unfold rdOf
  split
  · exact Nat.zero_le _
  · split
    · exact Nat.zero_le _
    · split
      · rename_i f hg
        exact (right_fit h f (get_some hg).1).2
      · exact Nat.zero_le _
theorem name_short {name : ByteArray} (h : Nm.nameB name = true) : name.size ≤ 8000 := by
  unfold Nm.nameB at h
  simp only [Bool.and_eq_true, decide_eq_true_eq] at h
  have := h.1.1.2
  omega
theorem append_read {L R : List Fl} {name text : ByteArray} (h : Ans (opnA L name text) (resAppend L name text) R 0) : rdOf R name = ((rdOf L name).1 ++ text, 0, 0) ∧ but L name name = but R name name := by
  have hr := (append_right h).1 rfl
  obtain ⟨h0, M, e, h1, h2⟩ := ans_ok h (fun k e => by
    unfold resAppend at e
    split at e
    · split at e
      · cases e; decide
      · split at e
        · cases e; decide
        · cases e
    · split at e
      · cases e; decide
      · cases e)
  have ho : opn L [name] = 0 := by
    unfold opnA at h0
    split at h0
    · cases h0
    · exact h0
  have hLr := opn_right L _ ho
  have hn := opn_name1 ho
  have hoR := opn_of hr hn (name_short hn)
  have key : ∃ s, M = without L name ++ [(name, (rdOf L name).1 ++ text, s)] := by
    unfold resAppend at e
    unfold rdOf
    rw [ho]
    split at e
    · rename_i hg
      split at e
      · cases e
      · split at e
        · cases e
        · obtain rfl := Sum.inr.inj e
          rw [hg]
          exact ⟨0, by simp⟩
    · rename_i x hg
      split at e
      · cases e
      · obtain rfl := Sum.inr.inj e
        rw [hg]
        exact ⟨x.2.2, by simp [(get_some hg).2]⟩
  obtain ⟨s, rfl⟩ := key
  have hm : (name, (rdOf L name).1 ++ text, s) ∈ R := (h2 _).2 (by simp)
  constructor
  · have hg := get_of h1 hm
    have hg' : get R name = some (name, (rdOf L name).1 ++ text, s) := hg
    generalize (rdOf L name).1 ++ text = y at hg' ⊢
    unfold rdOf
    rw [hoR, hg']
    simp
  · refine but_same (right_rises L hLr) h1 (fun f hf _ => ?_)
    rw [h2 f, List.mem_append, mem_without]
    constructor
    · intro hfL; exact .inl ⟨hfL, hf⟩
    · rintro (⟨hfL, _⟩ | hfL)
      · exact hfL
      · exact absurd (by simp at hfL; rw [hfL]) hf
theorem rename_read {L R : List Fl} {name to : ByteArray} (h : Ans (opn L [name, to]) (resRename L name to) R 0) : rdOf R to = rdOf L name ∧ but L name to = but R name to := by
  have hr := (rename_right h).1 rfl
  obtain ⟨h0, M, e, h1, h2⟩ := ans_ok h (fun k e => by
    unfold resRename at e
    split at e <;> cases e
    decide)
  have hLr := opn_right L _ h0
  obtain ⟨hn1, hn2⟩ := opn_name2 h0
  have hoR := opn_of hr hn2 (name_short hn2)
  have hoL := opn_of hLr hn1 (name_short hn1)
  unfold resRename at e
  split at e
  · cases e
  · rename_i x hg
    obtain rfl := Sum.inr.inj e
    have hm : (to, x.2.1, x.2.2) ∈ R := (h2 _).2 (by simp)
    constructor
    · have hg' : get R to = some (to, x.2.1, x.2.2) := get_of h1 hm
      unfold rdOf
      rw [hoR, hoL, hg', hg]
    · refine but_same (right_rises L hLr) h1 (fun f hf hf2 => ?_)
      rw [h2 f, List.mem_append, mem_without, mem_without]
      constructor
      · intro hfL; exact .inl ⟨⟨hfL, hf⟩, hf2⟩
      · rintro (⟨⟨hfL, _⟩, _⟩ | hfL)
        · exact hfL
        · exact absurd (by simp at hfL; rw [hfL]) hf2
theorem remove_read {L R : List Fl} {name : ByteArray} (h : Ans (opn L [name]) (resRemove L name) R 0) : rdOf R name = (ByteArray.empty, 0, 6) ∧ but L name name = but R name name := by
  have hr := (remove_right h).1 rfl
  obtain ⟨h0, M, e, h1, h2⟩ := ans_ok h (fun k e => by
    unfold resRemove at e
    split at e <;> cases e
    decide)
  have hLr := opn_right L _ h0
  have hn := opn_name1 h0
  have hoR := opn_of hr hn (name_short hn)
  unfold resRemove at e
  split at e
  · cases e
  · rename_i x hg
    obtain rfl := Sum.inr.inj e
    constructor
    · have hg' : get R name = none := by
        unfold get
        rw [List.find?_eq_none]
        intro f hf
        have := (mem_without.1 ((h2 f).1 hf)).2
        simpa using this
      unfold rdOf
      rw [hoR, hg']
      simp
    · refine but_same (right_rises L hLr) h1 (fun f hf _ => ?_)
      rw [h2 f, mem_without]
      exact ⟨fun hfL => ⟨hfL, hf⟩, fun hfL => hfL.1⟩
end Fk
end Go.Proofs.YtlmbejldnfkfhaaDoor

namespace Go.Proofs.YtlmbejldnfkfhaaDoor
open Go.RowKit
set_option linter.unusedVariables false
namespace Ik
open Fk
theorem view_nil (w : World) : View w (.slice none 0 0) [] := ⟨none, 0, rfl, fun h => absurd h (by simp)⟩
theorem crash_short {L : List Fl} {T : List Int} (h : T.length ≤ 400) : crash L T = crs L T L.length := by unfold crash; rw [if_neg (by omega)]
theorem crs_len (L : List Fl) (T : List Int) (k : Nat) : (crs L T k).length = k := by simp [crs]
theorem crs_get {L : List Fl} {T : List Int} {k i : Nat} (h : i < k) : nm (crs L T k) i = (cr L T i).1 ∧ dt (crs L T k) i = (cr L T i).2.1 ∧ sy (crs L T k) i = (cr L T i).2.2 := by
  have hl : i < (crs L T k).length := by rw [crs_len]; exact h
  simp [nm, dt, sy, List.getD, crs, List.getElem?_map, List.getElem?_range h]
theorem kept_in {L : List Fl} (hr : right L = true) {i : Nat} (hi : i < L.length) (T : List Int) : sy L i ≤ kept (dt L i) (sy L i) (more T i) ∧ kept (dt L i) (sy L i) (more T i) ≤ (dt L i).size ∧ 0 ≤ kept (dt L i) (sy L i) (more T i) := by
  obtain ⟨h0, h1, _⟩ := right_ok hr hi
  have h2 := more_pos T i
  unfold kept
  omega
theorem cr_right {L : List Fl} (hr : right L = true) (T : List Int) (i : Nat) : cr L T i = (nm L i, (dt L i).extract 0 (kept (dt L i) (sy L i) (more T i)).toNat, kept (dt L i) (sy L i) (more T i)) := by unfold cr; rw [if_pos hr]
theorem cr_size {L : List Fl} (hr : right L = true) {i : Nat} (hi : i < L.length) (T : List Int) : ((cr L T i).2.1.size : Int) = kept (dt L i) (sy L i) (more T i) := by
  obtain ⟨_, h1, h2⟩ := kept_in hr hi T
  rw [cr_right hr]
  simp [ByteArray.size_extract]
  omega
theorem crash_right {L : List Fl} (hr : right L = true) (T : List Int) : right (crs L T L.length) = true := by
  refine right_yes _ (by rw [crs_len]; exact (right_inv L hr).1) (fun k hk => ?_)
  rw [crs_len] at hk
  have hs := (right_inv L hr).2 k hk
  obtain ⟨e1, e2, e3⟩ := crs_get (L := L) (T := T) hk
  have hsz := cr_size hr hk T
  obtain ⟨k1, k2, k3⟩ := kept_in hr hk T
  simp only [Fk.step, Bool.and_eq_true] at hs
  have hok := fok_inv hs.1
  have hok2 : fok (nm (crs L T L.length) k) (dt (crs L T L.length) k) (sy (crs L T L.length) k) = true := by
    rw [e1, e2, e3]
    have hn : (cr L T k).1 = nm L k := by rw [cr_right hr]
    have hy : (cr L T k).2.2 = kept (dt L k) (sy L k) (more T k) := by rw [cr_right hr]
    rw [hn, hy]
    exact fok_yes hok.1 (by rw [hsz]; omega) ⟨by omega, by rw [hsz]; omega⟩
  cases k with
  | zero => exact step_first _ hok2
  | succ k =>
    refine step_later _ _ hok2 ?_
    have f1 : nm (crs L T L.length) (k + 1) = nm L (k + 1) := by rw [e1, cr_right hr]
    have f2 : nm (crs L T L.length) k = nm L k := by rw [(crs_get (L := L) (T := T) (k := L.length) (i := k) (by omega)).1, cr_right hr]
    rw [Nat.add_sub_cancel, f1, f2]
    have := hs.2
    simpa using this
theorem crs_fits {L : List Fl} (h : Fits L) (T : List Int) : Fits (crs L T L.length) := by
  intro f hf
  obtain ⟨i, hi, rfl⟩ := List.mem_map.1 hf
  have hi' : i < L.length := by simpa using hi
  have e : (nm L i, dt L i, sy L i) ∈ L := by
    have : L[i] = (nm L i, dt L i, sy L i) := by simp [nm, dt, sy, List.getD, List.getElem?_eq_getElem hi']
    rw [← this]; exact List.getElem_mem hi'
  have h1 := h _ e
  by_cases hr : right L = true
  · have hs := cr_size hr hi' T
    obtain ⟨k1, k2, k3⟩ := kept_in hr hi' T
    obtain ⟨_, _, h3⟩ := right_ok hr hi'
    have hn : (cr L T i).1 = nm L i := by rw [cr_right hr]
    have hy : (cr L T i).2.2 = kept (dt L i) (sy L i) (more T i) := by rw [cr_right hr]
    refine ⟨by rw [hn]; exact h1.1, ?_, ?_, ?_⟩
    · unfold maxLen; omega
    · rw [hy]; omega
    · rw [hy]; omega
  · have hc : cr L T i = (nm L i, dt L i, sy L i) := by unfold cr; rw [if_neg hr]
    rw [hc]; exact h1
theorem crash_at {L : List Fl} (hr : right L = true) {k : Nat} (hk : k < L.length) (T : List Int) (hT : T.length ≤ 400) : nm (crash L T) k = nm L k ∧ sy L k ≤ (dt (crash L T) k).size ∧ (dt (crash L T) k).size ≤ (dt L k).size ∧ (dt L k).extract 0 (dt (crash L T) k).size = dt (crash L T) k := by
  rw [crash_short hT]
  obtain ⟨e1, e2, _⟩ := crs_get (L := L) (T := T) hk
  have hs := cr_size hr hk T
  obtain ⟨k1, k2, k3⟩ := kept_in hr hk T
  rw [e1, e2]
  refine ⟨by rw [cr_right hr], by omega, by omega, ?_⟩
  have hn : (cr L T k).2.1.size = (kept (dt L k) (sy L k) (more T k)).toNat := by omega
  rw [hn, cr_right hr]
/-- the names behind a crash are those ahead of it -/
theorem get_crs {L : List Fl} (hr : right L = true) {name : ByteArray} {f : Fl} (hg : get L name = some f) (hs : f.2.2 = f.2.1.size) : ∃ s, get (crs L [] L.length) name = some (name, f.2.1, s) := by
  obtain ⟨hm, hn⟩ := get_some hg
  obtain ⟨i, hi, e⟩ := List.getElem_of_mem hm
  have e4 : nm L i = f.1 ∧ dt L i = f.2.1 ∧ sy L i = f.2.2 := by simp [nm, dt, sy, List.getD, List.getElem?_eq_getElem hi, e]
  have hc : cr L [] i = (name, f.2.1, kept f.2.1 f.2.2 (more [] i)) := by
    rw [cr_right hr, e4.1, e4.2.1, e4.2.2, hn]
    have hk : (kept f.2.1 f.2.2 (more [] i)).toNat = f.2.1.size := by unfold kept more; simp; omega
    rw [hk]
    have : f.2.1.extract 0 f.2.1.size = f.2.1 := by simp
    rw [this]
  have hmem : (name, f.2.1, kept f.2.1 f.2.2 (more [] i)) ∈ crs L [] L.length := by
    rw [← hc]
    unfold crs
    exact List.mem_map.2 ⟨i, by simpa using hi, rfl⟩
  exact ⟨_, get_of (right_rises _ (crash_right hr [])) hmem⟩
end Ik
theorem Lw.balloc {W w1 : World} {p : Prop} {o : Obj} (h : Hid (Below W.heap.size W w1) ∧ p) : Hid (Below W.heap.size W (w1.alloc o)) := h.1.out.alloc h.1.out.size _
theorem Lw.twoBoxes (wr : World) (a b c a' b' c' : Value) (t t' : TypeId) : Hid (Below wr.heap.size wr (((wr.alloc (.cells #[a, b, c] t)).alloc (.cells #[a', b', c'] t')).drew)) ∧ (((wr.alloc (.cells #[a, b, c] t)).alloc (.cells #[a', b', c'] t')).drew.cell? ⟨wr.heap.size, 0, none⟩ = some a ∧ ((wr.alloc (.cells #[a, b, c] t)).alloc (.cells #[a', b', c'] t')).drew.cell? ⟨wr.heap.size, 1, none⟩ = some b ∧ ((wr.alloc (.cells #[a, b, c] t)).alloc (.cells #[a', b', c'] t')).drew.cell? ⟨wr.heap.size, 2, none⟩ = some c) ∧ (((wr.alloc (.cells #[a, b, c] t)).alloc (.cells #[a', b', c'] t')).drew.cell? ⟨wr.heap.size + 1, 0, none⟩ = some a' ∧ ((wr.alloc (.cells #[a, b, c] t)).alloc (.cells #[a', b', c'] t')).drew.cell? ⟨wr.heap.size + 1, 1, none⟩ = some b' ∧ ((wr.alloc (.cells #[a, b, c] t)).alloc (.cells #[a', b', c'] t')).drew.cell? ⟨wr.heap.size + 1, 2, none⟩ = some c') := by
  refine ⟨Below.drew (((Below.refl _ _).alloc (Nat.le_refl _) _).alloc (by simp) _), ⟨?_, ?_, ?_⟩, ?_, ?_, ?_⟩
  all_goals show ((wr.alloc _).alloc _).cell? _ = _
  · rw [Fk.cellOld _ _ _ _ (by simp), Fk.cellTop _ _ _ _ _ rfl]; rfl
  · rw [Fk.cellOld _ _ _ _ (by simp), Fk.cellTop _ _ _ _ _ rfl]; rfl
  · rw [Fk.cellOld _ _ _ _ (by simp), Fk.cellTop _ _ _ _ _ rfl]; rfl
  · rw [Fk.cellTop _ _ _ _ _ (by simp)]; rfl
  · rw [Fk.cellTop _ _ _ _ _ (by simp)]; rfl
  · rw [Fk.cellTop _ _ _ _ _ (by simp)]; rfl
theorem Lw.bel_trans' {W w1 w2 : World} (h : Below W.heap.size W w1) (hb : Below w1.heap.size w1 w2) : Below W.heap.size W w2 := h.trans (hb.mono h.size)
theorem Lw.bset3 {W w1 : World} {p : Prop} {b : Nat} {x y z : Value} (hb : W.heap.size ≤ b) (h : Hid (Below W.heap.size W w1) ∧ p) : Hid (Below W.heap.size W (((w1.setCell ⟨b, 0, none⟩ x).setCell ⟨b, 1, none⟩ y).setCell ⟨b, 2, none⟩ z)) := ((h.1.out.setCell hb _).setCell hb _).setCell hb _
theorem Dk.small_at {R : List Fk.Fl} (h : Dk.Fit R) : ∀ i, (Fk.nm R i).size ≤ 1048576 ∧ (Fk.dt R i).size ≤ 1048576 := by
  intro i
  by_cases hi : i < R.length
  · have e : R[i] = (Fk.nm R i, Fk.dt R i, Fk.sy R i) := by simp [Fk.nm, Fk.dt, Fk.sy, List.getD, List.getElem?_eq_getElem hi]
    have h1 := h.2 R[i] (List.getElem_mem hi)
    rw [e] at h1
    have h2 : (Fk.nm R i).size ≤ 100000 ∧ (Fk.dt R i).size ≤ 100000 := h1
    omega
  · have e : R.getD i Fk.none_ = Fk.none_ := by simp [List.getD, List.getElem?_eq_none (by omega : R.length ≤ i)]
    unfold Fk.nm Fk.dt
    rw [e]
    exact ⟨Nat.zero_le _, Nat.zero_le _⟩
namespace Fk
theorem own_len {w : World} {base n c : Nat} {e : TypeId} {a : Option Addr} {L : List Fl} (h : Own w base e (.slice a n c) L) : n = L.length := by
  obtain ⟨a', c', e', _⟩ := view_of_owns h
  simp only [Value.slice.injEq] at e'
  exact e'.2.1
theorem own_sees {w : World} {base n c : Nat} {e : TypeId} {a : Option Addr} {L : List Fl} (h : Own w base e (.slice a n c) L) (hn : 0 < n) : ∃ b o, a = some ⟨b, o, none⟩ ∧ Sees w b o L := by
  have hl := own_len h
  obtain ⟨a', c', e', hs⟩ := view_of_owns h
  simp only [Value.slice.injEq] at e'
  obtain ⟨b, o, ea, _, hsee⟩ := hs (by omega)
  exact ⟨b, o, e'.1.trans ea, hsee⟩
theorem sync_read {L R : List Fl} {name : ByteArray} (h : Ans (opn L [name]) (resSync L name) R 0) : rdOf (Ik.crash R []) name = rdOf L name := by
  have hr := (sync_right h).1 rfl
  obtain ⟨h0, M, e, h1, h2⟩ := ans_ok h (fun k e => by
    unfold resSync at e
    split at e <;> cases e
    decide)
  have hn := opn_name1 h0
  rw [Ik.crash_short (by simp)]
  have hoC := opn_of (Ik.crash_right hr []) hn (name_short hn)
  unfold resSync at e
  split at e
  · cases e
  · rename_i x hg
    obtain rfl := Sum.inr.inj e
    have hm : (x.1, x.2.1, (x.2.1.size : Int)) ∈ R := (h2 _).2 (by simp)
    have hg' : get R name = some (x.1, x.2.1, (x.2.1.size : Int)) := by
      have := get_of h1 hm
      rw [(get_some hg).2] at this
      rw [(get_some hg).2]
      exact this
    obtain ⟨s, hs⟩ := Ik.get_crs hr hg' rfl
    unfold rdOf
    rw [hoC, h0, hs, hg]
theorem cut_read {L R : List Fl} {name : ByteArray} {sz : Int} (h : Ans (opn L [name]) (resCut L name sz) R 0) : ((rdOf R name).1.size : Int) = sz := by
  have hr := (cut_right h).1 rfl
  obtain ⟨h0, M, e, h1, h2⟩ := ans_ok h (fun k e => by
    unfold resCut at e
    split at e
    · cases e; decide
    · split at e <;> cases e
      decide)
  have hn := opn_name1 h0
  have hoC := opn_of hr hn (name_short hn)
  unfold resCut at e
  split at e
  · cases e
  · rename_i x hg
    split at e
    · rename_i hz
      obtain rfl := Sum.inr.inj e
      have hm : cutTo x sz ∈ R := (h2 _).2 (by simp)
      have hg' : get R name = some (cutTo x sz) := by
        have h3 := get_of h1 hm
        have e4 : (cutTo x sz).1 = name := (get_some hg).2
        rw [e4] at h3
        exact h3
      unfold rdOf
      rw [hoC, hg']
      simp [cutTo, ByteArray.size_extract]
      omega
    · cases e
end Fk
end Go.Proofs.YtlmbejldnfkfhaaDoor
