/- The walks of the law's own marks: each place of a list is written over with a text or a number of its own, and is looked for again. The walks of the law's own copies: a list of the law's files becomes a new list of the program's files. The walks of the law's own comparisons: two lists of the same files are told alike. Lists of files put behind each other; the walk of the specification's copy; answers with files and a code: how the law compares, marks and looks at them. The walk of copyText: a text in memory of its own. -/
import Derived.Test.YtojdfdlbdpdlkaaGreatDoorProg
import Derived.Test.YtojdfdlbdpdlkaaGreatDoorFsKit
import Derived.Test.YtojdfdlbdpdlkaaGreatDoorJoined1
import Derived.WalkKit
import Derived.WalkSpells
import Derived.WalkLawsBesides
import Derived.BigQuiet
import Derived.Lib.QuietBelow
import Derived.BigRegion
import Derived.Deep.RegionWith
import Derived.Test.YtojdfdlbdpdlkaaGreatDoorJoined3
namespace Go.Proofs.YtojdfdlbdpdlkaaGreatDoor
open Go.RowKit
set_option linter.unusedVariables false
namespace Fk
/-- the marks of one place, counted from k -/
def mk1 (k i : Nat) : Fl := (mt (k + 3 * i), mt (k + 3 * i + 1), ((k + 3 * i + 2 : Nat) : Int))
/-- the marks of n places -/
def mks (k n : Nat) : List Fl := (List.range n).map (mk1 k)
theorem mks_length (k n : Nat) : (mks k n).length = n := by simp [mks]
/-- the first places are marked -/
def part (k : Nat) (L : List Fl) (j : Nat) : List Fl := mks k j ++ L.drop j
theorem part_length (k : Nat) (L : List Fl) (j : Nat) (h : j ≤ L.length) : (part k L j).length = L.length := by simp [part, mks_length]; omega
theorem part_none (k : Nat) (L : List Fl) : part k L 0 = L := by simp [part, mks]
theorem part_all (k : Nat) (L : List Fl) : part k L L.length = mks k L.length := by simp [part]
theorem part_step (k : Nat) (L : List Fl) (j : Nat) (h : j < L.length) : (part k L j).set j (mk1 k j) = part k L (j + 1) := by
  unfold part
  rw [List.set_append_right _ _ (by rw [mks_length]; exact Nat.le_refl _), mks_length, Nat.sub_self, List.drop_eq_getElem_cons h, List.set_cons_zero]
  simp [mks, List.range_succ]
theorem mks_at (k n i : Nat) (h : i < n) : nm (mks k n) i = mt (k + 3 * i) ∧ dt (mks k n) i = mt (k + 3 * i + 1) ∧ sy (mks k n) i = ((k + 3 * i + 2 : Nat) : Int) := by
  simp [mks, nm, dt, sy, List.getD, h, mk1]
/-- three stores at one place are one -/
theorem set3 (L : List Fl) (j : Nat) (h : j < L.length) (a b : ByteArray) (c : Int) :
    (((L.set j (a, dt L j, sy L j)).set j (nm (L.set j (a, dt L j, sy L j)) j, b, sy (L.set j (a, dt L j, sy L j)) j)).set j
      (nm ((L.set j (a, dt L j, sy L j)).set j (nm (L.set j (a, dt L j, sy L j)) j, b, sy (L.set j (a, dt L j, sy L j)) j)) j,
       dt ((L.set j (a, dt L j, sy L j)).set j (nm (L.set j (a, dt L j, sy L j)) j, b, sy (L.set j (a, dt L j, sy L j)) j)) j, c)) = L.set j (a, b, c) := by
  have h1 := nm_set L j h (a, dt L j, sy L j)
  have h2 := nm_set (L.set j (a, dt L j, sy L j)) j (by simpa using h) (nm (L.set j (a, dt L j, sy L j)) j, b, sy (L.set j (a, dt L j, sy L j)) j)
  rw [h2.1, h2.2.1, h1.1, List.set_set, List.set_set]
end Fk

end Go.Proofs.YtojdfdlbdpdlkaaGreatDoor

namespace Go.Proofs.YtojdfdlbdpdlkaaGreatDoor
open Go.RowKit
set_option linter.unusedVariables false

theorem infoFile : (Tryz.prog.info? 75).map (fun i => (i.zero, i.size, i.bytes)) = some (some (.agg #[.string ByteArray.empty, .string ByteArray.empty, .int .i64 0]), 3, 40) := by kernel_rfl

end Go.Proofs.YtojdfdlbdpdlkaaGreatDoor

namespace Go.Proofs.YtojdfdlbdpdlkaaGreatDoor
open Go.RowKit
set_option linter.unusedVariables false

end Go.Proofs.YtojdfdlbdpdlkaaGreatDoor

namespace Go.Proofs.YtojdfdlbdpdlkaaGreatDoor
open Go.RowKit
set_option linter.unusedVariables false
namespace Fk
/-- a nil slice has no room -/
def Shut (u : Value) : Prop := ∀ a n c, u = .slice a n c → a = none → c = 0
theorem Own.shut {w : World} {base : Nat} {e : TypeId} {v : Value} {L : List Fl} (h : Own w base e v L) : Shut v := by
  intro a n c hv ha
  rcases h.form with ⟨h1, _⟩ | ⟨g, c', h1, _⟩
  · rw [h1] at hv; simp only [Value.slice.injEq] at hv; exact hv.2.2.symm
  · rw [h1] at hv; simp only [Value.slice.injEq] at hv; rw [← hv.1] at ha; cases ha
theorem own_nil (w : World) (base : Nat) (e : TypeId) : Own w base e (.slice none 0 0) [] := World.ownsRow_nil w base e 3
theorem own_empty (w : World) (e : TypeId) (base : Nat) (hb : base ≤ w.heap.size) : Own (w.alloc (.cells #[] e)) base e (.slice (some ⟨w.heap.size, 0, none⟩) 0 0) [] :=
  World.ownsRow_lit w #[] 0 hb (by unfold maxLen; omega) rfl
theorem sees_cell {w : World} {b o : Nat} {L : List Fl} (h : Sees w b o L) : ∀ j u, (flat L)[j]? = some u → w.cell? ((⟨b, o, none⟩ : Addr).add j) = some u := by
  intro j u hu
  have hj : j < L.length * 3 := by
    have := (List.getElem?_eq_some_iff.1 hu).1
    rwa [flat_length] at this
  have hi : j / 3 < L.length := by omega
  have g := flat_get L (j / 3) hi
  rw [Addr.add_lit]
  have h3 : j % 3 = 0 ∨ j % 3 = 1 ∨ j % 3 = 2 := by omega
  rcases h3 with h3 | h3 | h3
  · have ej : j = j / 3 * 3 := by omega
    have c := h.c0 (j / 3) hi
    rw [← ej] at c g
    rw [c]; exact g.1.symm.trans hu
  · have ej : j = j / 3 * 3 + 1 := by omega
    have c := h.c1 (j / 3) hi
    rw [Nat.add_assoc, ← ej] at c
    rw [c, ← g.2.1, ← ej]; exact hu
  · have ej : j = j / 3 * 3 + 2 := by omega
    have c := h.c2 (j / 3) hi
    rw [Nat.add_assoc, ← ej] at c
    rw [c, ← g.2.2, ← ej]; exact hu

/-- a seen list put behind an owned one -/
theorem wpList_append_view {P : Program} (w : World) {ops : Array Oper} {rest : List Oper} {o : Oper} {a : Act} {Q : Exit → Act → World → Prop} (hgd : o.guard = none) (s x : Operand) (t : TypeId)
    (ho : o.op = .call { callee := .builtin .append, args := #[s, x], argTypes := #[t, t] })
    (base : Nat) (e : TypeId) (i : TypeInfo) (z : Value) (ht : P.underlying t = some (.slice e)) (hi : P.info? e = some i) (hz : i.zero = some z) (hsize : i.size = 3) (hby : i.bytes = 40) (hzs : z.cells.size = 3)
    (v u : Value) (M N : List Fl) (hs : a.eval s = v) (hx : a.eval x = u) (hM : Own w base e v M) (hN : View w u N) (hu : Shut u) (hl : M.length + N.length ≤ 1000000000) (hb : base ≤ w.heap.size)
    (h : ∀ v' w', Own w' base e v' (M ++ N) → w.grownBy w' v.ownBlock → wpList P ops Q rest (a.put o.dst v') w') : wpList P ops Q (o :: rest) a w := by
  obtain ⟨ao, cap, rfl, hN⟩ := hN
  have fin : ∀ v' w', w'.ownsRow base e 3 v' (M.length + N.length) (flat M ++ flat N) → Own w' base e v' (M ++ N) := fun v' w' hr => by
    unfold Own
    rw [flat_append, List.length_append]
    exact hr
  cases ao with
  | none =>
    have hc := hu _ _ _ rfl rfl
    subst hc
    have hN0 : N = [] := by
      cases N with
      | nil => rfl
      | cons f r => obtain ⟨b, o', e', _⟩ := hN (by simp); cases e'
    subst hN0
    refine wpList_plain hgd fun K hK => ?_
    rcases hM.form with ⟨h1, h2⟩ | ⟨g, c, h1, _⟩
    · subst h1 h2
      have hrun := run_append_owned_none (P := P) w base t o.type e i 3 ht hi _ 0 [] hM
      unfold Oper.wp
      simp [execOp, ho, resolve, invoke, builtin, hs, hx, hrun, Result.andThen]
      exact hK _ _ (h _ w (by simpa using hM) (World.grownBy.refl _ _))
    · subst h1
      have hrun := run_append_owned_none (P := P) w base t o.type e i 3 ht hi _ M.length (flat M) hM
      unfold Oper.wp
      simp [execOp, ho, resolve, invoke, builtin, hs, hx, hrun, Result.andThen]
      exact hK _ _ (h _ w (by simpa using hM) (World.grownBy.refl _ _))
  | some ad =>
    refine wpList_append_own w hgd s x t ho base e i z 3 40 ht hi hz hsize hby hzs (by decide) v M.length (flat M) hs hM ad N.length cap (flat N) hx (flat_length N) ?_ (flat_one N) (by unfold maxLen; omega) (by omega) hb ?_
    · intro j u hju
      have hp : 0 < N.length := by
        have := (List.getElem?_eq_some_iff.1 hju).1
        rw [flat_length] at this
        omega
      obtain ⟨b, o', e', _, hsee⟩ := hN hp
      obtain rfl := Option.some.inj e'
      exact sees_cell hsee j u hju
    · intro v' w' h1 h2 _
      exact h v' w' (fin v' w' h1) h2
end Fk

theorem Fk.cell_two (w : World) (a : Option Addr) (n cap : Nat) : (((w.alloc (.cells #[.slice a n cap] 25)).alloc (.cells #[.slice none 0 0] 25)).alloc (.cells #[] 75)).cell? ⟨w.heap.size + 1, 0, none⟩ = some (.slice none 0 0) := by
  rw [Fk.cellOld _ _ _ _ (by simp), Fk.cellTop _ _ _ _ _ (by simp)]; rfl
theorem Fk.froz_two {w w1 : World} {a : Option Addr} {n cap : Nat} {x y : Nat} (h : (((w.alloc (.cells #[.slice a n cap] 25)).alloc (.cells #[.slice none 0 0] 25)).alloc (.cells #[] 75)).grownBy w1 (Value.slice (some ⟨w.heap.size + 2, 0, none⟩) x y).ownBlock) : w1.frozen? ⟨w.heap.size + 1, 0, none⟩ = false := by
  rw [World.frozen?_of_block (w := ((w.alloc (.cells #[.slice a n cap] 25)).alloc (.cells #[.slice none 0 0] 25)).alloc (.cells #[] 75)) (h.block _ (by simp) (by simp [Value.ownBlock])), Fk.frozOld _ _ _ _ (by simp), Fk.frozTop _ _ _ _ _ (by simp)]

set_option maxHeartbeats 1000000 in
theorem l02Copy_any (v : Value) (L : List Fk.Fl) (w : World) (hv : Fk.View w v L) (hsh : Fk.Shut v) (hl : L.length ≤ 1048576) :
    Calls Tryz.prog 40 #[.agg #[v]] w fun e w' => (∃ u, e = .returned (.agg #[u]) ∧ Fk.Own w' w.heap.size 75 u L) ∧ Below w.heap.size w w' := by
  obtain ⟨i0, hi, hz0, hz1, hz2⟩ := info_parts infoFile
  obtain ⟨W, hW⟩ : ∃ W, W = ((w.alloc (.cells #[v] 25)).alloc (.cells #[.slice none 0 0] 25)).alloc (.cells #[] 75) := ⟨_, rfl⟩
  have b0 : Below w.heap.size w W := by
    rw [hW]
    repeat (first | exact Below.refl _ _ | refine Below.alloc ?_ (by simp <;> omega) _)
  have hsz : W.heap.size = w.heap.size + 3 := by rw [hW]; simp
  have q1 : W.cell? ⟨w.heap.size + 1, 0, none⟩ = some (.slice none 0 0) := by rw [hW, Fk.cellOld _ _ _ _ (by simp), Fk.cellTop _ _ _ _ _ (by simp)]; rfl
  have f1 : W.frozen? ⟨w.heap.size + 1, 0, none⟩ = false := by rw [hW, Fk.frozOld _ _ _ _ (by simp), Fk.frozTop _ _ _ _ _ (by simp)]
  have hM : Fk.Own W (w.heap.size + 2) 75 (.slice (some ⟨w.heap.size + 2, 0, none⟩) 0 0) [] := by
    rw [hW]
    have := Fk.own_empty ((w.alloc (.cells #[v] 25)).alloc (.cells #[.slice none 0 0] 25)) 75 (w.heap.size + 2) (by simp)
    simpa using this
  have hvW := hv.below b0
  have HW := Fk.hide hW
  clear hW
  obtain ⟨a, cap, rfl, _⟩ := hv
  go_enter Tryz.func40, Tryz.ntmps40
  rw [HW.out] at hM hvW
  have hzs : (Value.agg #[.string ByteArray.empty, .string ByteArray.empty, .int .i64 0]).cells.size = 3 := by kernel_rfl
  have hbb : w.heap.size + 2 ≤ (((w.alloc (.cells #[.slice a L.length cap] 25)).alloc (.cells #[.slice none 0 0] 25)).alloc (.cells #[] 75)).heap.size := by simp
  have hll : ([] : List Fk.Fl).length + L.length ≤ 1000000000 := by simp; omega
  go_wp2_with (at_builtin; refine Fk.wpList_append_view _ rfl _ _ 23 rfl (w.heap.size + 2) 75 i0 _ Tryz.underlying23 hi hz0 hz1 hz2 hzs (.slice (some ⟨w.heap.size + 2, 0, none⟩) 0 0) (.slice a L.length cap) [] L rfl rfl hM hvW hsh hll hbb ?_; intro u w1 hown hgrow; rw [List.nil_append] at hown; obtain ⟨au, cu, rfl⟩ := hown.slice; have r1 := hgrow.cell (Fk.cell_two w a L.length cap) (by simp [Value.ownBlock]); have r2 : w1.frozen? ⟨w.heap.size + 1, 0, none⟩ = false := Fk.froz_two hgrow)
  have bW : Below w.heap.size w (((w.alloc (.cells #[.slice a L.length cap] 25)).alloc (.cells #[.slice none 0 0] 25)).alloc (.cells #[] 75)) := by rw [← HW.out]; exact b0
  have b1 : Below w.heap.size w w1 := bW.grown hgrow bW.size (fun k hk => by simp [Value.ownBlock] at hk; omega)
  refine bodyPost_ret (v := .agg #[.slice au L.length cu]) (by simp [results, Tryz.results40, go_sem, r1] <;> rfl) rfl ⟨⟨_, rfl, ?_⟩, ?_⟩
  · exact Fk.Own.mono (ownsRow_setCell_below hown (by show w.heap.size + 1 < w.heap.size + 2; omega) _) (by omega)
  · exact b1.setCell (by show w.heap.size ≤ w.heap.size + 1; omega) _

end Go.Proofs.YtojdfdlbdpdlkaaGreatDoor

namespace Go.Proofs.YtojdfdlbdpdlkaaGreatDoor
open Go.RowKit
set_option linter.unusedVariables false

set_option maxHeartbeats 1000000 in
theorem copyText_any (a : ByteArray) (w : World) (ha : a.size ≤ 1073741824) :
    Calls Tryz.prog 96 #[.string a] w fun e w' => e = .returned (.string a) ∧ Below w.heap.size w w' := by
  obtain ⟨i0, hi, hz0, hz1, hz2⟩ := info_parts Tryz.infoU8
  go_enter Tryz.func96, Tryz.ntmps96
  go_wp2_with (at_make; refine wpList_make8 _ rfl _ _ 22 rfl 5 i0 Tryz.underlying22 hi hz0 hz1 hz2 a.size rfl rfl ?c1 ?_)
  case c1 => omega
  intro w1 hr1 hb1 hs1
  obtain ⟨w2, hc2, hr2, hb2, hs2⟩ := copy8_run (P := Tryz.prog) 22 9 3 5 Tryz.underlying22 size8 w.heap.size 0 a.size a.size a _ hr1 (by omega) (by simp)
  have e2 : List.take 0 (List.replicate a.size (0 : Int)) ++ nums a ++ List.drop (0 + a.size) (List.replicate a.size 0) = nums a := by simp
  rw [e2] at hr2
  have ht := row8_text (P := Tryz.prog) hr2 22 9 5 Tryz.underlying22 Tryz.underlying5 Tryz.underlying9 a.size a.size (by rw [nums_length]; exact Nat.le_refl _)
  have HB : Hid (Below w.heap.size w w2) := hb1.trans hb2
  have HT : Hid (strOfNums ((nums a).take a.size) = a) := by
    show strOfNums ((nums a).take a.size) = a
    rw [List.take_of_length_le (by rw [nums_length]; exact Nat.le_refl _), str_nums]
  clear hb1 hb2 hr1 hr2 e2
  go_wp2
  go_ret
  exact ⟨congrArg (fun x => Ending.returned (.string x)) HT.out, HB.out⟩
end Go.Proofs.YtojdfdlbdpdlkaaGreatDoor
