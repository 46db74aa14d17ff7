/- Lists of files put behind each other; the walk of the specification's copy; answers with files and a code: how the law compares, marks and looks at them. -/
import Derived.Test.YtfefafmcaepoiaaGreatDoorFsMark
import Derived.Test.YtfefafmcaepoiaaGreatDoorFsTo
import Derived.Test.YtfefafmcaepoiaaGreatDoorFsEq
namespace Go.Proofs.YtfefafmcaepoiaaGreatDoor
open Go.RowKit
set_option linter.unusedVariables false
namespace Fk
/-- a nil slice has no room -/
def Shut (u : Value) : Prop := ∀ a n c, u = .slice a n c → a = none → c = 0
theorem Own.shut {w : World} {base : Nat} {e : TypeId} {v : Value} {L : List Fl} (h : Own w base e v L) : Shut v := by
  intro a n c hv ha
  rcases h.form with ⟨h1, _⟩ | ⟨g, c', h1, _⟩
  · rw [h1] at hv; simp only [Value.slice.injEq] at hv; exact hv.2.2.symm
  · rw [h1] at hv; simp only [Value.slice.injEq] at hv; rw [← hv.1] at ha; cases ha
theorem own_nil (w : World) (base : Nat) (e : TypeId) : Own w base e (.slice none 0 0) [] := World.ownsRow_nil w base e 3
theorem own_empty (w : World) (e : TypeId) (base : Nat) (hb : base ≤ w.heap.size) : Own (w.alloc (.cells #[] e)) base e (.slice (some ⟨w.heap.size, 0, none⟩) 0 0) [] :=
  World.ownsRow_lit w #[] 0 hb (by unfold maxLen; omega) rfl
theorem sees_cell {w : World} {b o : Nat} {L : List Fl} (h : Sees w b o L) : ∀ j u, (flat L)[j]? = some u → w.cell? ((⟨b, o, none⟩ : Addr).add j) = some u := by
  intro j u hu
  have hj : j < L.length * 3 := by
    have := (List.getElem?_eq_some_iff.1 hu).1
    rwa [flat_length] at this
  have hi : j / 3 < L.length := by omega
  have g := flat_get L (j / 3) hi
  rw [Addr.add_lit]
  have h3 : j % 3 = 0 ∨ j % 3 = 1 ∨ j % 3 = 2 := by omega
  rcases h3 with h3 | h3 | h3
  · have ej : j = j / 3 * 3 := by omega
    have c := h.c0 (j / 3) hi
    rw [← ej] at c g
    rw [c]; exact g.1.symm.trans hu
  · have ej : j = j / 3 * 3 + 1 := by omega
    have c := h.c1 (j / 3) hi
    rw [Nat.add_assoc, ← ej] at c
    rw [c, ← g.2.1, ← ej]; exact hu
  · have ej : j = j / 3 * 3 + 2 := by omega
    have c := h.c2 (j / 3) hi
    rw [Nat.add_assoc, ← ej] at c
    rw [c, ← g.2.2, ← ej]; exact hu

/-- a seen list put behind an owned one -/
theorem wpList_append_view {P : Program} (w : World) {ops : Array Oper} {rest : List Oper} {o : Oper} {a : Act} {Q : Exit → Act → World → Prop} (hgd : o.guard = none) (s x : Operand) (t : TypeId)
    (ho : o.op = .call { callee := .builtin .append, args := #[s, x], argTypes := #[t, t] })
    (base : Nat) (e : TypeId) (i : TypeInfo) (z : Value) (ht : P.underlying t = some (.slice e)) (hi : P.info? e = some i) (hz : i.zero = some z) (hsize : i.size = 3) (hby : i.bytes = 40) (hzs : z.cells.size = 3)
    (v u : Value) (M N : List Fl) (hs : a.eval s = v) (hx : a.eval x = u) (hM : Own w base e v M) (hN : View w u N) (hu : Shut u) (hl : M.length + N.length ≤ 1000000000) (hb : base ≤ w.heap.size)
    (h : ∀ v' w', Own w' base e v' (M ++ N) → w.grownBy w' v.ownBlock → wpList P ops Q rest (a.put o.dst v') w') : wpList P ops Q (o :: rest) a w := by
  obtain ⟨ao, cap, rfl, hN⟩ := hN
  have fin : ∀ v' w', w'.ownsRow base e 3 v' (M.length + N.length) (flat M ++ flat N) → Own w' base e v' (M ++ N) := fun v' w' hr => by
    unfold Own
    rw [flat_append, List.length_append]
    exact hr
  cases ao with
  | none =>
    have hc := hu _ _ _ rfl rfl
    subst hc
    have hN0 : N = [] := by
      cases N with
      | nil => rfl
      | cons f r => obtain ⟨b, o', e', _⟩ := hN (by simp); cases e'
    subst hN0
    refine wpList_plain hgd fun K hK => ?_
    rcases hM.form with ⟨h1, h2⟩ | ⟨g, c, h1, _⟩
    · subst h1 h2
      have hrun := run_append_owned_none (P := P) w base t o.type e i 3 ht hi _ 0 [] hM
      unfold Oper.wp
      simp [execOp, ho, resolve, invoke, builtin, hs, hx, hrun, Result.andThen]
      exact hK _ _ (h _ w (by simpa using hM) (World.grownBy.refl _ _))
    · subst h1
      have hrun := run_append_owned_none (P := P) w base t o.type e i 3 ht hi _ M.length (flat M) hM
      unfold Oper.wp
      simp [execOp, ho, resolve, invoke, builtin, hs, hx, hrun, Result.andThen]
      exact hK _ _ (h _ w (by simpa using hM) (World.grownBy.refl _ _))
  | some ad =>
    refine wpList_append_own w hgd s x t ho base e i z 3 40 ht hi hz hsize hby hzs (by decide) v M.length (flat M) hs hM ad N.length cap (flat N) hx (flat_length N) ?_ (flat_one N) (by unfold maxLen; omega) (by omega) hb ?_
    · intro j u hju
      have hp : 0 < N.length := by
        have := (List.getElem?_eq_some_iff.1 hju).1
        rw [flat_length] at this
        omega
      obtain ⟨b, o', e', _, hsee⟩ := hN hp
      obtain rfl := Option.some.inj e'
      exact sees_cell hsee j u hju
    · intro v' w' h1 h2 _
      exact h v' w' (fin v' w' h1) h2
end Fk

theorem Fk.cell_two (w : World) (a : Option Addr) (n cap : Nat) : (((w.alloc (.cells #[.slice a n cap] 28)).alloc (.cells #[.slice none 0 0] 28)).alloc (.cells #[] 73)).cell? ⟨w.heap.size + 1, 0, none⟩ = some (.slice none 0 0) := by
  rw [Fk.cellOld _ _ _ _ (by simp), Fk.cellTop _ _ _ _ _ (by simp)]; rfl
theorem Fk.froz_two {w w1 : World} {a : Option Addr} {n cap : Nat} {x y : Nat} (h : (((w.alloc (.cells #[.slice a n cap] 28)).alloc (.cells #[.slice none 0 0] 28)).alloc (.cells #[] 73)).grownBy w1 (Value.slice (some ⟨w.heap.size + 2, 0, none⟩) x y).ownBlock) : w1.frozen? ⟨w.heap.size + 1, 0, none⟩ = false := by
  rw [World.frozen?_of_block (w := ((w.alloc (.cells #[.slice a n cap] 28)).alloc (.cells #[.slice none 0 0] 28)).alloc (.cells #[] 73)) (h.block _ (by simp) (by simp [Value.ownBlock])), Fk.frozOld _ _ _ _ (by simp), Fk.frozTop _ _ _ _ _ (by simp)]

set_option maxHeartbeats 1000000 in
theorem l02Copy_any (v : Value) (L : List Fk.Fl) (w : World) (hv : Fk.View w v L) (hsh : Fk.Shut v) (hl : L.length ≤ 1048576) :
    Calls Tryz.prog 33 #[.agg #[v]] w fun e w' => (∃ u, e = .returned (.agg #[u]) ∧ Fk.Own w' w.heap.size 73 u L) ∧ Below w.heap.size w w' := by
  obtain ⟨i0, hi, hz0, hz1, hz2⟩ := info_parts infoFile
  obtain ⟨W, hW⟩ : ∃ W, W = ((w.alloc (.cells #[v] 28)).alloc (.cells #[.slice none 0 0] 28)).alloc (.cells #[] 73) := ⟨_, rfl⟩
  have b0 : Below w.heap.size w W := by
    rw [hW]
    repeat (first | exact Below.refl _ _ | refine Below.alloc ?_ (by simp <;> omega) _)
  have hsz : W.heap.size = w.heap.size + 3 := by rw [hW]; simp
  have q1 : W.cell? ⟨w.heap.size + 1, 0, none⟩ = some (.slice none 0 0) := by rw [hW, Fk.cellOld _ _ _ _ (by simp), Fk.cellTop _ _ _ _ _ (by simp)]; rfl
  have f1 : W.frozen? ⟨w.heap.size + 1, 0, none⟩ = false := by rw [hW, Fk.frozOld _ _ _ _ (by simp), Fk.frozTop _ _ _ _ _ (by simp)]
  have hM : Fk.Own W (w.heap.size + 2) 73 (.slice (some ⟨w.heap.size + 2, 0, none⟩) 0 0) [] := by
    rw [hW]
    have := Fk.own_empty ((w.alloc (.cells #[v] 28)).alloc (.cells #[.slice none 0 0] 28)) 73 (w.heap.size + 2) (by simp)
    simpa using this
  have hvW := hv.below b0
  have HW := Fk.hide hW
  clear hW
  obtain ⟨a, cap, rfl, _⟩ := hv
  go_enter Tryz.func33, Tryz.ntmps33
  rw [HW.out] at hM hvW
  have hzs : (Value.agg #[.string ByteArray.empty, .string ByteArray.empty, .int .i64 0]).cells.size = 3 := by kernel_rfl
  have hbb : w.heap.size + 2 ≤ (((w.alloc (.cells #[.slice a L.length cap] 28)).alloc (.cells #[.slice none 0 0] 28)).alloc (.cells #[] 73)).heap.size := by simp
  have hll : ([] : List Fk.Fl).length + L.length ≤ 1000000000 := by simp; omega
  go_wp2_with (at_builtin; refine Fk.wpList_append_view _ rfl _ _ 26 rfl (w.heap.size + 2) 73 i0 _ Tryz.underlying26 hi hz0 hz1 hz2 hzs (.slice (some ⟨w.heap.size + 2, 0, none⟩) 0 0) (.slice a L.length cap) [] L rfl rfl hM hvW hsh hll hbb ?_; intro u w1 hown hgrow; rw [List.nil_append] at hown; obtain ⟨au, cu, rfl⟩ := hown.slice; have r1 := hgrow.cell (Fk.cell_two w a L.length cap) (by simp [Value.ownBlock]); have r2 : w1.frozen? ⟨w.heap.size + 1, 0, none⟩ = false := Fk.froz_two hgrow)
  have bW : Below w.heap.size w (((w.alloc (.cells #[.slice a L.length cap] 28)).alloc (.cells #[.slice none 0 0] 28)).alloc (.cells #[] 73)) := by rw [← HW.out]; exact b0
  have b1 : Below w.heap.size w w1 := bW.grown hgrow bW.size (fun k hk => by simp [Value.ownBlock] at hk; omega)
  refine bodyPost_ret (v := .agg #[.slice au L.length cu]) (by simp [results, Tryz.results33, go_sem, r1] <;> rfl) rfl ⟨⟨_, rfl, ?_⟩, ?_⟩
  · exact Fk.Own.mono (ownsRow_setCell_below hown (by show w.heap.size + 1 < w.heap.size + 2; omega) _) (by omega)
  · exact b1.setCell (by show w.heap.size ≤ w.heap.size + 1; omega) _

set_option maxHeartbeats 1000000 in
theorem eqFsOut_same (v1 v2 : Value) (L : List Fk.Fl) (c : Int) (w : World) (h1 : Fk.View w v1 L) (h2 : Fk.View w v2 L) (hl : L.length ≤ 1048576) :
    Calls Tryz.prog 9 #[.agg #[v1, .int .i64 c], .agg #[v2, .int .i64 c]] w fun e w' => e = .returned (.bool true) ∧ Below w.heap.size w w' := by
  obtain ⟨W, hW⟩ : ∃ W, W = (w.alloc (.cells #[v1, .int .i64 c] 30)).alloc (.cells #[v2, .int .i64 c] 30) := ⟨_, rfl⟩
  have b0 : Below w.heap.size w W := by
    rw [hW]
    repeat (first | exact Below.refl _ _ | refine Below.alloc ?_ (by simp <;> omega) _)
  have hsz : W.heap.size = w.heap.size + 2 := by rw [hW]; simp
  have q1 : W.cell? ⟨w.heap.size, 1, none⟩ = some (.int .i64 c) := by rw [hW, Fk.cellOld _ _ _ _ (by simp), Fk.cellTop _ _ _ _ _ (by simp)]; rfl
  have q2 : W.cell? ⟨w.heap.size + 1, 1, none⟩ = some (.int .i64 c) := by rw [hW, Fk.cellTop _ _ _ _ _ (by simp)]; rfl
  have h1' := h1.below b0
  have h2' := h2.below b0
  have HW := Fk.hide hW
  clear hW
  obtain ⟨a, cap, rfl, _⟩ := h1
  obtain ⟨a2, cap2, rfl, _⟩ := h2
  go_enter Tryz.func9, Tryz.ntmps9
  go_wp2_with fail
  rw [← HW.out]
  refine (eqFs_same _ _ _ _ h1' h2' hl).mono ?_
  rintro e w1 ⟨rfl, b1⟩
  have p1 : w1.cell? ⟨w.heap.size, 1, none⟩ = some (.int .i64 c) := (b1.cell (by show w.heap.size < _; omega)).trans q1
  have p2 : w1.cell? ⟨w.heap.size + 1, 1, none⟩ = some (.int .i64 c) := (b1.cell (by show w.heap.size + 1 < _; omega)).trans q2
  have b2 : Below w.heap.size w w1 := b0.trans (b1.mono b0.size)
  clear b1 q1 q2
  go_wp2_with fail
  go_ret
  exact ⟨rfl, b2⟩

set_option maxHeartbeats 1000000 in
theorem markFsOut_any (v : Value) (L : List Fk.Fl) (c : Int) (k : Nat) (base : Nat) (w : World) (ho : Fk.Own w base 73 v L) (hl : L.length ≤ 1048576) (hk0 : 0 < k) (hk : k ≤ 1000) :
    Calls Tryz.prog 12 #[.agg #[v, .int .i64 c], .int .i64 k] w fun e w' => (e = .returned (.int .i64 ((k + 3 * L.length : Nat) : Int)) ∧ Fk.Own w' base 73 v (Fk.mks k L.length)) ∧ w.grownBy w' v.ownBlock := by
  have b0 : Below w.heap.size w (w.alloc (.cells #[v, .int .i64 c] 30)) := (Below.refl _ _).alloc (Nat.le_refl _) _
  have ho' := ho.below b0
  have G0 := Fk.hide (Fk.grownBy_below v.ownBlock b0)
  obtain ⟨a, cap, rfl⟩ := ho.slice
  clear ho b0
  go_enter Tryz.func12, Tryz.ntmps12
  go_wp2_with fail
  refine (markFs_any _ L k base _ ho' hl hk0 hk).mono ?_
  rintro e w1 ⟨⟨rfl, o1⟩, g1⟩
  have O1 := Fk.hide o1
  have G1 := Fk.hide (Fk.grownBy_trans G0.out g1)
  clear o1 g1 G0 ho'
  go_wp2_with fail
  go_ret
  exact ⟨⟨rfl, O1.out⟩, G1.out⟩

set_option maxHeartbeats 1000000 in
theorem heldFsOut_any (v : Value) (n k : Nat) (c : Int) (w : World) (hv : Fk.View w v (Fk.mks k n)) (hl : n ≤ 1048576) (hk0 : 0 < k) (hk : k ≤ 1000) :
    Calls Tryz.prog 13 #[.agg #[v, .int .i64 c], .int .i64 k] w fun e w' => e = .returned (.int .i64 ((k + 3 * n : Nat) : Int)) ∧ Below w.heap.size w w' := by
  have b0 : Below w.heap.size w (w.alloc (.cells #[v, .int .i64 c] 30)) := (Below.refl _ _).alloc (Nat.le_refl _) _
  have hv' := hv.below b0
  have HB := Fk.hide b0
  obtain ⟨a, cap, rfl, _⟩ := hv
  clear b0
  have hn0 : (0 : Int) ≤ ((k + 3 * n : Nat) : Int) := by omega
  go_enter Tryz.func13, Tryz.ntmps13
  go_wp2_with fail
  refine (heldFs_any _ n k _ hv' hl hk0 hk).mono ?_
  rintro e w1 ⟨rfl, b1⟩
  have HB1 := Fk.hide (HB.out.trans (b1.mono HB.out.size))
  clear b1 hv'
  obtain ⟨q, hq⟩ : ∃ q : Int, q = ((k + 3 * n : Nat) : Int) := ⟨_, rfl⟩
  rw [← hq] at hn0 ⊢
  have HQ := Fk.hide hq
  clear hq
  go_wp2_with fail
  go_ret
  exact ⟨by rw [← HQ.out]; rfl, HB1.out⟩
end Go.Proofs.YtfefafmcaepoiaaGreatDoor
