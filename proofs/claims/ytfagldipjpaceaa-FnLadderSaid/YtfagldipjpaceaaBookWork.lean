/- The specification's book at work in memory, and the walks of what changes a part of it: tell and put. -/
import Derived.Test.YtfagldipjpaceaaBookMath
import Derived.Test.YtfagldipjpaceaaDoIn
import Derived.Test.YtfagldipjpaceaaJoined6
namespace Go.Proofs.Ytfagldipjpaceaa
open Go.RowKit
set_option linter.unusedVariables false
set_option linter.unusedSimpArgs false
theorem infoEv : (Try.prog.info? 48).map (fun i => (i.zero, i.size, i.bytes)) = some (some (.agg #[.int .i64 0, .int .i64 0, .int .i64 0, .int .i64 0, .int .i64 0]), 5, 40) := by kernel_rfl
structure Bw.Is (w : World) (base b : Nat) (x y z : Value) (X : Dm.Bk) : Prop where
  two : Ob.Two w base 40 x y X.b X.a
  evs : Rk.Own Vt.S w base 48 z X.ev
  hb : base ≤ b
  kind : Wq.Kind w b 102
  c0 : w.cell? ⟨b, 0, none⟩ = some x
  c1 : w.cell? ⟨b, 1, none⟩ = some y
  c2 : w.cell? ⟨b, 2, none⟩ = some (.int .i64 X.n)
  c3 : w.cell? ⟨b, 3, none⟩ = some z
  fr : ∀ j, w.frozen? ⟨b, j, none⟩ = false
theorem Bw.Is.below {w w' : World} {base b : Nat} {x y z : Value} {X : Dm.Bk} (h : Bw.Is w base b x y z X) (hB : Below w.heap.size w w') : Bw.Is w' base b x y z X :=
  have hlt := h.kind.lt
  ⟨h.two.below hB, h.evs.below hB, h.hb, h.kind.of_block (hB.block b hlt), (hB.cell (by exact hlt)).trans h.c0, (hB.cell (by exact hlt)).trans h.c1, (hB.cell (by exact hlt)).trans h.c2, (hB.cell (by exact hlt)).trans h.c3, fun j => (hB.frozen (by exact hlt)).trans (h.fr j)⟩
/-- blocks of cells of other types than books and events stay -/
def Bw.Fr (w w' : World) : Prop := ∀ (q : Nat) (cs : Array Value) (T : TypeId) (fr : Nat × Nat), w.heap[q]? = some (.cells cs T fr) → T ≠ 102 → T ≠ 48 → w'.heap[q]? = w.heap[q]?
theorem Bw.Fr.refl (w : World) : Bw.Fr w w := fun _ _ _ _ _ _ _ => rfl
theorem Bw.Fr.trans {a b c : World} (h : Bw.Fr a b) (k : Bw.Fr b c) : Bw.Fr a c := fun q cs T fr hq h1 h2 => by
  have e := h q cs T fr hq h1 h2
  exact (k q cs T fr (e.trans hq) h1 h2).trans e
theorem Bw.Fr.of_below {w w' : World} (h : Below w.heap.size w w') : Bw.Fr w w' := fun q cs T fr hq _ _ => h.block q (Array.getElem?_eq_some_iff.1 hq).1
theorem Bw.Fr.cell {w w' : World} (h : Bw.Fr w w') {q j : Nat} {T : TypeId} (hk : Wq.Kind w q T) (h1 : T ≠ 102) (h2 : T ≠ 48) : w'.cell? ⟨q, j, none⟩ = w.cell? ⟨q, j, none⟩ := by
  obtain ⟨cs, fr, hq⟩ := hk
  exact World.cell?_of_block (h q cs T fr hq h1 h2)
theorem Bw.Fr.own {α : Type} {S : Rk.Shape α} {w w' : World} (h : Bw.Fr w w') {base : Nat} {e : TypeId} {v : Value} {L : List α} (ho : Rk.Own S w base e v L) (h1 : e ≠ 102) (h2 : e ≠ 48) : Rk.Own S w' base e v L := by
  refine Rk.own_block ho fun k hk => ?_
  obtain ⟨_, hn | ⟨g, cap, cur, hv, _, hg, _⟩⟩ := ho
  · rw [hn.1] at hk; cases hk
  · have : g = k := by rw [hv] at hk; simpa [Value.ownBlock] using hk
    subst this
    exact h _ _ _ _ hg h1 h2
theorem Wq.Kind.ne {w : World} {b q : Nat} {T T' : TypeId} {cs : Array Value} {fr : Nat × Nat} (h : Wq.Kind w b T) (hq : w.heap[q]? = some (.cells cs T' fr)) (hne : T' ≠ T) : q ≠ b := by
  intro e
  obtain ⟨cs', fr', h⟩ := h
  rw [e, h] at hq
  simp only [Option.some.injEq, Obj.cells.injEq] at hq
  exact hne hq.2.1.symm
/-- a store into a box that is no part of the book leaves the book -/
theorem Bw.Is.setBox {w : World} {base b q : Nat} {x y z : Value} {X : Dm.Bk} {T : TypeId} (h : Bw.Is w base b x y z X) (hq : Wq.Kind w q T) (h1 : T ≠ 102) (h2 : T ≠ 48) (hx : ∀ k, x.ownBlock = some k → k ≠ q) (hy : ∀ k, y.ownBlock = some k → k ≠ q) (i : Nat) (u : Value) : Bw.Is (w.setCell ⟨q, i, none⟩ u) base b x y z X := by
  have hg := Fk.grownBy_setCell w q i u
  have hbq : q ≠ b := by
    obtain ⟨cs, fr, hc⟩ := hq
    exact h.kind.ne hc h1
  have he : (w.setCell ⟨q, i, none⟩ u).heap[b]? = w.heap[b]? := hg.block b h.kind.lt (fun e => hbq (Option.some.inj e).symm)
  refine ⟨⟨h.two.b.kept hg (fun k hk e => hx k hk (Option.some.inj e)), h.two.a.kept hg (fun k hk e => hy k hk (Option.some.inj e)), h.two.ne⟩, h.evs.kept hg (fun k hk e => hq.off h.evs h2 (by rw [hk, Option.some.inj e])), h.hb, h.kind.of_block he, ?_, ?_, ?_, ?_, fun j => (World.frozen?_of_block (a := ⟨b, j, none⟩) he).trans (h.fr j)⟩
  · exact (World.cell?_of_block (a := ⟨b, 0, none⟩) he).trans h.c0
  · exact (World.cell?_of_block (a := ⟨b, 1, none⟩) he).trans h.c1
  · exact (World.cell?_of_block (a := ⟨b, 2, none⟩) he).trans h.c2
  · exact (World.cell?_of_block (a := ⟨b, 3, none⟩) he).trans h.c3
set_option maxRecDepth 100000 in
set_option maxHeartbeats 2000000 in
theorem bookTell_any (base b : Nat) (x y z : Value) (X : Dm.Bk) (k i o p a : Int) (w : World) (h : Bw.Is w base b x y z X) (hw : base ≤ w.heap.size) (hl : X.ev.length ≤ 1048576) :
    Calls Try.prog 98 #[.pointer (some ⟨b, 0, none⟩), .agg #[.int .i64 k, .int .i64 i, .int .i64 o, .int .i64 p, .int .i64 a]] w fun e w' => e = .returned (.tuple #[]) ∧ (∃ z', Bw.Is w' base b x y z' (X.tell (k, i, o, p, a))) ∧ Below base w w' ∧ Bw.Fr w w' := by
  obtain ⟨i0, hi, hz0, hz1, hz2⟩ := info_parts infoEv
  have hb := h.kind.lt
  have HNE := Fk.hide (h.kind.off h.evs (by decide))
  have HNX := Fk.hide (h.kind.off h.two.b (by decide))
  have HNY := Fk.hide (h.kind.off h.two.a (by decide))
  have HXE : Hid (∀ j, x.ownBlock = some j → z.ownBlock ≠ some j) := fun j hj e => by
    obtain ⟨_, hn | ⟨g, cap, cur, hv, _, hg, _⟩⟩ := h.two.b
    · rw [hn.1] at hj; cases hj
    · have : g = j := by rw [hv] at hj; simpa [Value.ownBlock] using hj
      subst this
      exact Wq.Kind.off ⟨_, _, hg⟩ h.evs (by decide) e
  have HYE : Hid (∀ j, y.ownBlock = some j → z.ownBlock ≠ some j) := fun j hj e => by
    obtain ⟨_, hn | ⟨g, cap, cur, hv, _, hg, _⟩⟩ := h.two.a
    · rw [hn.1] at hj; cases hj
    · have : g = j := by rw [hv] at hj; simpa [Value.ownBlock] using hj
      subst this
      exact Wq.Kind.off ⟨_, _, hg⟩ h.evs (by decide) e
  have c3 := h.c3
  have f3 := h.fr 3
  have HH := Fk.hide h
  obtain ⟨az, nz, capz, rfl⟩ := h.evs.slice'
  obtain ⟨W, hW⟩ : ∃ W, W = w.alloc (.cells #[.int .i64 k, .int .i64 i, .int .i64 o, .int .i64 p, .int .i64 a] 48) := ⟨_, rfl⟩
  have bW : Below w.heap.size w W := by rw [hW]; exact (Below.refl _ _).alloc (Nat.le_refl _) _
  have hzW : w.heap.size < W.heap.size := by rw [hW]; simp
  have HW := Fk.hide hW
  have HBW := Fk.hide bW
  have r0 : W.cell? ⟨w.heap.size, 0, none⟩ = some (.int .i64 k) := by rw [hW, Fk.cellTop _ _ _ _ _ rfl]; rfl
  have r1 : W.cell? ⟨w.heap.size, 1, none⟩ = some (.int .i64 i) := by rw [hW, Fk.cellTop _ _ _ _ _ rfl]; rfl
  have r2 : W.cell? ⟨w.heap.size, 2, none⟩ = some (.int .i64 o) := by rw [hW, Fk.cellTop _ _ _ _ _ rfl]; rfl
  have r3 : W.cell? ⟨w.heap.size, 3, none⟩ = some (.int .i64 p) := by rw [hW, Fk.cellTop _ _ _ _ _ rfl]; rfl
  have r4 : W.cell? ⟨w.heap.size, 4, none⟩ = some (.int .i64 a) := by rw [hW, Fk.cellTop _ _ _ _ _ rfl]; rfl
  have z3 : W.cell? ⟨b, 3, none⟩ = some (.slice az nz capz) := (bW.cell (by exact hb)).trans c3
  have bX : Below W.heap.size W (W.alloc (.cells #[.int .i64 k, .int .i64 i, .int .i64 o, .int .i64 p, .int .i64 a] 48)) := (Below.refl _ _).alloc (Nat.le_refl _) _
  have y3 : (W.alloc (.cells #[.int .i64 k, .int .i64 i, .int .i64 o, .int .i64 p, .int .i64 a] 48)).cell? ⟨b, 3, none⟩ = some (.slice az nz capz) := (Fk.cellOld _ _ _ _ (Nat.lt_of_lt_of_le hb bW.size)).trans z3
  have HBX := Fk.hide (bW.trans (bX.mono bW.size))
  have HOX := Fk.hide ((h.evs.below bW).below bX)
  have HVX := Fk.hide (Rk.view_lit1 (S := Vt.S) W 48 #[.int .i64 k, .int .i64 i, .int .i64 o, .int .i64 p, .int .i64 a] (k, i, o, p, a) rfl)
  have HLT : Hid (∀ j, (Value.slice az nz capz).ownBlock = some j → base ≤ j) := fun j hj => (h.evs.lt j hj).1
  have HLE : Hid (X.ev.length + [((k, i, o, p, a) : Vt.E)].length ≤ 1000000000) := by show _ ≤ _; simp; omega
  have HSZ : Hid (base ≤ (W.alloc (.cells #[.int .i64 k, .int .i64 i, .int .i64 o, .int .i64 p, .int .i64 a] 48)).heap.size) := by show _ ≤ _; simp; omega
  clear bX bW h hl hW
  go_enter Try.func98, Try.ntmps98
  go_wp2_with fail
  rw [← HW.out]
  go_region_law
    (first
      | (refine Rk.step_append_view _ (by rfl) _ _ 30 (by rfl) base 48 i0 _ 5 40 rfl Try.underlying30 hi hz0 hz1 hz2 (by rfl) (by decide) (.slice az nz capz) (.slice (some ⟨W.heap.size, 0, none⟩) 1 1) X.ev [(k, i, o, p, a)] (by rfl) (by rfl) HOX.out HVX.out (Rk.shut_some _ _ _) HLE.out HSZ.out ?_; intro u6 w6 o6 g6; have HB6 : Hid (Below base w w6) := (Below.drew (HBX.out.mono hw)).grown g6 HSZ.out HLT.out; have HEQ : Hid (∀ q, q < w.heap.size → (Value.slice az nz capz).ownBlock ≠ some q → w6.heap[q]? = w.heap[q]?) := (fun q hq hne => (g6.block q (Nat.lt_of_lt_of_le hq HBX.out.size) (fun e => hne e.symm)).trans (HBX.out.block q hq)); have HO6 := Fk.hide o6; obtain ⟨x6, n6, c6, rfl⟩ := o6.slice'; have d3 : w6.cell? ⟨b, 3, none⟩ = some (.slice az nz capz) := (World.cell?_of_block (a := ⟨b, 3, none⟩) (HEQ.out b hb HNE.out)).trans c3; have df : w6.frozen? ⟨b, 3, none⟩ = false := (World.frozen?_of_block (a := ⟨b, 3, none⟩) (HEQ.out b hb HNE.out)).trans f3; clear o6 g6))
  all_goals
    have HK6 : Hid (Wq.Kind w6 b 102) := HH.out.kind.of_block (HEQ.out b hb HNE.out)
    have HX6 : Hid (Rk.Own Or.S w6 base 40 x X.b) := Rk.own_block HH.out.two.b (fun q hq => HEQ.out q (HH.out.two.b.lt q hq).2 (HXE.out q hq))
    have HY6 : Hid (Rk.Own Or.S w6 base 40 y X.a) := Rk.own_block HH.out.two.a (fun q hq => HEQ.out q (HH.out.two.a.lt q hq).2 (HYE.out q hq))
    have HC : Hid (∀ j u, w.cell? ⟨b, j, none⟩ = some u → w6.cell? ⟨b, j, none⟩ = some u) := fun j u h => (World.cell?_of_block (a := ⟨b, j, none⟩) (HEQ.out b hb HNE.out)).trans h
    have HF : Hid (∀ j, w6.frozen? ⟨b, j, none⟩ = false) := fun j => (World.frozen?_of_block (a := ⟨b, j, none⟩) (HEQ.out b hb HNE.out)).trans (HH.out.fr j)
    have HN : Hid (∀ j, j ≠ 3 → (⟨b, 3, none⟩ : Addr) ≠ ⟨b, j, none⟩) := fun j hj e => hj (by have := congrArg Addr.off e; simpa using this.symm)
    refine bodyPost_end (v := .tuple #[]) (by simp [results, Try.results98, go_sem] <;> rfl) rfl ⟨rfl, ⟨_, ⟨⟨?_, ?_, HH.out.two.ne⟩, ?_, HH.out.hb, HK6.out.setCell _ _, ?_, ?_, ?_, World.cell?_setCell_same _ _ _ d3, ?_⟩⟩, HB6.out.setCell HH.out.hb _, ?_⟩
    · exact HX6.out.kept (Fk.grownBy_setCell _ b 3 _) (fun j hj e => HK6.out.off HX6.out (by decide) (by cases e; exact hj))
    · exact HY6.out.kept (Fk.grownBy_setCell _ b 3 _) (fun j hj e => HK6.out.off HY6.out (by decide) (by cases e; exact hj))
    · exact HO6.out.kept (Fk.grownBy_setCell _ b 3 _) (fun j hj e => HK6.out.off HO6.out (by decide) (by cases e; exact hj))
    · exact (World.cell?_setCell_other _ _ _ _ (HN.out 0 (by decide))).trans (HC.out 0 _ HH.out.c0)
    · exact (World.cell?_setCell_other _ _ _ _ (HN.out 1 (by decide))).trans (HC.out 1 _ HH.out.c1)
    · exact (World.cell?_setCell_other _ _ _ _ (HN.out 2 (by decide))).trans (HC.out 2 _ HH.out.c2)
    · intro j
      rw [World.frozen?_setCell]
      exact HF.out j
    · intro q cs T fr hq h1 h2
      have hlt := (Array.getElem?_eq_some_iff.1 hq).1
      have e6 := HEQ.out q hlt (Wq.Kind.off ⟨cs, fr, hq⟩ HH.out.evs h2)
      exact ((Fk.grownBy_setCell w6 b 3 _).block q (by have := (Array.getElem?_eq_some_iff.1 (e6.trans hq)).1; exact this) (fun e => HH.out.kind.ne hq h1 (Option.some.inj e))).trans e6
set_option maxHeartbeats 2000000 in
theorem bookPut_any (base b : Nat) (x y z l : Value) (X : Dm.Bk) (N : List Or.E) (buy : Bool) (w : World) (h : Bw.Is w base b x y z X) (hw : base ≤ w.heap.size) (hl : Rk.Own Or.S w base 40 l N) (hne : ∀ k, l.ownBlock = some k → (Ob.pick buy y x).ownBlock ≠ some k) :
    Calls Try.prog 102 #[.pointer (some ⟨b, 0, none⟩), .bool buy, l] w fun e w' => e = .returned (.tuple #[]) ∧ Bw.Is w' base b (Ob.pick buy l x) (Ob.pick buy y l) z (X.put buy N) ∧ Below base w w' ∧ Bw.Fr w w' := by
  have hb := h.kind.lt
  have HH := Fk.hide h
  have HL := Fk.hide hl
  have HNL := Fk.hide hne
  have c0 := h.c0
  have c1 := h.c1
  have f0 := h.fr 0
  have f1 := h.fr 1
  obtain ⟨al, nl, cl, rfl⟩ := hl.slice'
  obtain ⟨ax, nx, cx, rfl⟩ := h.two.b.slice'
  obtain ⟨ay, ny, cy, rfl⟩ := h.two.a.slice'
  clear h hl hne
  have HN : Hid (∀ i j, i ≠ j → (⟨b, i, none⟩ : Addr) ≠ ⟨b, j, none⟩) := fun i j hj e => hj (by have := congrArg Addr.off e; simpa using this)
  have HKX : Hid (∀ (α : Type) (S : Rk.Shape α) v (L : List α) e u i, 102 ≠ e → Rk.Own S w base e v L → Rk.Own S (w.setCell ⟨b, i, none⟩ u) base e v L) := fun α S v L e u i hne ho => ho.kept (Fk.grownBy_setCell _ b i _) (fun j hj e => HH.out.kind.off ho hne (by cases e; exact hj))
  cases buy
  · go_enter Try.func102, Try.ntmps102
    go_wp2_with fail
    refine bodyPost_end (v := .tuple #[]) (by simp [results, Try.results102, go_sem] <;> rfl) rfl ⟨rfl, ⟨⟨?_, ?_, ?_⟩, ?_, HH.out.hb, HH.out.kind.setCell _ _, ?_, World.cell?_setCell_same _ _ _ c1, ?_, ?_, ?_⟩, (Below.refl _ _).setCell HH.out.hb _, fun q cs T fr hq h1 h2 => (Fk.grownBy_setCell w b _ _).block q (Array.getElem?_eq_some_iff.1 hq).1 (fun e => HH.out.kind.ne hq h1 (Option.some.inj e))⟩
    · exact HKX.out _ _ _ _ _ _ _ (by decide) HH.out.two.b
    · exact HKX.out _ _ _ _ _ _ _ (by decide) HL.out
    · exact fun k hk e => HNL.out k e hk
    · exact HKX.out _ _ _ _ _ _ _ (by decide) HH.out.evs
    · exact (World.cell?_setCell_other _ _ _ _ (HN.out 1 0 (by decide))).trans c0
    · exact (World.cell?_setCell_other _ _ _ _ (HN.out 1 2 (by decide))).trans HH.out.c2
    · exact (World.cell?_setCell_other _ _ _ _ (HN.out 1 3 (by decide))).trans HH.out.c3
    · intro j
      rw [World.frozen?_setCell]
      exact HH.out.fr j
  · go_enter Try.func102, Try.ntmps102
    go_wp2_with fail
    refine bodyPost_end (v := .tuple #[]) (by simp [results, Try.results102, go_sem] <;> rfl) rfl ⟨rfl, ⟨⟨?_, ?_, ?_⟩, ?_, HH.out.hb, HH.out.kind.setCell _ _, World.cell?_setCell_same _ _ _ c0, ?_, ?_, ?_, ?_⟩, (Below.refl _ _).setCell HH.out.hb _, fun q cs T fr hq h1 h2 => (Fk.grownBy_setCell w b _ _).block q (Array.getElem?_eq_some_iff.1 hq).1 (fun e => HH.out.kind.ne hq h1 (Option.some.inj e))⟩
    · exact HKX.out _ _ _ _ _ _ _ (by decide) HL.out
    · exact HKX.out _ _ _ _ _ _ _ (by decide) HH.out.two.a
    · exact fun k hk => HNL.out k hk
    · exact HKX.out _ _ _ _ _ _ _ (by decide) HH.out.evs
    · exact (World.cell?_setCell_other _ _ _ _ (HN.out 0 1 (by decide))).trans c1
    · exact (World.cell?_setCell_other _ _ _ _ (HN.out 0 2 (by decide))).trans HH.out.c2
    · exact (World.cell?_setCell_other _ _ _ _ (HN.out 0 3 (by decide))).trans HH.out.c3
    · intro j
      rw [World.frozen?_setCell]
      exact HH.out.fr j
end Go.Proofs.Ytfagldipjpaceaa
