/- The walk of the program's newWork.addLevel: a level's orders go into the map. -/
import Derived.Test.YtjagohadeegghaaQueueAdd
import Derived.Test.YtjagohadeegghaaStandKit
import Derived.Test.YtjagohadeegghaaLevelKit
import Derived.Deep.RegionHeld3
import Derived.Test.YtjagohadeegghaaRowsWhere
namespace Go.Proofs.Ytjagohadeegghaa
open Go.RowKit
set_option linter.unusedVariables false
set_option linter.unusedSimpArgs false
namespace Wk
/-- a level that is worked on: where its ids lie, and its price -/
abbrev H := (Option Addr × Nat × Nat) × Int
def S : Rk.Shape H where
  m := 2
  cs h := [.slice h.1.1 h.1.2.1 h.1.2.2, .int .i64 h.2]
  z := ((none, 0, 0), 0)
  pos := by decide
  len := fun _ => rfl
  one := fun a u hu => by
    simp at hu
    rcases hu with rfl | rfl <;> rfl
/-- a book that is worked on: block P, its map in block M, which holds what g says; all of it lies from base on, and below top -/
structure Nw (w : World) (base top P M n lev : Nat) (g : Int → So.E) : Prop where
  P0 : base ≤ P
  P1 : P < top
  M0 : base ≤ M
  M1 : M < top
  kd : Wq.Kind w P 123
  mp : w.cell? ⟨P, 1, none⟩ = some (.map (some M))
  fz : ∀ j, w.frozen? ⟨P, j, none⟩ = false
  hold : So.Holds w Try.prog 2 M n g
  ls : ∃ u v Lb La, w.cell? ⟨P, 2, none⟩ = some u ∧ w.cell? ⟨P, 3, none⟩ = some v ∧ Rk.Own S w base 184 u Lb ∧ Rk.Own S w base 184 v La ∧ Lb.length ≤ lev ∧ La.length ≤ lev ∧ (∀ k, u.ownBlock = some k → v.ownBlock ≠ some k) ∧ (∀ k, u.ownBlock = some k → k < top) ∧ (∀ k, v.ownBlock = some k → k < top)
theorem own_block {α : Type} {S : Rk.Shape α} {w w' : World} {base : Nat} {e : TypeId} {v : Value} {L : List α} (h : Rk.Own S w base e v L) (hb : ∀ k, v.ownBlock = some k → w'.heap[k]? = w.heap[k]?) : Rk.Own S w' base e v L := by
  obtain ⟨hl, hn | ⟨g, cap, cur, hv, hbb, hg, r⟩⟩ := h
  · exact ⟨hl, .inl hn⟩
  · exact ⟨hl, .inr ⟨g, cap, cur, hv, hbb, (hb g (by rw [hv]; rfl)).trans hg, r⟩⟩
/-- what lies below top stays -/
theorem Nw.keep {w w' : World} {base top P M n lev : Nat} {g : Int → So.E} (h : Nw w base top P M n lev g) (hB : Below top w w') : Nw w' base top P M n lev g := by
  obtain ⟨u, v, Lb, La, h1, h2, h3, h4, h5, h6, h7, h8, h9⟩ := h.ls
  exact ⟨h.P0, h.P1, h.M0, h.M1, h.kd.of_block (hB.block P h.P1), (hB.cell (p := ⟨P, 1, none⟩) h.P1).trans h.mp, fun j => (hB.frozen (p := ⟨P, j, none⟩) h.P1).trans (h.fz j), h.hold.of_block (hB.block M h.M1), u, v, Lb, La, (hB.cell (p := ⟨P, 2, none⟩) h.P1).trans h1, (hB.cell (p := ⟨P, 3, none⟩) h.P1).trans h2, own_block h3 (fun k hk => hB.block k (h8 k hk)), own_block h4 (fun k hk => hB.block k (h9 k hk)), h5, h6, h7, h8, h9⟩
/-- the map's block is no block of cells -/
theorem holds_off {w : World} {M n : Nat} {g : Int → So.E} (h : So.Holds w Try.prog 2 M n g) {b : Nat} {T : TypeId} (hk : Wq.Kind w b T) : b ≠ M := by
  intro e
  subst e
  obtain ⟨D, h1, _⟩ := h.ex
  obtain ⟨cs, fr, h2⟩ := hk
  unfold World.ownsMap at h1
  obtain ⟨es, clock, h3, _⟩ := h1
  rw [h3] at h2
  cases h2
/-- one more in the map -/
theorem Nw.put {w w' : World} {base top P M n lev : Nat} {g : Int → So.E} (h : Nw w base top P M n lev g) {s : So.E} (hp : So.Holds w' Try.prog 2 M (n + 1) (So.put g s)) (hg : w.grownBy w' (some M)) : Nw w' base top P M (n + 1) lev (So.put g s) := by
  obtain ⟨u, v, Lb, La, h1, h2, h3, h4, h5, h6, h7, h8, h9⟩ := h.ls
  have hPM := holds_off h.hold h.kd
  have hne : some P ≠ some M := fun e => hPM (by simpa using e)
  have off : ∀ {x : Value} {L : List H}, Rk.Own S w base 184 x L → ∀ k, x.ownBlock = some k → some k ≠ some M := fun {x L} ho k hk e => by
    obtain ⟨_, hn | ⟨gg, cap, cur, hv, _, hgg, _⟩⟩ := ho
    · rw [hn.1] at hk; cases hk
    · rw [hv] at hk
      have e1 : gg = k := by simpa [Value.ownBlock] using hk
      have e2 : k = M := by simpa using e
      exact holds_off h.hold ⟨cur, (0, 0), hgg⟩ (by rw [e1, e2])
  have hb := hg.block P h.kd.lt hne
  exact ⟨h.P0, h.P1, h.M0, h.M1, h.kd.of_block hb, hg.cell h.mp hne, fun j => (World.frozen?_of_block (a := ⟨P, j, none⟩) hb).trans (h.fz j), hp, u, v, Lb, La, hg.cell h1 hne, hg.cell h2 hne, h3.kept hg (off h3), h4.kept hg (off h4), h5, h6, h7, h8, h9⟩
/-- one more level at work, on the side of cell 2 -/
theorem Nw.bid {w Z w7 : World} {base top P M n lev : Nat} {g : Int → So.E} {u v u' : Value} {Lb La : List H} {x : H} (h : Nw w base top P M n lev g) (h1 : w.cell? ⟨P, 2, none⟩ = some u) (h2 : w.cell? ⟨P, 3, none⟩ = some v) (h3 : Rk.Own S w base 184 u Lb) (h4 : Rk.Own S w base 184 v La) (h5 : Lb.length ≤ lev) (h6 : La.length ≤ lev) (h7 : ∀ k, u.ownBlock = some k → v.ownBlock ≠ some k) (h8 : ∀ k, u.ownBlock = some k → k < top) (h9 : ∀ k, v.ownBlock = some k → k < top)
    (ht : top ≤ w.heap.size) (bZ : Below w.heap.size w Z) (g7 : Z.grownBy w7 u.ownBlock) (o7 : Rk.Own S w7 base 184 u' (Lb ++ [x])) (n7 : ∀ k, u'.ownBlock = some k → u.ownBlock = some k ∨ Z.heap.size ≤ k) :
    Nw (w7.setCell ⟨P, 2, none⟩ u') base (w7.setCell ⟨P, 2, none⟩ u').heap.size P M n (lev + 1) g := by
  have hzz : (w7.setCell ⟨P, 2, none⟩ u').heap.size = w7.heap.size := by simp [World.setCell]
  have hz1 : w.heap.size ≤ Z.heap.size := bZ.size
  have hz2 : Z.heap.size ≤ w7.heap.size := g7.size
  have blk : ∀ k, k < w.heap.size → u.ownBlock ≠ some k → w7.heap[k]? = w.heap[k]? := fun k hk hne => (g7.block k (by omega) (fun e => hne e.symm)).trans (bZ.block k hk)
  have hPu : u.ownBlock ≠ some P := h.kd.off h3 (by decide)
  have hP := h.P1
  have hM := h.M1
  have hMu : u.ownBlock ≠ some M := fun e => by
    obtain ⟨_, hn | ⟨gg, cap, cur, hv, _, hgg, _⟩⟩ := h3
    · rw [hn.1] at e; cases e
    · rw [hv] at e
      have e1 : gg = M := by simpa [Value.ownBlock] using e
      exact holds_off h.hold ⟨cur, (0, 0), hgg⟩ e1
  have hPM : P ≠ M := holds_off h.hold h.kd
  have bP := blk P (by omega) hPu
  have bM := blk M (by omega) hMu
  have kd7 := h.kd.of_block bP
  have c2 : (w7.setCell ⟨P, 2, none⟩ u').cell? ⟨P, 2, none⟩ = some u' := World.cell?_setCell_same _ _ _ ((World.cell?_of_block (a := ⟨P, 2, none⟩) bP).trans h1)
  have c3 : (w7.setCell ⟨P, 2, none⟩ u').cell? ⟨P, 3, none⟩ = some v := (World.cell?_setCell_other _ _ _ _ (by intro h; simp only [Addr.mk.injEq] at h; omega)).trans ((World.cell?_of_block (a := ⟨P, 3, none⟩) bP).trans h2)
  have hu' : u'.ownBlock ≠ some P := kd7.off o7 (by decide)
  have hv' : v.ownBlock ≠ some P := h.kd.off h4 (by decide)
  have own2 : Rk.Own S (w7.setCell ⟨P, 2, none⟩ u') base 184 u' (Lb ++ [x]) := o7.kept (Fk.grownBy_setCell _ P 2 _) (fun k hk e => hu' (by rw [hk]; exact e))
  have own3 : Rk.Own S (w7.setCell ⟨P, 2, none⟩ u') base 184 v La := own_block h4 (fun k hk => (Below.heap_setCell _ _ _ _ (fun e => hv' (by rw [hk, e]))).trans (blk k (by have := h9 k hk; omega) (fun e => h7 k e hk)))
  have ne1 : ∀ k, u'.ownBlock = some k → v.ownBlock ≠ some k := fun k hk hk' => by
    rcases n7 k hk with h | h
    · exact h7 k h hk'
    · have := h9 k hk'; omega
  have top1 : ∀ k, u'.ownBlock = some k → k < (w7.setCell ⟨P, 2, none⟩ u').heap.size := fun k hk => by have := (o7.lt k hk).2; omega
  have top2 : ∀ k, v.ownBlock = some k → k < (w7.setCell ⟨P, 2, none⟩ u').heap.size := fun k hk => by have := h9 k hk; omega
  exact ⟨h.P0, by omega, h.M0, by omega, kd7.setCell _ _, (World.cell?_setCell_other _ _ _ _ (by intro h; simp only [Addr.mk.injEq] at h; omega)).trans ((World.cell?_of_block (a := ⟨P, 1, none⟩) bP).trans h.mp), fun j => by have := (World.frozen?_of_block (a := ⟨P, j, none⟩) bP).trans (h.fz j); simpa using this, (h.hold.of_block bM).of_block (Below.heap_setCell _ _ _ _ (fun e => hPM e.symm)), ⟨u', v, _, La, c2, c3, own2, own3, by simp; omega, by omega, ne1, top1, top2⟩⟩
/-- one more level at work, on the side of cell 3 -/
theorem Nw.ask {w Z w7 : World} {base top P M n lev : Nat} {g : Int → So.E} {u v v' : Value} {Lb La : List H} {x : H} (h : Nw w base top P M n lev g) (h1 : w.cell? ⟨P, 2, none⟩ = some u) (h2 : w.cell? ⟨P, 3, none⟩ = some v) (h3 : Rk.Own S w base 184 u Lb) (h4 : Rk.Own S w base 184 v La) (h5 : Lb.length ≤ lev) (h6 : La.length ≤ lev) (h7 : ∀ k, u.ownBlock = some k → v.ownBlock ≠ some k) (h8 : ∀ k, u.ownBlock = some k → k < top) (h9 : ∀ k, v.ownBlock = some k → k < top)
    (ht : top ≤ w.heap.size) (bZ : Below w.heap.size w Z) (g7 : Z.grownBy w7 v.ownBlock) (o7 : Rk.Own S w7 base 184 v' (La ++ [x])) (n7 : ∀ k, v'.ownBlock = some k → v.ownBlock = some k ∨ Z.heap.size ≤ k) :
    Nw (w7.setCell ⟨P, 3, none⟩ v') base (w7.setCell ⟨P, 3, none⟩ v').heap.size P M n (lev + 1) g := by
  have hzz : (w7.setCell ⟨P, 3, none⟩ v').heap.size = w7.heap.size := by simp [World.setCell]
  have hz1 : w.heap.size ≤ Z.heap.size := bZ.size
  have hz2 : Z.heap.size ≤ w7.heap.size := g7.size
  have blk : ∀ k, k < w.heap.size → v.ownBlock ≠ some k → w7.heap[k]? = w.heap[k]? := fun k hk hne => (g7.block k (by omega) (fun e => hne e.symm)).trans (bZ.block k hk)
  have hPu : v.ownBlock ≠ some P := h.kd.off h4 (by decide)
  have hP := h.P1
  have hM := h.M1
  have hMu : v.ownBlock ≠ some M := fun e => by
    obtain ⟨_, hn | ⟨gg, cap, cur, hv, _, hgg, _⟩⟩ := h4
    · rw [hn.1] at e; cases e
    · rw [hv] at e
      have e1 : gg = M := by simpa [Value.ownBlock] using e
      exact holds_off h.hold ⟨cur, (0, 0), hgg⟩ e1
  have hPM : P ≠ M := holds_off h.hold h.kd
  have bP := blk P (by omega) hPu
  have bM := blk M (by omega) hMu
  have kd7 := h.kd.of_block bP
  have c2 : (w7.setCell ⟨P, 3, none⟩ v').cell? ⟨P, 3, none⟩ = some v' := World.cell?_setCell_same _ _ _ ((World.cell?_of_block (a := ⟨P, 3, none⟩) bP).trans h2)
  have c3 : (w7.setCell ⟨P, 3, none⟩ v').cell? ⟨P, 2, none⟩ = some u := (World.cell?_setCell_other _ _ _ _ (by intro h; simp only [Addr.mk.injEq] at h; omega)).trans ((World.cell?_of_block (a := ⟨P, 2, none⟩) bP).trans h1)
  have hu' : v'.ownBlock ≠ some P := kd7.off o7 (by decide)
  have hv' : u.ownBlock ≠ some P := h.kd.off h3 (by decide)
  have own2 : Rk.Own S (w7.setCell ⟨P, 3, none⟩ v') base 184 v' (La ++ [x]) := o7.kept (Fk.grownBy_setCell _ P 3 _) (fun k hk e => hu' (by rw [hk]; exact e))
  have own3 : Rk.Own S (w7.setCell ⟨P, 3, none⟩ v') base 184 u Lb := own_block h3 (fun k hk => (Below.heap_setCell _ _ _ _ (fun e => hv' (by rw [hk, e]))).trans (blk k (by have := h8 k hk; omega) (fun e => (fun k hv hu => h7 k hu hv) k e hk)))
  have ne1 : ∀ k, v'.ownBlock = some k → u.ownBlock ≠ some k := fun k hk hk' => by
    rcases n7 k hk with h | h
    · exact (fun k hv hu => h7 k hu hv) k h hk'
    · have := h8 k hk'; omega
  have top1 : ∀ k, v'.ownBlock = some k → k < (w7.setCell ⟨P, 3, none⟩ v').heap.size := fun k hk => by have := (o7.lt k hk).2; omega
  have top2 : ∀ k, u.ownBlock = some k → k < (w7.setCell ⟨P, 3, none⟩ v').heap.size := fun k hk => by have := h8 k hk; omega
  exact ⟨h.P0, by omega, h.M0, by omega, kd7.setCell _ _, (World.cell?_setCell_other _ _ _ _ (by intro h; simp only [Addr.mk.injEq] at h; omega)).trans ((World.cell?_of_block (a := ⟨P, 1, none⟩) bP).trans h.mp), fun j => by have := (World.frozen?_of_block (a := ⟨P, j, none⟩) bP).trans (h.fz j); simpa using this, (h.hold.of_block bM).of_block (Below.heap_setCell _ _ _ _ (fun e => hPM e.symm)), ⟨u, v', Lb, _, c3, c2, own3, own2, by omega, by simp; omega, fun k hk hk' => ne1 k hk' hk, top2, top1⟩⟩
end Wk
set_option maxHeartbeats 400000 in
theorem nwSide_yes (P : Nat) (w : World) : Calls Try.prog 161 #[.pointer (some ⟨P, 0, none⟩), .bool true] w fun e w' => e = .returned (.pointer (some ⟨P, 2, none⟩)) ∧ w' = w := by
  go_enter Try.func161, Try.ntmps161
  go_wp2_with fail
  go_ret
  exact ⟨rfl, rfl⟩
set_option maxHeartbeats 400000 in
theorem nwSide_no (P : Nat) (w : World) : Calls Try.prog 161 #[.pointer (some ⟨P, 0, none⟩), .bool false] w fun e w' => e = .returned (.pointer (some ⟨P, 3, none⟩)) ∧ w' = w := by
  go_enter Try.func161, Try.ntmps161
  go_wp2_with fail
  go_ret
  exact ⟨rfl, rfl⟩
theorem infoWl : (Try.prog.info? 184).map (fun i => (i.zero, i.size, i.bytes)) = some (some (.agg #[.slice none 0 0, .int .i64 0]), 2, 32) := by kernel_rfl
theorem keyed64 : Maps.Keyed Try.prog 2 := Maps.int_keyed Try.underlying2
set_option maxRecDepth 100000 in
set_option maxHeartbeats 8000000 in
theorem addLevel_any (base P M n lev : Nat) (g : Int → So.E) (pr : Int) (lv : Value) (buy : Bool) (E2 : List Or.E) (wA w : World) (hn : Wk.Nw w base w.heap.size P M n lev g) (hv : Rk.View Or.S wA lv E2) (hA : wA.heap.size ≤ base) (hB : Below wA.heap.size wA w) (hw : base ≤ w.heap.size) (hl : E2.length ≤ 24) (hids : ∀ o ∈ E2, 1 ≤ o.1 ∧ o.1 ≤ 1000000) (hn1 : n + E2.length ≤ 1000) (hlev : lev ≤ 1000) :
    Calls Try.prog 124 #[.pointer (some ⟨P, 0, none⟩), .agg #[.int .i64 pr, lv], .bool buy] w fun e w' => e = .returned (.tuple #[]) ∧ Wk.Nw w' base w'.heap.size P M (n + E2.length) (lev + 1) (E2.foldl (fun g o => So.put g (o, buy)) g) ∧ Below base w w' ∧ (∀ k T, k < w.heap.size → Wq.Kind w k T → T ≠ 123 → T ≠ 184 → w'.heap[k]? = w.heap[k]?) := by
  obtain ⟨i0, hi, hz0, hz1, hz2⟩ := info_parts infoWl
  obtain ⟨a0, cap0, rfl, hs⟩ := hv
  have HID := Fk.hide hids
  clear hids
  have HN := Fk.hide hn
  have hP1 : P < w.heap.size := hn.P1
  have hM1 : M < w.heap.size := hn.M1
  clear hn
  have bX : Below w.heap.size w ((w.alloc (.cells #[.int .i64 pr, .slice a0 E2.length cap0] 103)).alloc (.cells #[.slice none 0 0, .int .i64 pr] 184)) := ((Below.refl _ _).alloc (Nat.le_refl _) _).alloc (by simp) _
  have HNX := Fk.hide (HN.out.keep bX)
  have HBX : Hid (Below base w ((w.alloc (.cells #[.int .i64 pr, .slice a0 E2.length cap0] 103)).alloc (.cells #[.slice none 0 0, .int .i64 pr] 184))) := bX.mono hw
  have HXP : Hid (∀ k T, k < w.heap.size → Wq.Kind w k T → T ≠ 123 → T ≠ 184 → ((w.alloc (.cells #[.int .i64 pr, .slice a0 E2.length cap0] 103)).alloc (.cells #[.slice none 0 0, .int .i64 pr] 184)).heap[k]? = w.heap[k]?) := fun k T hk _ _ _ => bX.block k hk
  have HXZ : Hid (((w.alloc (.cells #[.int .i64 pr, .slice a0 E2.length cap0] 103)).alloc (.cells #[.slice none 0 0, .int .i64 pr] 184)).heap.size = w.heap.size + 2) := by show _ = _; simp
  have HX0 : Hid (((w.alloc (.cells #[.int .i64 pr, .slice a0 E2.length cap0] 103)).alloc (.cells #[.slice none 0 0, .int .i64 pr] 184)).cell? ⟨w.heap.size + 1, 0, none⟩ = some (.slice none 0 0)) := by show _ = _; rw [Fk.cellTop _ _ _ _ _ (by simp)]; rfl
  have HX1 : Hid (((w.alloc (.cells #[.int .i64 pr, .slice a0 E2.length cap0] 103)).alloc (.cells #[.slice none 0 0, .int .i64 pr] 184)).cell? ⟨w.heap.size + 1, 1, none⟩ = some (.int .i64 pr)) := by show _ = _; rw [Fk.cellTop _ _ _ _ _ (by simp)]; rfl
  have HXF : Hid (∀ j, ((w.alloc (.cells #[.int .i64 pr, .slice a0 E2.length cap0] 103)).alloc (.cells #[.slice none 0 0, .int .i64 pr] 184)).frozen? ⟨w.heap.size + 1, j, none⟩ = false) := fun j => by rw [Fk.frozTop _ _ _ _ _ (by simp)]
  have HXK : Hid (Wq.Kind ((w.alloc (.cells #[.int .i64 pr, .slice a0 E2.length cap0] 103)).alloc (.cells #[.slice none 0 0, .int .i64 pr] 184)) (w.heap.size + 1) 184) := by
    have hx := heap_alloc_new (w.alloc (.cells #[.int .i64 pr, .slice a0 E2.length cap0] 103)) (.cells #[.slice none 0 0, .int .i64 pr] 184)
    rw [show (w.alloc (.cells #[.int .i64 pr, .slice a0 E2.length cap0] 103)).heap.size = w.heap.size + 1 by simp] at hx
    exact ⟨_, _, hx⟩
  clear bX
  go_enter Try.func124, Try.ntmps124
  go_wp2_with fail
  go_loopw [16] (fun i wr => ∃ (m : Nat) (v : Value) (R : List Int), m ≤ E2.length ∧ i = .int .i64 m ∧ w.heap.size + 2 ≤ wr.heap.size ∧ R.length ≤ m ∧ Hid (Wk.Nw wr base w.heap.size P M (n + m) lev ((E2.take m).foldl (fun g o => So.put g (o, buy)) g)) ∧ Hid (Below base w wr) ∧ Hid (∀ k T, k < w.heap.size → Wq.Kind w k T → T ≠ 123 → T ≠ 184 → wr.heap[k]? = w.heap[k]?) ∧ Hid (Wq.Kind wr (w.heap.size + 1) 184) ∧ Hid (wr.cell? ⟨w.heap.size + 1, 0, none⟩ = some v) ∧ Hid (wr.cell? ⟨w.heap.size + 1, 1, none⟩ = some (.int .i64 pr)) ∧ Hid (∀ j, wr.frozen? ⟨w.heap.size + 1, j, none⟩ = false) ∧ Hid (Rk.Own Iq.S wr w.heap.size 2 v R)) (fun i _ => E2.length - (intOf i).toNat)
  case atStart => exact ⟨0, _, [], Nat.zero_le _, rfl, Nat.le_of_eq HXZ.out.symm, Nat.le_refl _, HNX, HBX, HXP, HXK, HX0, HX1, HXF, Rk.own_nil _ _ _⟩
  case round =>
    obtain ⟨m, v, R, hm, rfl, hzr, hRl, HNR, HBR, HKP, HK, HC0, HC1, HCF, HOR⟩ := hrel
    clear HNX HBX HXP HXZ HX0 HX1 HXF HXK HN
    by_cases hmt : m < E2.length
    · obtain ⟨b2, o2, rfl, hb2, hs2⟩ := hs (by omega)
      have hs' := hs2.below hb2 (hB.trans (HBR.out.mono hA))
      have q0 := Or.c0 hs' hmt
      have q1 := Or.c1 hs' hmt
      have q2 := Or.c2 hs' hmt
      have q3 := Or.c3 hs' hmt
      have q4 := Or.c4 hs' hmt
      have q5 := Or.c5 hs' hmt
      have q6 := Or.c6 hs' hmt
      have q7 := Or.c7 hs' hmt
      obtain ⟨f, hf⟩ : ∃ f, f = Rk.at_ Or.S E2 m := ⟨_, rfl⟩
      rw [← hf] at q0 q1 q2 q3 q4 q5 q6 q7
      have HKEY : Hid (keyOf Try.prog 2 (.int .i64 f.1) = some (So.kl f.1)) := by
        have h1 : 1 ≤ f.1 ∧ f.1 ≤ 1000000 := by rw [hf]; exact HID.out _ (Rk.at_mem (S := Or.S) E2 m hmt)
        have h2 : (Lit.int .i64 f.1).wf = true := by
          simp only [Lit.wf, Bool.and_eq_true, decide_eq_true_eq]
          constructor
          · exact Int.le_trans (by decide) h1.1
          · exact Int.le_trans h1.2 (by decide)
        exact Maps.keyOf_int_mk Try.underlying2 h2
      have HFO : Hid ((E2.take (m + 1)).foldl (fun g o => So.put g (o, buy)) g = So.put ((E2.take m).foldl (fun g o => So.put g (o, buy)) g) (f, buy)) := by
        show _ = _
        rw [Rk.take_at (S := Or.S) E2 m hmt, List.foldl_append, ← hf]; rfl
      clear hf hs' hs2 hs
      obtain ⟨Y, hY⟩ : ∃ W, W = wr.alloc (.cells #[.int .i64 f.1, .int .i64 f.2.1, .int .i64 f.2.2.1, .int .i64 f.2.2.2.1, .bool f.2.2.2.2.1, .int .i64 f.2.2.2.2.2.1, .int .i64 f.2.2.2.2.2.2.1, .bool f.2.2.2.2.2.2.2] 55) := ⟨_, rfl⟩
      have bY : Below wr.heap.size wr Y := by rw [hY]; exact (Below.refl _ _).alloc (Nat.le_refl _) _
      have y0 : Y.cell? ⟨wr.heap.size, 0, none⟩ = some (.int .i64 f.1) := by rw [hY, Fk.cellTop _ _ _ _ _ rfl]; rfl
      have y1 : Y.cell? ⟨wr.heap.size, 1, none⟩ = some (.int .i64 f.2.1) := by rw [hY, Fk.cellTop _ _ _ _ _ rfl]; rfl
      have y2 : Y.cell? ⟨wr.heap.size, 2, none⟩ = some (.int .i64 f.2.2.1) := by rw [hY, Fk.cellTop _ _ _ _ _ rfl]; rfl
      have y3 : Y.cell? ⟨wr.heap.size, 3, none⟩ = some (.int .i64 f.2.2.2.1) := by rw [hY, Fk.cellTop _ _ _ _ _ rfl]; rfl
      have y4 : Y.cell? ⟨wr.heap.size, 4, none⟩ = some (.bool f.2.2.2.2.1) := by rw [hY, Fk.cellTop _ _ _ _ _ rfl]; rfl
      have y5 : Y.cell? ⟨wr.heap.size, 5, none⟩ = some (.int .i64 f.2.2.2.2.2.1) := by rw [hY, Fk.cellTop _ _ _ _ _ rfl]; rfl
      have y6 : Y.cell? ⟨wr.heap.size, 6, none⟩ = some (.int .i64 f.2.2.2.2.2.2.1) := by rw [hY, Fk.cellTop _ _ _ _ _ rfl]; rfl
      have y7 : Y.cell? ⟨wr.heap.size, 7, none⟩ = some (.bool f.2.2.2.2.2.2.2) := by rw [hY, Fk.cellTop _ _ _ _ _ rfl]; rfl
      have hzY : Y.heap.size = wr.heap.size + 1 := by rw [hY]; simp
      have HY := Fk.hide hY
      have HNY := Fk.hide (HNR.out.keep (bY.mono (by omega)))
      have yp := HNY.out.mp
      have HHY : Hid (So.Holds Y.drew Try.prog 2 M (n + m) ((E2.take m).foldl (fun g o => So.put g (o, buy)) g)) := HNY.out.hold.of_block rfl
      have HYC : Hid (Y.cell? ⟨wr.heap.size, 0, none⟩ = some (.int .i64 f.1) ∧ Y.cell? ⟨wr.heap.size, 1, none⟩ = some (.int .i64 f.2.1) ∧ Y.cell? ⟨wr.heap.size, 2, none⟩ = some (.int .i64 f.2.2.1) ∧ Y.cell? ⟨wr.heap.size, 3, none⟩ = some (.int .i64 f.2.2.2.1) ∧ Y.cell? ⟨wr.heap.size, 4, none⟩ = some (.bool f.2.2.2.2.1) ∧ Y.cell? ⟨wr.heap.size, 5, none⟩ = some (.int .i64 f.2.2.2.2.2.1) ∧ Y.cell? ⟨wr.heap.size, 6, none⟩ = some (.int .i64 f.2.2.2.2.2.2.1) ∧ Y.cell? ⟨wr.heap.size, 7, none⟩ = some (.bool f.2.2.2.2.2.2.2)) := ⟨y0, y1, y2, y3, y4, y5, y6, y7⟩
      have hPM : P ≠ M := Wk.holds_off HNY.out.hold HNY.out.kd
      have HBY : Hid (Below base w Y) := HBR.out.trans (bY.mono (by omega))
      have HKPY : Hid (∀ k T, k < w.heap.size → Wq.Kind w k T → T ≠ 123 → T ≠ 184 → Y.heap[k]? = w.heap[k]?) := fun k T hk hkd h1 h2 => (bY.block k (by omega)).trans (HKP.out k T hk hkd h1 h2)
      have HKY : Hid (Wq.Kind Y (w.heap.size + 1) 184) := HK.out.of_block (bY.block _ (by omega))
      have HC0Y : Hid (Y.cell? ⟨w.heap.size + 1, 0, none⟩ = some v) := (bY.cell (p := ⟨w.heap.size + 1, 0, none⟩) (by show w.heap.size + 1 < _; omega)).trans HC0.out
      have HC1Y : Hid (Y.cell? ⟨w.heap.size + 1, 1, none⟩ = some (.int .i64 pr)) := (bY.cell (p := ⟨w.heap.size + 1, 1, none⟩) (by show w.heap.size + 1 < _; omega)).trans HC1.out
      have HCFY : Hid (∀ j, Y.frozen? ⟨w.heap.size + 1, j, none⟩ = false) := fun j => (bY.frozen (p := ⟨w.heap.size + 1, j, none⟩) (by show w.heap.size + 1 < _; omega)).trans (HCF.out j)
      have HORY := Fk.hide (HOR.out.below bY)
      have HBB := Fk.hide HORY.out.lt
      clear hY bY HNR HBR HK HC0 HC1 HCF HOR
      have HLN : Hid (n + m < maxLen) := by show _ < _; unfold maxLen; omega
      go_wp2_with fail
      rw [← HY.out]
      clear q0 q1 q2 q3 q4 q5 q6 q7
      obtain ⟨w5, hrun, h5, g5⟩ := HHY.out.store (t := 120) keyed64 Try.underlying120 HLN.out (f, buy) HKEY.out
      simp only [So.vl] at hrun
      have H5 := Fk.hide h5
      have G5 := Fk.hide g5
      clear h5 g5
      go_region
      all_goals
        have g5 := G5.out
        have t0 : w5.cell? ⟨wr.heap.size, 0, none⟩ = some (.int .i64 f.1) := g5.cell HYC.out.1 (by simp; omega)
        have HN5 : Hid (Wk.Nw w5 base w.heap.size P M (n + m + 1) lev (So.put ((E2.take m).foldl (fun g o => So.put g (o, buy)) g) (f, buy))) := (HNY.out.keep (Below.drew (Below.refl _ _))).put H5.out g5
        have bq : w5.heap[w.heap.size + 1]? = Y.heap[w.heap.size + 1]? := g5.block _ (by show w.heap.size + 1 < Y.heap.size; omega) (by simp; omega)
        have HK5 : Hid (Wq.Kind w5 (w.heap.size + 1) 184) := HKY.out.of_block bq
        have HC05 := Fk.hide ((World.cell?_of_block (a := ⟨w.heap.size + 1, 0, none⟩) bq).trans HC0Y.out)
        have HC15 := Fk.hide ((World.cell?_of_block (a := ⟨w.heap.size + 1, 1, none⟩) bq).trans HC1Y.out)
        have HCF5 : Hid (∀ j, w5.frozen? ⟨w.heap.size + 1, j, none⟩ = false) := fun j => (World.frozen?_of_block (a := ⟨w.heap.size + 1, j, none⟩) bq).trans (HCFY.out j)
        have HO5 : Hid (Rk.Own Iq.S w5 w.heap.size 2 v R) := Wk.own_block HORY.out (fun k hk => g5.block k (by have := HBB.out k hk; show k < Y.heap.size; omega) (by have := HBB.out k hk; simp; omega))
        have HB5 : Hid (Below base w w5) := (HBY.out.trans (Below.drew (Below.refl _ _))).grown g5 (by show base ≤ Y.heap.size; omega) (fun k hk => by cases hk; exact HNY.out.M0)
        have HKP5 : Hid (∀ k T, k < w.heap.size → Wq.Kind w k T → T ≠ 123 → T ≠ 184 → w5.heap[k]? = w.heap[k]?) := fun k T hk hkd h1 h2 => (g5.block k (by show k < Y.heap.size; omega) (fun e => Wk.holds_off (HNY.out.hold) (hkd.of_block (HKPY.out k T hk hkd h1 h2)) (by simpa using e))).trans (HKPY.out k T hk hkd h1 h2)
        have hz5 : wr.heap.size + 1 ≤ w5.heap.size := by have := g5.size; have h2 : Y.drew.heap.size = Y.heap.size := rfl; omega
        clear g5 bq hrun y0 y1 y2 y3 y4 y5 y6 y7 yp
        go_wp2_with fail
        refine (queueAdd_any (w.heap.size + 1) w.heap.size 184 (by decide) v R f.1 w5 HK5.out HC05.out (HCF5.out 0) HO5.out (by omega) (by omega) (by omega)).mono ?_
        rintro e w6 ⟨rfl, ⟨v6, c6, o6, r6, f6, kd6⟩, k6⟩
        have HN6 : Hid (Wk.Nw w6 base w.heap.size P M (n + (m + 1)) lev ((E2.take (m + 1)).foldl (fun g o => So.put g (o, buy)) g)) := by show Wk.Nw _ _ _ _ _ _ _ _; rw [HFO.out]; exact HN5.out.keep k6
        have HB6 : Hid (Below base w w6) := HB5.out.trans (k6.mono hw)
        have HKP6 : Hid (∀ k T, k < w.heap.size → Wq.Kind w k T → T ≠ 123 → T ≠ 184 → w6.heap[k]? = w.heap[k]?) := fun k T hk hkd h1 h2 => (k6.block k hk).trans (HKP5.out k T hk hkd h1 h2)
        have HK6 := Fk.hide kd6
        have HC06 := Fk.hide c6
        have HC16 := Fk.hide (r6 ⟨w.heap.size + 1, 1, none⟩ _ rfl (by intro h; simp only [Addr.mk.injEq] at h; omega) HC15.out)
        have HCF6 : Hid (∀ j, w6.frozen? ⟨w.heap.size + 1, j, none⟩ = false) := fun j => (f6 j).trans (HCF5.out j)
        have HO6 := Fk.hide o6
        have hz6 : w.heap.size + 2 ≤ w6.heap.size := by have := k6.size; omega
        clear c6 o6 r6 f6 kd6 k6 t0
        go_wp2_with fail
        go_roundw
        case rel => exact ⟨m + 1, v6, R ++ [f.1], by omega, by go_num, hz6, (by simp; omega), HN6, HB6, HKP6, HK6, HC06, HC16, HCF6, HO6⟩
        case measure => simp [intOf]; omega
    · have em : m = E2.length := by omega
      subst em
      rw [List.take_length] at HNR
      obtain ⟨u, v2, Lb, La, h1, h2, h3, h4, h5, h6, h7, h8, h9⟩ := HNR.out.ls
      obtain ⟨ua, un, uc, rfl⟩ := h3.slice'
      obtain ⟨wa, wn, wc, rfl⟩ := h4.slice'
      obtain ⟨va, vn, vc, hva⟩ := HOR.out.slice'
      have HC0' : Hid (wr.cell? ⟨w.heap.size + 1, 0, none⟩ = some (.slice va vn vc)) := by show _ = _; rw [← hva]; exact HC0.out
      clear hva
      cases buy with
      | true =>
        go_wp2_with fail
        refine (nwSide_yes P _).mono ?_
        rintro e _ ⟨rfl, hh⟩
        rw [hh]
        clear hh
        have bZ : Below wr.heap.size wr (wr.alloc (.cells #[.slice va vn vc, .int .i64 pr] 184)).drew := Below.drew ((Below.refl _ _).alloc (Nat.le_refl _) _)
        have HBZ := Fk.hide bZ
        have y1 := h1
        have z1 : (wr.alloc (.cells #[.slice va vn vc, .int .i64 pr] 184)).cell? ⟨P, 2, none⟩ = some (.slice ua un uc) := (bZ.cell (p := ⟨P, 2, none⟩) (by show P < _; omega)).trans y1
        have HOZ : Hid (Rk.Own Wk.S (wr.alloc (.cells #[.slice va vn vc, .int .i64 pr] 184)).drew base 184 (.slice ua un uc) Lb) := h3.below bZ
        have HVZ := Fk.hide ((Rk.view_lit1 (S := Wk.S) wr 184 #[.slice va vn vc, .int .i64 pr] ((va, vn, vc), pr) rfl).below (Below.drew (Below.refl _ _)))
        have HUL : Hid (∀ k, (Value.slice ua un uc).ownBlock = some k → base ≤ k) := fun k hk => (h3.lt k hk).1
        have HNE : Hid ((Value.slice ua un uc).ownBlock ≠ some P) := HNR.out.kd.off h3 (by decide)
        have hbz : base ≤ (wr.alloc (.cells #[.slice va vn vc, .int .i64 pr] 184)).drew.heap.size := by simp; omega
        clear bZ
        have H1 := Fk.hide h1
        have H2 := Fk.hide h2
        have H3 := Fk.hide h3
        have H4 := Fk.hide h4
        have H7 := Fk.hide h7
        have H8 := Fk.hide h8
        have H9 := Fk.hide h9
        clear h1 h2 h3 h4 h7 h8 h9
        have c0' := HC0'.out
        have c1' := HC1.out
        go_wp2_with fail
        go_region_law (first | (refine Rk.step_append_where _ (by rfl) _ _ 121 (by rfl) base 184 i0 _ 2 32 rfl Try.underlying121 hi hz0 hz1 hz2 (by rfl) (by decide) _ (.slice (some ⟨wr.heap.size, 0, none⟩) 1 1) Lb [((va, vn, vc), pr)] (by rfl) (by rfl) HOZ.out HVZ.out (Rk.shut_some _ _ _) (by simp; omega) hbz ?_; intro u7 w7 o7 g7 n7; obtain ⟨x7, m7, d7, rfl⟩ := o7.slice'; have HO7 := Fk.hide o7; have HG7 := Fk.hide g7; have HN7 := Fk.hide n7; have pb : w7.heap[P]? = wr.heap[P]? := (g7.block P (by simp; omega) (fun e => HNE.out e.symm)).trans (HBZ.out.block P (by omega)); have HPB := Fk.hide pb; have pp : w7.cell? ⟨P, 2, none⟩ = some (.slice ua un uc) := (World.cell?_of_block (a := ⟨P, 2, none⟩) pb).trans y1; have pf : w7.frozen? ⟨P, 2, none⟩ = false := (World.frozen?_of_block (a := ⟨P, 2, none⟩) pb).trans (HNR.out.fz 2); clear o7 g7 n7 pb))
        all_goals
          have HFN := Fk.hide (HNR.out.bid H1.out H2.out H3.out H4.out h5 h6 H7.out H8.out H9.out (by omega) HBZ.out HG7.out HO7.out HN7.out)
          have HFB : Hid (Below base w (w7.setCell ⟨P, 2, none⟩ (.slice x7 m7 d7))) := ((HBR.out.trans (HBZ.out.mono (by omega))).grown HG7.out hbz HUL.out).setCell HNR.out.P0 _
          have HFK : Hid (∀ k T, k < w.heap.size → Wq.Kind w k T → T ≠ 123 → T ≠ 184 → (w7.setCell ⟨P, 2, none⟩ (.slice x7 m7 d7)).heap[k]? = w.heap[k]?) := fun k T hk hkd q1 q2 => (Below.heap_setCell _ _ _ _ (fun e => by
            have h1 := HNR.out.kd
            obtain ⟨cs, fr, hc⟩ := hkd.of_block (HKP.out k T hk hkd q1 q2)
            obtain ⟨cs', fr', hc'⟩ := h1
            rw [e] at hc
            rw [hc'] at hc
            simp only [Option.some.injEq, Obj.cells.injEq] at hc
            exact q1 hc.2.1.symm)).trans (((HG7.out.block k (by have := HBZ.out.size; omega) (fun e => (hkd.of_block (HKP.out k T hk hkd q1 q2)).off H3.out q2 e.symm)).trans (HBZ.out.block k (by omega))).trans (HKP.out k T hk hkd q1 q2))
          refine bodyPost_end (v := .tuple #[]) (by simp [results, Try.results124, go_sem] <;> rfl) rfl ⟨rfl, HFN.out, HFB.out, HFK.out⟩
      | false =>
        go_wp2_with fail
        refine (nwSide_no P _).mono ?_
        rintro e _ ⟨rfl, hh⟩
        rw [hh]
        clear hh
        have bZ : Below wr.heap.size wr (wr.alloc (.cells #[.slice va vn vc, .int .i64 pr] 184)).drew := Below.drew ((Below.refl _ _).alloc (Nat.le_refl _) _)
        have HBZ := Fk.hide bZ
        have y1 := h2
        have z1 : (wr.alloc (.cells #[.slice va vn vc, .int .i64 pr] 184)).cell? ⟨P, 3, none⟩ = some (.slice wa wn wc) := (bZ.cell (p := ⟨P, 3, none⟩) (by show P < _; omega)).trans y1
        have HOZ : Hid (Rk.Own Wk.S (wr.alloc (.cells #[.slice va vn vc, .int .i64 pr] 184)).drew base 184 (.slice wa wn wc) La) := h4.below bZ
        have HVZ := Fk.hide ((Rk.view_lit1 (S := Wk.S) wr 184 #[.slice va vn vc, .int .i64 pr] ((va, vn, vc), pr) rfl).below (Below.drew (Below.refl _ _)))
        have HUL : Hid (∀ k, (Value.slice wa wn wc).ownBlock = some k → base ≤ k) := fun k hk => (h4.lt k hk).1
        have HNE : Hid ((Value.slice wa wn wc).ownBlock ≠ some P) := HNR.out.kd.off h4 (by decide)
        have hbz : base ≤ (wr.alloc (.cells #[.slice va vn vc, .int .i64 pr] 184)).drew.heap.size := by simp; omega
        clear bZ
        have H1 := Fk.hide h1
        have H2 := Fk.hide h2
        have H3 := Fk.hide h3
        have H4 := Fk.hide h4
        have H7 := Fk.hide h7
        have H8 := Fk.hide h8
        have H9 := Fk.hide h9
        clear h1 h2 h3 h4 h7 h8 h9
        have c0' := HC0'.out
        have c1' := HC1.out
        go_wp2_with fail
        go_region_law (first | (refine Rk.step_append_where _ (by rfl) _ _ 121 (by rfl) base 184 i0 _ 2 32 rfl Try.underlying121 hi hz0 hz1 hz2 (by rfl) (by decide) _ (.slice (some ⟨wr.heap.size, 0, none⟩) 1 1) La [((va, vn, vc), pr)] (by rfl) (by rfl) HOZ.out HVZ.out (Rk.shut_some _ _ _) (by simp; omega) hbz ?_; intro u7 w7 o7 g7 n7; obtain ⟨x7, m7, d7, rfl⟩ := o7.slice'; have HO7 := Fk.hide o7; have HG7 := Fk.hide g7; have HN7 := Fk.hide n7; have pb : w7.heap[P]? = wr.heap[P]? := (g7.block P (by simp; omega) (fun e => HNE.out e.symm)).trans (HBZ.out.block P (by omega)); have HPB := Fk.hide pb; have pp : w7.cell? ⟨P, 3, none⟩ = some (.slice wa wn wc) := (World.cell?_of_block (a := ⟨P, 3, none⟩) pb).trans y1; have pf : w7.frozen? ⟨P, 3, none⟩ = false := (World.frozen?_of_block (a := ⟨P, 3, none⟩) pb).trans (HNR.out.fz 3); clear o7 g7 n7 pb))
        all_goals
          have HFN := Fk.hide (HNR.out.ask H1.out H2.out H3.out H4.out h5 h6 H7.out H8.out H9.out (by omega) HBZ.out HG7.out HO7.out HN7.out)
          have HFB : Hid (Below base w (w7.setCell ⟨P, 3, none⟩ (.slice x7 m7 d7))) := ((HBR.out.trans (HBZ.out.mono (by omega))).grown HG7.out hbz HUL.out).setCell HNR.out.P0 _
          have HFK : Hid (∀ k T, k < w.heap.size → Wq.Kind w k T → T ≠ 123 → T ≠ 184 → (w7.setCell ⟨P, 3, none⟩ (.slice x7 m7 d7)).heap[k]? = w.heap[k]?) := fun k T hk hkd q1 q2 => (Below.heap_setCell _ _ _ _ (fun e => by
            have h1 := HNR.out.kd
            obtain ⟨cs, fr, hc⟩ := hkd.of_block (HKP.out k T hk hkd q1 q2)
            obtain ⟨cs', fr', hc'⟩ := h1
            rw [e] at hc
            rw [hc'] at hc
            simp only [Option.some.injEq, Obj.cells.injEq] at hc
            exact q1 hc.2.1.symm)).trans (((HG7.out.block k (by have := HBZ.out.size; omega) (fun e => (hkd.of_block (HKP.out k T hk hkd q1 q2)).off H4.out q2 e.symm)).trans (HBZ.out.block k (by omega))).trans (HKP.out k T hk hkd q1 q2))
          refine bodyPost_end (v := .tuple #[]) (by simp [results, Try.results124, go_sem] <;> rfl) rfl ⟨rfl, HFN.out, HFB.out, HFK.out⟩
end Go.Proofs.Ytjagohadeegghaa
