/- A range over a function whose iterator hands the body pieces of memory that it has made itself: what the body may know of what it is handed is said of the world, too. No function of the program here. -/
import Derived.RangeFuncBox
import Derived.RangeFuncCalls
import Derived.RangeFuncNested
import Derived.WalkKit
namespace Go.Proofs.Ytficlppngnnpoaa
set_option linter.unusedSimpArgs false
namespace Rf
open Go.RowKit
variable {F : Fence} {n : Nat} {P : Program}

/-- the iterator's promise: it yields where R holds of what is handed over; a body that keeps Kp is never told to stop by it, and all that came is S -/
def Gives {α : Type} (F : Fence) (n : Nat) (P : Program) (g : Nat) (lb : Array Value) (encs : α → Array Value) (R : List α → α → World → Prop) (Kp : World → World → Prop) (S : List α → Prop) (w : World) : Prop :=
  ∀ (l : Nat) (J : List α → World → Prop) (W : World), Below w.heap.size w W →
    (∀ s X Y, J s X → X.grownBy Y none → J s Y) →
    (∀ pre x X, J pre X → R pre x X → YieldAt F (n - 1) P l (encs x) X fun e Y => e = .returned (.bool true) ∧ J (pre ++ [x]) Y ∧ Kp X Y) →
    J [] W →
    CallsIn F n P g (#[.func (.yield l) #[] #[]] ++ lb) W fun e Y => (∃ v, e = .returned v) ∧ ∃ xs, S xs ∧ J xs Y

/-- the law of the statement, for a body that always goes on -/
theorem range_gives {α : Type} {g : Operand} {ps : Array Tmp} {assign body : Code} {Q : Exit → Act → World → Prop} {a : Act} {w : World}
    (hro : F.round = none) (h1 : 1 ≤ n) {gf : Nat} {lb : Array Value} (hg : a.eval g = .func (.func gf) #[] lb) (hF : F.fn gf) (eg : ∀ args w, (callFunc gf args).run P w = .ok (.enter gf args) w)
    {encs : α → Array Value} {R : List α → α → World → Prop} {Kp : World → World → Prop} {S : List α → Prop} {w0 : World} (hseq : Gives F (n - 1) P gf lb encs R Kp S w0)
    (hKt : ∀ {A B C : World}, Kp A B → Kp B C → Kp A C) (hKb : ∀ (W : World) (l : Nat) (o o' : Obj), w.heap.size ≤ l → W.heap[l]? = some o → o.isCells = false → Kp W (W.putObj l o'))
    (hb0 : Below w0.heap.size w0 w) (hps : ∀ x, (encs x).size = ps.size)
    (I : List α → World → Prop) (hI : OwnFrom w.heap.size I) (hR : ∀ x pre, OwnFrom w.heap.size (fun (_ : Unit) W => R pre x W)) (h0 : I [] w) (a₁ : α → Act)
    (hassign : ∀ (l : Nat) (x : α) (W : World) (K : Act → World → Prop), K (a₁ x) W →
      assign.wpIn (F.inRound l) (n - 1 - 1) P (Exit.then K (fun _ _ _ => False)) { tmps := (ps.zip (encs x)).foldl (fun t (p, v) => t.setIfInBounds p v) a.tmps, defers := [] } W)
    (hbody : ∀ (l : Nat) (pre : List α) (x : α) (W : World), I pre W → R pre x W →
      body.wpIn (F.inRound l) (n - 1 - 1) P (fun e _ Y => e = .normal ∧ KeepsFrom w.heap.size W Y ∧ Kp W Y ∧ I (pre ++ [x]) Y) (a₁ x) W)
    (hdone : ∀ (D : Nat) (xs : List α) (W : World), w.heap.size ≤ D → S xs → I xs W → W.heap[D]? = some (.deferred (some [])) → Q .normal { a with defers := { target := .collected D, args := #[] } :: a.defers } W) :
    (Code.rangeFunc g ps assign body).wpIn F n P Q a w := by
  refine wpIn_rangeFunc fun fn hfn => ?_
  rw [hro]
  -- the record of the loop, and the two blocks that are laid for it
  let rec' : LoopState → Loop := fun st => { state := st, pending := none, fn, tmps := a.tmps, params := ps, assign, body, defers := w.heap.size }
  obtain ⟨W1, hW1⟩ : ∃ X, X = (w.alloc (.deferred (some []))).alloc (.loop (rec' .ready)) := ⟨_, rfl⟩
  have l1 : W1.heap[w.heap.size + 1]? = some (.loop (rec' .ready)) := by
    have := World.alloc_heap_new (w.alloc (.deferred (some []))) (.loop (rec' .ready))
    rw [World.size_alloc] at this
    rw [hW1]; exact this
  have d1 : W1.heap[w.heap.size]? = some (.deferred (some [])) := by
    rw [hW1]; exact (Below.heap_alloc _ _ _ (by simp)).trans (World.alloc_heap_new w _)
  have i1 : I [] W1 := by rw [hW1]; exact hI.alloc _ (hI.alloc _ h0)
  have b1 : Below w0.heap.size w0 W1 := by
    rw [hW1]; exact hb0.trans ((((Below.refl _ w).alloc (Nat.le_refl _) _).alloc (by simp) _).mono hb0.size)
  -- what is carried from round to round
  let J : List α → World → Prop := fun pre X => I pre X ∧ X.heap[w.heap.size + 1]? = some (.loop (rec' .ready)) ∧ X.heap[w.heap.size]? = some (.deferred (some []))
  refine ⟨w.heap.size + 1, [{ target := .collected w.heap.size, args := #[] }], W1, { target := .fn (.func gf) lb, args := #[.func (.yield (w.heap.size + 1)) #[] #[]] }, W1, gf,
    #[.func (.yield (w.heap.size + 1)) #[] #[]] ++ lb, W1, ?_, ?_, ?_, ?_, fun _ => h1, ?_⟩
  · rw [hW1]; exact run_enterLoop_outer _ _ _ _ _
  · simp only [resolve, hg]
    simp [go_sem]
  · intro f' hf'; simp [Target.leads] at hf'; subst hf'; exact hF
  · simp [invoke, go_sem, eg]
  refine (hseq (w.heap.size + 1) J W1 b1 ?_ ?_ ⟨i1, l1, d1⟩).mono ?_
  · rintro s X Y ⟨hi, hl, hd⟩ hgr
    have hk : ∀ (k : Nat) (o : Obj), X.heap[k]? = some o → Y.heap[k]? = some o := fun k o h => (hgr.block k (Array.getElem?_eq_some_iff.1 h).1 (by simp)).trans h
    exact ⟨hI s X Y none hi hgr (fun r e => by cases e), hk _ _ hl, hk _ _ hd⟩
  · rintro pre x X ⟨hi, hl, hd⟩ hr
    have hlt : w.heap.size + 1 < X.heap.size := (Array.getElem?_eq_some_iff.1 hl).1
    refine ⟨fn, _, assign, body, run_yield hl (hps x), roundIn_of_wpIn hfn (hassign _ x X _ ⟨_, run_beginRound hl rfl, ?_⟩)⟩
    obtain ⟨X2, hX2⟩ : ∃ Z, Z = X.putObj (w.heap.size + 1) (.loop (rec' .busy)) := ⟨_, rfl⟩
    have l2 : X2.heap[w.heap.size + 1]? = some (.loop (rec' .busy)) := by rw [hX2]; exact World.putObj_heap_same hlt
    have d2 : X2.heap[w.heap.size]? = some (.deferred (some [])) := by rw [hX2]; exact (World.putObj_heap_other (by omega)).trans hd
    have i2 : I pre X2 := by rw [hX2]; exact hI.putObj _ hi (by omega) hl rfl
    have r2 : R pre x X2 := by rw [hX2]; exact (hR x pre).putObj (s := ()) _ hr (by omega) hl rfl
    have k2 : Kp X X2 := by rw [hX2]; exact hKb _ _ _ _ (by omega) hl rfl
    show body.wpIn _ _ _ _ _ (X.putObj (w.heap.size + 1) (.loop (rec' .busy)))
    rw [← hX2]
    refine wpIn_mono (hbody _ pre x X2 i2 r2) ?_
    rintro e a3 X3 ⟨rfl, hk3, hp3, i3⟩
    have l3 := hk3.same _ _ (by omega) l2 rfl
    have d3 := hk3.same _ _ (Nat.le_refl _) d2 rfl
    exact ⟨_, _, run_endRound none l3, rfl, ⟨hI.putObj _ i3 (by omega) l3 rfl, World.putObj_heap_same (Array.getElem?_eq_some_iff.1 l3).1, (World.putObj_heap_other (by omega)).trans d3⟩, hKt (hKt k2 hp3) (hKb _ _ _ _ (by omega) l3 rfl)⟩
  · rintro e X ⟨⟨v, rfl⟩, xs, hS, hi, hl, hd⟩
    exact ⟨none, _, run_endLoop hl (by simp [rec']), hdone _ xs _ (Nat.le_refl _) hS (hI.putObj _ hi (by omega) hl rfl) ((World.putObj_heap_other (by omega)).trans hd)⟩
end Rf
end Go.Proofs.Ytficlppngnnpoaa
