/- The walk of the program's findEntry: the record at a place of the journal's bytes. A range over a function whose iterator hands the body pieces of memory that it has made itself: what the body may know of what it is handed is said of the world, too. No function of the program here. The walk of the program's records one by one: what the iterator hands out, and that its bytes are there when it does. The walk of the iterator over the journal's records: all of them, one by one, their bytes in a row of its own. -/
import Derived.Test.YtojdfdlbdpdlkaaGreatDoorJoined22
import Derived.Test.YtojdfdlbdpdlkaaGreatDoorReadNumWalks
import Derived.Test.YtojdfdlbdpdlkaaGreatDoorFsKit
import Derived.BigRegion
import Derived.RangeFuncBox
import Derived.RangeFuncCalls
import Derived.RangeFuncNested
import Derived.WalkKit
import Derived.Test.YtojdfdlbdpdlkaaGreatDoorJoined3
import Derived.Laws.IdiomStrings
import Derived.RangeFuncBound
import Derived.Shelf.Abstract
import Derived.Shelf.RegionOpen
import Derived.OwnWalkIn
import Derived.TacticsInMore
import Derived.LoopNIn
import Derived.LoopIn
namespace Go.Proofs.YtojdfdlbdpdlkaaGreatDoor
set_option linter.unusedSimpArgs false
open Go.RowKit
set_option linter.unusedVariables false

set_option maxHeartbeats 2000000 in
theorem findEntry_any (s : ByteArray) (p : Int) (w : World) (hs : s.size ≤ maxLen) (h1 : p ≤ 9223372036854775807) :
    Calls Tryz.prog 90 #[.string s, .int .i64 p] w fun e w' =>
      ((Jn.one s p = none ∧ ∃ a b, e = .returned (.tuple #[.int .i64 a, .int .i64 b, .bool false])) ∨
       (∃ x q, Jn.one s p = some (s.extract x.toNat (q - 4).toNat, q) ∧ 0 < x ∧ x + 4 ≤ q ∧ q ≤ s.size ∧ p < q ∧ e = .returned (.tuple #[.int .i64 x, .int .i64 q, .bool true]))) ∧ Below w.heap.size w w' := by
  obtain ⟨⟨n, x, c⟩, hr⟩ : ∃ r, r = Dc.getNum s p := ⟨_, rfl⟩
  by_cases hc : c = 0
  · subst hc
    have hb := Dc.get_bd s p n x hr.symm
    have hon := Jn.get_on hr.symm
    have HR : Hid ((n, x, 0) = Dc.getNum s p) := hr
    clear hr
    by_cases hn : n < 0 ∨ 304 < n ∨ (s.size : Int) - x < n
    · have HE : Hid (Jn.one s p = none) := Jn.one_no_size HR.out.symm hn
      have hn3 : n < 0 ∨ (0 ≤ n ∧ 304 < n) ∨ (0 ≤ n ∧ n ≤ 304 ∧ (s.size : Int) - x < n) := by omega
      clear hn hon
      rcases hn3 with h | ⟨h, h'⟩ | ⟨h, h', h''⟩
      all_goals
        go_enter Tryz.func90, Tryz.ntmps90
        go_wp2_with fail
        refine (readNum_any s p _ hs h1).mono ?_
        rintro e w1 ⟨rfl, rfl⟩
        rw [← HR.out, show readRes (n, x, 0) = .tuple #[.int .i64 n, .int .i64 x, .nilIface] from rfl]
        go_wp2_with fail
        go_ret3
        exact ⟨.inl ⟨HE.out, _, _, rfl⟩, Below.refl _ _⟩
    · have hn0 : 0 ≤ n := by omega
      have hn1 : n ≤ 304 := by omega
      have hn2 : n ≤ (s.size : Int) - x := by omega
      have HN := Fk.hide hn
      obtain ⟨t, ht⟩ : ∃ t, t = s.extract x.toNat (x + n).toNat := ⟨_, rfl⟩
      have hts : t.size ≤ maxLen := by rw [ht, ByteArray.size_extract]; unfold maxLen at hs ⊢; omega
      have HT := Fk.hide ht
      have hsl : ∀ W, (Instr.slice 9 (.string s) (some (.int .i64 x)) (some (.int .i64 (x + n))) none).run Tryz.prog W = .ok (.string t) W := fun W => by
        rw [run_slice_string W 9 s .i64 .i64 x (x + n) Tryz.underlying9 (by omega) (by omega) (by omega), ht]
      clear ht hn
      go_enter Tryz.func90, Tryz.ntmps90
      go_wp2_with fail
      refine (readNum_any s p _ hs h1).mono ?_
      rintro e w1 ⟨rfl, rfl⟩
      rw [← HR.out, show readRes (n, x, 0) = .tuple #[.int .i64 n, .int .i64 x, .nilIface] from rfl]
      go_wp2_with fail
      refine (readSealed_any t _ hts).mono ?_
      rintro e w2 ⟨rfl, b2⟩
      have B2 := Fk.hide (Below.drew b2)
      obtain ⟨u, hu⟩ : ∃ u, u = (unsealed t).1 := ⟨_, rfl⟩
      rw [← hu]
      by_cases hz : (unsealed t).2.2 = 0
      · have hy := Jn.one_yes HR.out.symm HN.out HT.out hz
        have HY := Fk.hide hy.2
        have hn4 := hy.1
        have he : errv (unsealed t).2.2 = .nilIface := by rw [hz]; rfl
        rw [he]
        clear he hz hy hu b2 hsl
        go_wp2_with fail
        go_region
        all_goals
          go_wp2_with fail
          go_ret3
          exact ⟨.inr ⟨x, x + n, HY.out, by omega, by omega, by omega, by omega, rfl⟩, B2.out⟩
      · have HE : Hid (Jn.one s p = none) := Jn.one_no_seal HR.out.symm HN.out HT.out hz
        have he : errv (unsealed t).2.2 = .iface 147 (.agg #[.int .i64 (unsealed t).2.2]) := by unfold errv; rw [if_neg hz]
        rw [he]
        obtain ⟨cc, hcc⟩ : ∃ cc, cc = (unsealed t).2.2 := ⟨_, rfl⟩
        rw [← hcc]
        clear he hz hu b2 hcc hsl
        go_wp2_with fail
        go_region
        all_goals
          go_wp2_with fail
          go_ret3
          exact ⟨.inl ⟨HE.out, _, _, rfl⟩, B2.out⟩
  · have HE : Hid (Jn.one s p = none) := Jn.one_no_num hr.symm hc
    have HR : Hid ((n, x, c) = Dc.getNum s p) := hr
    clear hr
    have HV : Hid (readRes (n, x, c) = .tuple #[.int .i64 n, .int .i64 x, .iface 147 (.agg #[.int .i64 c])]) := by
      show readRes (n, x, c) = _
      unfold readRes; simp only [if_neg hc]
    go_enter Tryz.func90, Tryz.ntmps90
    go_wp2_with fail
    refine (readNum_any s p _ hs h1).mono ?_
    rintro e w1 ⟨rfl, rfl⟩
    rw [← HR.out, HV.out]
    go_wp2_with fail
    go_ret3
    exact ⟨.inl ⟨HE.out, _, _, rfl⟩, Below.refl _ _⟩
end Go.Proofs.YtojdfdlbdpdlkaaGreatDoor

namespace Go.Proofs.YtojdfdlbdpdlkaaGreatDoor
set_option linter.unusedSimpArgs false
namespace Rf
open Go.RowKit
variable {F : Fence} {n : Nat} {P : Program}

/-- the iterator's promise: it yields where R holds of what is handed over; a body that keeps Kp is never told to stop by it, and all that came is S -/
def Gives {α : Type} (F : Fence) (n : Nat) (P : Program) (g : Nat) (lb : Array Value) (encs : α → Array Value) (R : List α → α → World → Prop) (Kp : World → World → Prop) (S : List α → Prop) (w : World) : Prop :=
  ∀ (l : Nat) (J : List α → World → Prop) (W : World), Below w.heap.size w W →
    (∀ s X Y, J s X → X.grownBy Y none → J s Y) →
    (∀ pre x X, J pre X → R pre x X → YieldAt F (n - 1) P l (encs x) X fun e Y => e = .returned (.bool true) ∧ J (pre ++ [x]) Y ∧ Kp X Y) →
    J [] W →
    CallsIn F n P g (#[.func (.yield l) #[] #[]] ++ lb) W fun e Y => (∃ v, e = .returned v) ∧ ∃ xs, S xs ∧ J xs Y

/-- the law of the statement, for a body that always goes on -/
theorem range_gives {α : Type} {g : Operand} {ps : Array Tmp} {assign body : Code} {Q : Exit → Act → World → Prop} {a : Act} {w : World}
    (hro : F.round = none) (h1 : 1 ≤ n) {gf : Nat} {lb : Array Value} (hg : a.eval g = .func (.func gf) #[] lb) (hF : F.fn gf) (eg : ∀ args w, (callFunc gf args).run P w = .ok (.enter gf args) w)
    {encs : α → Array Value} {R : List α → α → World → Prop} {Kp : World → World → Prop} {S : List α → Prop} {w0 : World} (hseq : Gives F (n - 1) P gf lb encs R Kp S w0)
    (hKt : ∀ {A B C : World}, Kp A B → Kp B C → Kp A C) (hKb : ∀ (W : World) (l : Nat) (o o' : Obj), w.heap.size ≤ l → W.heap[l]? = some o → o.isCells = false → Kp W (W.putObj l o'))
    (hb0 : Below w0.heap.size w0 w) (hps : ∀ x, (encs x).size = ps.size)
    (I : List α → World → Prop) (hI : OwnFrom w.heap.size I) (hR : ∀ x pre, OwnFrom w.heap.size (fun (_ : Unit) W => R pre x W)) (h0 : I [] w) (a₁ : α → Act)
    (hassign : ∀ (l : Nat) (x : α) (W : World) (K : Act → World → Prop), K (a₁ x) W →
      assign.wpIn (F.inRound l) (n - 1 - 1) P (Exit.then K (fun _ _ _ => False)) { tmps := (ps.zip (encs x)).foldl (fun t (p, v) => t.setIfInBounds p v) a.tmps, defers := [] } W)
    (hbody : ∀ (l : Nat) (pre : List α) (x : α) (W : World), I pre W → R pre x W →
      body.wpIn (F.inRound l) (n - 1 - 1) P (fun e _ Y => e = .normal ∧ KeepsFrom w.heap.size W Y ∧ Kp W Y ∧ I (pre ++ [x]) Y) (a₁ x) W)
    (hdone : ∀ (D : Nat) (xs : List α) (W : World), w.heap.size ≤ D → S xs → I xs W → W.heap[D]? = some (.deferred (some [])) → Q .normal { a with defers := { target := .collected D, args := #[] } :: a.defers } W) :
    (Code.rangeFunc g ps assign body).wpIn F n P Q a w := by
  refine wpIn_rangeFunc fun fn hfn => ?_
  rw [hro]
  -- the record of the loop, and the two blocks that are laid for it
  let rec' : LoopState → Loop := fun st => { state := st, pending := none, fn, tmps := a.tmps, params := ps, assign, body, defers := w.heap.size }
  obtain ⟨W1, hW1⟩ : ∃ X, X = (w.alloc (.deferred (some []))).alloc (.loop (rec' .ready)) := ⟨_, rfl⟩
  have l1 : W1.heap[w.heap.size + 1]? = some (.loop (rec' .ready)) := by
    have := World.alloc_heap_new (w.alloc (.deferred (some []))) (.loop (rec' .ready))
    rw [World.size_alloc] at this
    rw [hW1]; exact this
  have d1 : W1.heap[w.heap.size]? = some (.deferred (some [])) := by
    rw [hW1]; exact (Below.heap_alloc _ _ _ (by simp)).trans (World.alloc_heap_new w _)
  have i1 : I [] W1 := by rw [hW1]; exact hI.alloc _ (hI.alloc _ h0)
  have b1 : Below w0.heap.size w0 W1 := by
    rw [hW1]; exact hb0.trans ((((Below.refl _ w).alloc (Nat.le_refl _) _).alloc (by simp) _).mono hb0.size)
  -- what is carried from round to round
  let J : List α → World → Prop := fun pre X => I pre X ∧ X.heap[w.heap.size + 1]? = some (.loop (rec' .ready)) ∧ X.heap[w.heap.size]? = some (.deferred (some []))
  refine ⟨w.heap.size + 1, [{ target := .collected w.heap.size, args := #[] }], W1, { target := .fn (.func gf) lb, args := #[.func (.yield (w.heap.size + 1)) #[] #[]] }, W1, gf,
    #[.func (.yield (w.heap.size + 1)) #[] #[]] ++ lb, W1, ?_, ?_, ?_, ?_, fun _ => h1, ?_⟩
  · rw [hW1]; exact run_enterLoop_outer _ _ _ _ _
  · simp only [resolve, hg]
    simp [go_sem]
  · intro f' hf'; simp [Target.leads] at hf'; subst hf'; exact hF
  · simp [invoke, go_sem, eg]
  refine (hseq (w.heap.size + 1) J W1 b1 ?_ ?_ ⟨i1, l1, d1⟩).mono ?_
  · rintro s X Y ⟨hi, hl, hd⟩ hgr
    have hk : ∀ (k : Nat) (o : Obj), X.heap[k]? = some o → Y.heap[k]? = some o := fun k o h => (hgr.block k (Array.getElem?_eq_some_iff.1 h).1 (by simp)).trans h
    exact ⟨hI s X Y none hi hgr (fun r e => by cases e), hk _ _ hl, hk _ _ hd⟩
  · rintro pre x X ⟨hi, hl, hd⟩ hr
    have hlt : w.heap.size + 1 < X.heap.size := (Array.getElem?_eq_some_iff.1 hl).1
    refine ⟨fn, _, assign, body, run_yield hl (hps x), roundIn_of_wpIn hfn (hassign _ x X _ ⟨_, run_beginRound hl rfl, ?_⟩)⟩
    obtain ⟨X2, hX2⟩ : ∃ Z, Z = X.putObj (w.heap.size + 1) (.loop (rec' .busy)) := ⟨_, rfl⟩
    have l2 : X2.heap[w.heap.size + 1]? = some (.loop (rec' .busy)) := by rw [hX2]; exact World.putObj_heap_same hlt
    have d2 : X2.heap[w.heap.size]? = some (.deferred (some [])) := by rw [hX2]; exact (World.putObj_heap_other (by omega)).trans hd
    have i2 : I pre X2 := by rw [hX2]; exact hI.putObj _ hi (by omega) hl rfl
    have r2 : R pre x X2 := by rw [hX2]; exact (hR x pre).putObj (s := ()) _ hr (by omega) hl rfl
    have k2 : Kp X X2 := by rw [hX2]; exact hKb _ _ _ _ (by omega) hl rfl
    show body.wpIn _ _ _ _ _ (X.putObj (w.heap.size + 1) (.loop (rec' .busy)))
    rw [← hX2]
    refine wpIn_mono (hbody _ pre x X2 i2 r2) ?_
    rintro e a3 X3 ⟨rfl, hk3, hp3, i3⟩
    have l3 := hk3.same _ _ (by omega) l2 rfl
    have d3 := hk3.same _ _ (Nat.le_refl _) d2 rfl
    exact ⟨_, _, run_endRound none l3, rfl, ⟨hI.putObj _ i3 (by omega) l3 rfl, World.putObj_heap_same (Array.getElem?_eq_some_iff.1 l3).1, (World.putObj_heap_other (by omega)).trans d3⟩, hKt (hKt k2 hp3) (hKb _ _ _ _ (by omega) l3 rfl)⟩
  · rintro e X ⟨⟨v, rfl⟩, xs, hS, hi, hl, hd⟩
    exact ⟨none, _, run_endLoop hl (by simp [rec']), hdone _ xs _ (Nat.le_refl _) hS (hI.putObj _ hi (by omega) hl rfl) ((World.putObj_heap_other (by omega)).trans hd)⟩
end Rf
end Go.Proofs.YtojdfdlbdpdlkaaGreatDoor

namespace Go.Proofs.YtojdfdlbdpdlkaaGreatDoor
set_option linter.unusedSimpArgs false
open Go.RowKit Go.Shelf
set_option linter.unusedVariables false
namespace Jn
/-- what the body is handed: the place behind a record, where its text lies, the text -/
structure Pc where
  q : Int
  b : Nat
  o : Nat
  t : ByteArray
def Pc.vals (x : Pc) : Array Value := #[.int .i64 x.q, .slice (some ⟨x.b, x.o, none⟩) x.t.size x.t.size]
def Pc.ent (x : Pc) : ByteArray × Int := (x.t, x.q)
/-- the text's bytes lie where it says, in a row of bytes -/
def There (s : ByteArray) (pre : List Pc) (x : Pc) (W : World) : Prop :=
  (pre.length : Int) ≤ s.size ∧ x.t.size ≤ 300 ∧ 0 ≤ x.q ∧ x.q ≤ s.size ∧
  ∃ cs fr, W.heap[x.b]? = some (.cells cs 5 fr) ∧ ∀ i, i < x.t.size → cs[x.o + i]? = some (.int .u8 ((nums x.t).getD i 0))
/-- what a round keeps: rows of bytes, and the box of the text -/
structure Kp (db : Nat) (W W' : World) : Prop where
  size : W.heap.size ≤ W'.heap.size
  rows : ∀ (b : Nat) cs fr, W.heap[b]? = some (.cells cs 5 fr) → W'.heap[b]? = some (.cells cs 5 fr)
  box : ∀ o, W.heap[db]? = some o → W'.heap[db]? = some o
theorem Kp.refl (db : Nat) (W : World) : Kp db W W := ⟨Nat.le_refl _, fun _ _ _ h => h, fun _ h => h⟩
theorem Kp.trans {db : Nat} {A B C : World} (h : Kp db A B) (k : Kp db B C) : Kp db A C :=
  ⟨Nat.le_trans h.size k.size, fun b cs fr hb => k.rows b cs fr (h.rows b cs fr hb), fun o ho => k.box o (h.box o ho)⟩
theorem Kp.put {db n : Nat} (hn : db < n) (W : World) (l : Nat) (o o' : Obj) (hl : n ≤ l) (h : W.heap[l]? = some o) (hc : o.isCells = false) : Kp db W (W.putObj l o') := by
  refine ⟨by simp, fun b cs fr hb => ?_, fun x hx => (World.putObj_heap_other (by omega)).trans hx⟩
  refine (World.putObj_heap_other (fun e => ?_)).trans hb
  subst e
  rw [h] at hb
  cases hb
  cases hc
theorem Kp.below {db : Nat} {W W' : World} (h : Below W.heap.size W W') : Kp db W W' :=
  ⟨h.size, fun b cs fr hb => (h.block b (Array.getElem?_eq_some_iff.1 hb).1).trans hb, fun o ho => (h.block db (Array.getElem?_eq_some_iff.1 ho).1).trans ho⟩
theorem There.own (s : ByteArray) (B : Nat) (x : Pc) (pre : List Pc) : OwnFrom B (fun (_ : Unit) W => There s pre x W) := by
  rintro _ X Y row ⟨h1, h2, h3, h4, cs, fr, hb, hc⟩ hg hr
  refine ⟨h1, h2, h3, h4, cs, fr, (hg.block _ (Array.getElem?_eq_some_iff.1 hb).1 (fun e => ?_)).trans hb, hc⟩
  obtain ⟨_, o, ho, hcl⟩ := hr x.b e.symm
  rw [hb] at ho
  cases ho
  cases hcl
theorem row_at (s : ByteArray) (cap i : Nat) (h : i < s.size) : (bytesRow s cap)[i]? = some (.int .u8 ((nums s).getD i 0)) := by
  have e : (nums s).getD i 0 = ((s.data[i]'(by simpa using h)).toNat : Int) := by
    simp [nums, List.getD, h]
  have h' : i < s.data.size := h
  rw [e]
  unfold bytesRow
  rw [Array.getElem?_append_left (by simpa using h')]
  simp
  exact ⟨_, Array.getElem?_eq_getElem h', rfl⟩
theorem nums_extract (s : ByteArray) (x e i : Nat) (he : e ≤ s.size) (h : i < (s.extract x e).size) : (nums (s.extract x e)).getD i 0 = (nums s).getD (x + i) 0 := by
  rw [ByteArray.size_extract] at h
  have h1 : x + i < s.size := by omega
  have h2 : i < (s.extract x e).data.toList.length := by
    simp [ByteArray.size_extract]
    omega
  simp only [nums, List.getD]
  rw [List.getElem?_map, List.getElem?_map, List.getElem?_eq_getElem h2, List.getElem?_eq_getElem (by simpa using h1)]
  simp [ByteArray.data_extract]
end Jn

theorem entriesIn_any (s : ByteArray) (w : World) :
    Calls Tryz.prog 70 #[.string s] w fun e w' => e = .returned (.func (.func 89) #[] #[.pointer (some ⟨w.heap.size, 0, none⟩)]) ∧ w' = w.alloc (.cells #[.string s] 9) := by
  go_enter Tryz.func70, Tryz.ntmps70
  go_wp2_with fail
  go_ret
  exact ⟨rfl, rfl⟩
end Go.Proofs.YtojdfdlbdpdlkaaGreatDoor

namespace Go.Proofs.YtojdfdlbdpdlkaaGreatDoor
set_option linter.unusedSimpArgs false
open Go.RowKit Go.Shelf
attribute [local go_sem] Oper.semAt_some
set_option linter.unusedVariables false

set_option maxRecDepth 100000 in
set_option maxHeartbeats 4000000 in
theorem entries_gives (s : ByteArray) (hs : s.size ≤ 8000) (db : Nat) (w0 : World) (hb : Boxed w0 db 9 (.string s)) (n : Nat) (hn : 3 ≤ n) :
    Rf.Gives Fence.wide n Tryz.prog 89 #[.pointer (some ⟨db, 0, none⟩)] Jn.Pc.vals (Jn.There s) (Jn.Kp db) (fun xs => xs.map Jn.Pc.ent = Jn.all s) w0 := by
  intro l J W hW hJ hY h0
  have hB : Boxed W db 9 (.string s) := (hW.block db hb.lt).trans hb
  have hcell := hB.cell
  have h1 : 1 ≤ n := by omega
  have h2 : 1 ≤ n - 1 := by omega
  have hconv := run_bytes_of_string (P := Tryz.prog) W 9 22 5 s Tryz.underlying9 Tryz.underlying22 Tryz.underlying5
  have hcap := grownCap_ge W s.size 0 5
  obtain ⟨cap, hcap'⟩ : ∃ c, c = grownCap W s.size 0 5 := ⟨_, rfl⟩
  rw [← hcap'] at hconv hcap
  clear hcap'
  obtain ⟨fr, hfr⟩ : ∃ fr, fr = ((bytesRow s cap).size, (bytesRow s cap).size + 1) := ⟨_, rfl⟩
  rw [← hfr] at hconv
  obtain ⟨X, hX⟩ : ∃ X, X = W.drew.alloc (.cells (bytesRow s cap) 5 fr) := ⟨_, rfl⟩
  rw [← hX] at hconv
  have kX : Below W.heap.size W X := by rw [hX]; exact (Below.drew (Below.refl _ _)).alloc (Nat.le_refl _) _
  have rX : X.heap[W.heap.size]? = some (.cells (bytesRow s cap) 5 fr) := by rw [hX]; exact World.alloc_heap_new W.drew _
  have bX : Boxed X db 9 (.string s) := (kX.block db hB.lt).trans hB
  have HJX : Hid (J [] X) := hJ _ _ _ h0 (Fk.grownBy_below none kX)
  have HY := Fk.hide hY
  have HJ := Fk.hide hJ
  have HRX := Fk.hide rX
  have HBX := Fk.hide bX
  clear hX kX rX bX hfr hY hJ h0 hb hB hW
  show CallsIn Fence.wide n Tryz.prog _ #[.func (.yield l) #[] #[], .pointer (some ⟨db, 0, none⟩)] W _
  refine callsIn_of_wp Tryz.func89 rfl trivial ?_ rfl
  simp only [Tryz.ntmps89, List.size_toArray, List.length_cons, List.length_nil, Nat.reduceAdd, Nat.reduceSub, Array.replicate_succ, Array.replicate_zero, List.push_toArray, List.append_toArray, List.nil_append, List.cons_append]
  gi_wp2
  gi_loopw [4] (fun i wr => ∃ (pre : List Jn.Pc) (m : Nat) (p : Int), i = .int .i64 p ∧ 0 ≤ p ∧ p ≤ s.size ∧ Hid (Jn.all s = pre.map Jn.Pc.ent ++ Jn.ents s m p) ∧ Hid ((s.size : Int) - p < m) ∧ Hid ((pre.length : Int) ≤ p) ∧ Hid (J pre wr) ∧ Hid (wr.heap[W.heap.size]? = some (.cells (bytesRow s cap) 5 fr)) ∧ Hid (Boxed wr db 9 (.string s))) (fun i _ => ((s.size : Int) - intOf i).toNat)
  case atStart => exact ⟨[], s.size + 1, 0, rfl, by omega, by omega, rfl, by show _ < _; omega, by show _ ≤ _; simp, HJX.out, HRX.out, HBX.out⟩
  case round =>
    obtain ⟨pre, m, p, rfl, hp0, hp1, HA, HM, HL, HP, HR, HBW⟩ := hrel
    have hcw := HBW.out.cell
    gi_wp2
    refine ⟨trivial, (callsIn_wide.2 (findEntry_any s p _ (by unfold maxLen; omega) (by omega))).mono ?_⟩
    rintro e w2 ⟨h2, b2⟩
    have HP2 : Hid (J pre w2) := HJ.out _ _ _ HP.out (Fk.grownBy_below none b2)
    have HR2 : Hid (w2.heap[W.heap.size]? = some (.cells (bytesRow s cap) 5 fr)) := (b2.block _ (Array.getElem?_eq_some_iff.1 HR.out).1).trans HR.out
    have HB2 : Hid (Boxed w2 db 9 (.string s)) := (b2.block db HBW.out.lt).trans HBW.out
    clear b2 HP HR HBW hcw
    rcases h2 with ⟨h2, x, q, rfl⟩ | ⟨x, q, h2, hx0, hxq, hqs, hpq, rfl⟩
    · have HE : Hid (pre.map Jn.Pc.ent = Jn.all s) := by show _ = _; rw [HA.out, Jn.ents_end h2]; simp
      clear h2 HA
      gi_wp2
      refine bodyPost_ret (results_none rfl _ _ _) rfl ?_
      exact ⟨⟨_, rfl⟩, pre, HE.out, HP2.out⟩
    · obtain ⟨k, rfl⟩ : ∃ k, m = k + 1 := ⟨m - 1, by have := HM.out; omega⟩
      obtain ⟨t, ht⟩ : ∃ t, t = s.extract x.toNat (q - 4).toNat := ⟨_, rfl⟩
      have hts : t.size = (q - 4).toNat - x.toNat := by rw [ht, ByteArray.size_extract]; omega
      rw [← ht] at h2
      have hbd := Jn.one_bd h2
      obtain ⟨o, ho⟩ : ∃ o, o = if q - 4 = x then 0 else x.toNat := ⟨_, rfl⟩
      have hsl : ∀ Z, (Instr.slice 22 (.slice (some ⟨W.heap.size, 0, none⟩) s.size cap) (some (.int .i64 x)) (some (.int .i64 (q - 4))) (some (.int .i64 (q - 4)))).run Tryz.prog Z = .ok (.slice (some ⟨W.heap.size, o, none⟩) t.size t.size) Z := fun Z => by
        rw [run_slice_lhm Z 22 _ _ _ Tryz.underlying22 .i64 .i64 .i64 x (q - 4) (q - 4) (by omega) (by omega) (by omega) (by omega)]
        show ((sizeOf 5).run Tryz.prog Z).andThen _ = _
        rw [size8]
        simp only [Result.andThen, sliced]
        rw [ho, hts]
        by_cases he : q - 4 = x
        · rw [if_pos (by rw [he]), if_pos he]
        · rw [if_neg (by omega), if_neg he]; simp [Addr.add] <;> omega
      have hth : Jn.There s pre ⟨q, W.heap.size, o, t⟩ w2 := by
        refine ⟨by have := HL.out; omega, hbd.2.2.2.2, by show 0 ≤ q; omega, hqs, _, _, HR2.out, fun i hi => ?_⟩
        have hi' : i < t.size := hi
        have hne : ¬ q - 4 = x := by omega
        show (bytesRow s cap)[o + i]? = _
        rw [ho, if_neg hne, Jn.row_at s cap (x.toNat + i) (by omega)]
        show some _ = some (Value.int .u8 ((nums t).getD i 0))
        rw [ht, Jn.nums_extract s x.toNat (q - 4).toNat i (by omega) (by rw [← ht]; exact hi')]
      have HE : Hid (Jn.all s = (pre ++ [(⟨q, W.heap.size, o, t⟩ : Jn.Pc)]).map Jn.Pc.ent ++ Jn.ents s k q) := by
        show _ = _
        rw [HA.out, Jn.ents_step h2]; simp [Jn.Pc.ent]
      obtain ⟨fn, tmps, assign, body, hy, hR⟩ := HY.out pre ⟨q, W.heap.size, o, t⟩ w2 HP2.out hth
      dsimp only [Jn.Pc.vals] at hy
      clear hth h2 HA ho ht hts hbd
      gi_wp2
      refine hR.mono ?_
      rintro e W3 ⟨rfl, hJ3, hk3⟩
      have HJ3 := Fk.hide hJ3
      have HR3 : Hid (W3.heap[W.heap.size]? = some (.cells (bytesRow s cap) 5 fr)) := hk3.rows _ _ _ HR2.out
      have HB3 : Hid (Boxed W3 db 9 (.string s)) := hk3.box _ HB2.out
      clear hJ3 hk3 hy hR HP2 HR2 HB2
      gi_wp2
      go_roundw
      case rel => exact ⟨pre ++ [(⟨q, W.heap.size, o, t⟩ : Jn.Pc)], k, q, rfl, by omega, by omega, HE, by have := HM.out; show _ < _; push_cast at this; omega, by have := HL.out; show _ ≤ _; simp; omega, HJ3, HR3, HB3⟩
      case measure => simp [intOf]; omega
end Go.Proofs.YtojdfdlbdpdlkaaGreatDoor
