/- A seen list put behind an owned one, as one operation, and at a step of a region that draws. No function of the program here. Lists of texts as rows: put one behind the other, cut, and how much room they have. The shape of Field as a list's element. No function of the program here. Records and lists of structs, read off an argument of the law. No function of the program here. -/
import Derived.Test.YtojdfdlbdpdlkaaGreatDoorRowsKit
import Derived.Deep.RegionLaw
import Derived.Test.YtojdfdlbdpdlkaaGreatDoorProg
import Derived.Test.YtojdfdlbdpdlkaaGreatDoorJoined1
import Derived.Deep.Strs
import Derived.Deep.Slices
import Derived.ChangeArms
namespace Go.Proofs.YtojdfdlbdpdlkaaGreatDoor
open Go.RowKit
set_option linter.unusedVariables false
namespace Rk
section
variable {α : Type} {S : Shape α}
theorem wp_append_view {P : Program} (w : World) {o : Oper} {a : Act} {K : Act → World → Prop} {Q : Exit → Act → World → Prop} (s x : Operand) (t : TypeId)
    (ho : o.op = .call { callee := .builtin .append, args := #[s, x], argTypes := #[t, t] })
    (base : Nat) (e : TypeId) (i : TypeInfo) (z : Value) (m by_ : Nat) (hm : S.m = m) (ht : P.underlying t = some (.slice e)) (hi : P.info? e = some i) (hz : i.zero = some z) (hsize : i.size = m) (hby : i.bytes = by_) (hzs : z.cells.size = m) (hb1 : by_ ≤ 1000)
    (v u : Value) (M N : List α) (hs : a.eval s = v) (hx : a.eval x = u) (hM : Own S w base e v M) (hN : View S w u N) (hu : Shut u) (hl : M.length + N.length ≤ 1000000000) (hb : base ≤ w.heap.size)
    (h : ∀ v' w', Own S w' base e v' (M ++ N) → w.grownBy w' v.ownBlock → K (a.put o.dst v') w') : o.wp P a w K Q := by
  subst hm
  obtain ⟨ao, cap, rfl, hN⟩ := hN
  have fin : ∀ v' w', w'.ownsRow base e S.m v' (M.length + N.length) (flat S M ++ flat S N) → Own S w' base e v' (M ++ N) := fun v' w' hr => by
    unfold Own
    rw [flat_append, List.length_append]
    exact hr
  cases ao with
  | none =>
    have hc := hu _ _ _ rfl rfl
    subst hc
    have hN0 : N = [] := by
      cases N with
      | nil => rfl
      | cons f r => obtain ⟨b, o', e', _⟩ := hN (by simp); cases e'
    subst hN0
    have hrun := run_append_owned_none (P := P) w base t o.type e i S.m ht hi v M.length (flat S M) hM
    unfold Oper.wp
    have e0 : (Value.slice none ([] : List α).length 0) = .slice none 0 0 := rfl
    rw [e0] at hx
    simp [execOp, ho, resolve, invoke, builtin, hs, hx, hrun, Result.andThen]
    exact h _ w (by simpa using hM) (World.grownBy.refl _ _)
  | some ad =>
    refine wp_append_own w s x t ho base e i z S.m by_ ht hi hz hsize hby hzs S.pos v M.length (flat S M) hs hM ad N.length cap (flat S N) hx (flat_length N) ?_ (flat_one N) (by unfold maxLen; omega) ?_ hb ?_
    · intro j u hju
      have hp : 0 < N.length := by
        cases N with
        | nil => simp [flat] at hju
        | cons _ _ => simp
      obtain ⟨b, o', e', _, hsee⟩ := hN hp
      obtain rfl := Option.some.inj e'
      exact sees_cell hsee j u hju
    · exact Nat.le_trans (Nat.mul_le_mul hl hb1) (by decide)
    · intro v' w' h1 h2 _
      exact h v' w' (fin v' w' h1) h2
theorem step_append_view {P : Program} (w : World) {ops : Array Oper} {o : Oper} {a : Act} {K : Act → World → Prop} {Q : Exit → Act → World → Prop} {E : Prop} (hgd : o.guard = none) (s x : Operand) (t : TypeId)
    (ho : o.op = .call { callee := .builtin .append, args := #[s, x], argTypes := #[t, t] })
    (base : Nat) (e : TypeId) (i : TypeInfo) (z : Value) (m by_ : Nat) (hm : S.m = m) (ht : P.underlying t = some (.slice e)) (hi : P.info? e = some i) (hz : i.zero = some z) (hsize : i.size = m) (hby : i.bytes = by_) (hzs : z.cells.size = m) (hb1 : by_ ≤ 1000)
    (v u : Value) (M N : List α) (hs : a.eval s = v) (hx : a.eval x = u) (hM : Own S w base e v M) (hN : View S w u N) (hu : Shut u) (hl : M.length + N.length ≤ 1000000000) (hb : base ≤ w.heap.size)
    (h : ∀ v' w', Own S w' base e v' (M ++ N) → w.grownBy w' v.ownBlock → K (a.put o.dst v') w') : if Region.wanted o (yielded ops a.tmps) = true then Oper.wp P o a w K Q else E := by
  have hw : Region.wanted o (yielded ops a.tmps) = true := by simp [Region.wanted, hgd]
  rw [if_pos hw]
  exact wp_append_view w s x t ho base e i z m by_ hm ht hi hz hsize hby hzs hb1 v u M N hs hx hM hN hu hl hb h
end
end Rk
end Go.Proofs.YtojdfdlbdpdlkaaGreatDoor

namespace Go.Proofs.YtojdfdlbdpdlkaaGreatDoor
open Go.RowKit
set_option linter.unusedVariables false
theorem infoText : (Tryz.prog.info? 9).map (fun i => (i.zero, i.size, i.bytes)) = some (some (.string ByteArray.empty), 1, 16) := by kernel_rfl
def Sx.S : Rk.Shape ByteArray where
  m := 1
  cs t := [.string t]
  z := ByteArray.empty
  pos := by decide
  len := fun _ => rfl
  one := fun a u hu => by simp at hu; subst hu; rfl
theorem Sx.flat (T : List ByteArray) : Rk.flat Sx.S T = Sk.tc T := by
  unfold Rk.flat Sk.tc
  induction T with
  | nil => rfl
  | cons t r ih => rw [List.flatMap_cons, ih]; rfl
theorem Sx.own_sk {w : World} {base : Nat} {e : TypeId} {v : Value} {T : List ByteArray} (h : Rk.Own Sx.S w base e v T) : Sk.Own w base e v T := by
  unfold Rk.Own at h
  rw [Sx.flat] at h
  exact h
theorem Sk.View.rows {w : World} {v : Value} {T : List ByteArray} (h : Sk.View w v T) : Rk.View Sx.S w v T := by
  obtain ⟨a, cap, e, hs⟩ := h
  refine ⟨a, cap, e, fun h0 => ?_⟩
  obtain ⟨b, e', hb, hc⟩ := hs h0
  refine ⟨b, 0, e', hb, fun i hi j hj => ?_⟩
  have hj0 : j = 0 := by have : j < 1 := hj; omega
  subst hj0
  have := hc i hi
  show w.cell? ⟨b, 0 + i * 1 + 0, none⟩ = _
  rw [show 0 + i * 1 + 0 = i by omega, this]
  rfl
theorem Sk.View.take {w : World} {b n c : Nat} {T : List ByteArray} (h : Sk.View w (.slice (some ⟨b, 0, none⟩) n c) T) (k : Nat) (hk : k ≤ T.length) : Sk.View w (.slice (some ⟨b, 0, none⟩) k c) (T.take k) := by
  obtain ⟨a, cap, e, hs⟩ := h
  have hl : (T.take k).length = k := by simp; omega
  refine ⟨some ⟨b, 0, none⟩, c, by rw [hl], fun h0 => ?_⟩
  rw [hl] at h0
  obtain ⟨b', e', hb, hc⟩ := hs (by omega)
  simp only [Value.slice.injEq] at e
  obtain ⟨ea, _, _⟩ := e
  rw [← ea] at e'
  cases e'
  refine ⟨b, rfl, hb, fun i hi => ?_⟩
  rw [hl] at hi
  rw [hc i (by omega)]
  simp [Sk.at_, List.getD, hi]
theorem Sk.Own.cap {w : World} {base n c : Nat} {a : Option Addr} {e : TypeId} {T : List ByteArray} (h : Sk.Own w base e (.slice a n c) T) : n ≤ c := by
  obtain ⟨_, h1 | ⟨g, cap, cur, hv, _, _, hc, _⟩⟩ := h
  · have := h1.1; cases this; exact Nat.le_refl _
  · simp only [Value.slice.injEq] at hv
    obtain ⟨_, e1, e2⟩ := hv
    omega
theorem Sk.Own.some_ {w : World} {base n c : Nat} {a : Option Addr} {e : TypeId} {T : List ByteArray} (h : Sk.Own w base e (.slice a n c) T) (hT : T ≠ []) : ∃ b, a = some ⟨b, 0, none⟩ := by
  rcases h.form with ⟨_, h2⟩ | ⟨g, c', h1, _⟩
  · exact absurd h2 hT
  · simp only [Value.slice.injEq] at h1
    exact ⟨g, h1.1⟩
theorem Sk.Own.shut_ {w : World} {base : Nat} {v : Value} {e : TypeId} {T : List ByteArray} (h : Sk.Own w base e v T) : Rk.Shut v := by
  rcases h.form with ⟨h1, _⟩ | ⟨g, c', h1, _⟩
  · rw [h1]; exact Rk.shut_none
  · rw [h1]; exact Rk.shut_some _ _ _
theorem Ik.view_none (w : World) : Ik.View w (.slice none 0 0) [] := ⟨none, 0, rfl, fun h => absurd h (Nat.lt_irrefl _)⟩
end Go.Proofs.YtojdfdlbdpdlkaaGreatDoor

namespace Go.Proofs.YtojdfdlbdpdlkaaGreatDoor
open Go.RowKit
set_option linter.unusedVariables false
set_option linter.unusedSimpArgs false
/-- Field -/
abbrev Fd.E := Int × ByteArray
def Fd.S : Rk.Shape Fd.E where
  m := 2
  cs f := [.int .i64 (f.1), .string (f.2)]
  z := (0, ByteArray.empty)
  pos := by decide
  len := fun _ => rfl
  one := fun a u hu => by
    simp at hu
    rcases hu with rfl | rfl <;> rfl
/-- numbers and texts that a machine can hold -/
def Fd.Fit (f : Fd.E) : Prop := (-9223372036854775808 ≤ f.1 ∧ f.1 ≤ 9223372036854775807) ∧ f.2.size ≤ maxLen
theorem Fd.fit_at {L : List Fd.E} (h : ∀ f ∈ L, Fd.Fit f) (i : Nat) : Fd.Fit (Rk.at_ Fd.S L i) := by
  by_cases hi : i < L.length
  · exact h _ (Rk.at_mem L i hi)
  · have e : Rk.at_ Fd.S L i = Fd.S.z := by simp [Rk.at_, List.getD, List.getElem?_eq_none (Nat.le_of_not_lt hi)]
    rw [e]
    simp [Fd.Fit, Fd.S, maxLen]
theorem Fd.c0 {w : World} {b o k : Nat} {L : List Fd.E} (h : Rk.Sees Fd.S w b o L) (hk : k < L.length) : w.cell? ⟨b, o + k * 2, none⟩ = some (.int .i64 ((Rk.at_ Fd.S L k).1)) := h k hk 0 (by decide)
theorem Fd.o0 {w : World} {base g n cap k : Nat} {e : TypeId} {L : List Fd.E} (h : Rk.Own Fd.S w base e (.slice (some ⟨g, 0, none⟩) n cap) L) (hk : k < L.length) : w.cell? ⟨g, k * 2, none⟩ = some (.int .i64 ((Rk.at_ Fd.S L k).1)) := h.at hk 0 (by decide)
theorem Fd.c1 {w : World} {b o k : Nat} {L : List Fd.E} (h : Rk.Sees Fd.S w b o L) (hk : k < L.length) : w.cell? ⟨b, o + k * 2 + 1, none⟩ = some (.string ((Rk.at_ Fd.S L k).2)) := h k hk 1 (by decide)
theorem Fd.o1 {w : World} {base g n cap k : Nat} {e : TypeId} {L : List Fd.E} (h : Rk.Own Fd.S w base e (.slice (some ⟨g, 0, none⟩) n cap) L) (hk : k < L.length) : w.cell? ⟨g, k * 2 + 1, none⟩ = some (.string ((Rk.at_ Fd.S L k).2)) := h.at hk 1 (by decide)
theorem Fd.own_set {w : World} {base g n cap k : Nat} {e : TypeId} {L : List Fd.E} (h : Rk.Own Fd.S w base e (.slice (some ⟨g, 0, none⟩) n cap) L) (hk : k < L.length) (f : Fd.E) :
    Rk.Own Fd.S ((w.setCell ⟨g, k * 2, none⟩ (.int .i64 (f.1))).setCell ⟨g, k * 2 + 1, none⟩ (.string (f.2))) base e (.slice (some ⟨g, 0, none⟩) n cap) (L.set k f) := h.set hk f
end Go.Proofs.YtojdfdlbdpdlkaaGreatDoor

namespace Go.Proofs.YtojdfdlbdpdlkaaGreatDoor
open Go.ChangeShapes Go.WideShapes Go.Deep Go.RowKit
set_option linter.unusedVariables false
namespace Rk
section
variable {H : Type} {enc : TypeId × Value → H} {P : Program}
/-- a list of structs, read: the element's own reading is handed in -/
theorem open_list {α : Type} [Inhabited α] {S : Shape α} {w : World} {tSl tEl : TypeId} (hSl : P.underlying tSl = some (.slice tEl)) (cEl : P.cellsOf tEl = S.m) (fit : α → Prop)
    (hel : ∀ n cs' y, DataW.trod enc P w 0 (fun _ => true) true n tEl cs' = some y → cs'.length = S.m → ∃ f, fit f ∧ cs' = S.cs f)
    {n : Nat} {v : Value} {y : DataW H × List MemPlace} (hs : DataW.trod enc P w 0 (fun _ => true) true n tSl [v] = some y) :
    ∃ L : List α, (∀ f ∈ L, fit f) ∧ L.length ≤ maxLen ∧ View S w v L ∧ Shut v := by
  rcases open_slice hSl hs with ⟨e, _⟩ | ⟨a, len, cap, m, n', D, Pl, e, _, hl, hm, hmm, _, hx⟩
  · simp at e
    subst e
    exact ⟨[], (fun f hf => by cases hf), Nat.zero_le _, ⟨none, 0, rfl, fun h => absurd h (by simp)⟩, shut_none⟩
  · simp at e
    subst e
    have hmc : m = cap := by simpa using hmm
    have each : ∀ i, i < len → ∃ f : α, fit f ∧ ∀ j, j < S.m → w.cell? (a.add (i * S.m + j)) = (S.cs f)[j]? := by
      intro i hi
      obtain ⟨cs', h1, h2⟩ := hx i (by omega)
      rw [cEl] at h1
      obtain ⟨_, hlen, hcell⟩ := World.cells?_some h1
      obtain ⟨f, hf, e⟩ := hel _ _ _ h2 hlen
      refine ⟨f, hf, fun j hj => ?_⟩
      have := hcell j hj
      rw [add_add] at this
      rw [this, e]
    obtain ⟨F, hF⟩ := choose_lt each
    have hlen : ((List.range len).map F).length = len := by simp
    have hg : ∀ i, i < len → at_ S ((List.range len).map F) i = F i := fun i hi => by simp [at_, List.getD, hi]
    refine ⟨(List.range len).map F, ?_, by simp; omega, ?_, shut_some _ _ _⟩
    · intro f hf
      obtain ⟨i, hi, rfl⟩ := List.mem_map.1 hf
      exact (hF i (by simpa using hi)).1
    · by_cases h0 : len = 0
      · subst h0
        exact ⟨_, _, rfl, fun h => absurd h (by simp)⟩
      · obtain ⟨b, o, spot⟩ := a
        have hp := (hF 0 (by omega)).2 0 S.pos
        obtain ⟨u, hu⟩ : ∃ u, (S.cs (F 0))[0]? = some u := ⟨_, List.getElem?_eq_getElem (by rw [S.len]; exact S.pos)⟩
        rw [hu] at hp
        have hspot : spot = none := by simpa [Addr.add] using World.cell?_spot hp
        subst hspot
        refine ⟨_, cap, by rw [hlen], fun _ => ⟨b, o, rfl, ?_, ?_⟩⟩
        · simp only [World.cell?, Nat.zero_mul, Addr.add, if_true] at hp
          by_cases hb : b < w.heap.size
          · exact hb
          · simp [Array.getElem?_eq_none (Nat.le_of_not_lt hb)] at hp
        · intro i hi j hj
          rw [hlen] at hi
          have := (hF i hi).2 j hj
          rw [add_plain] at this
          rw [hg i hi, Nat.add_assoc]
          exact this

theorem open_field {w : World} {tEl tStr tInt : TypeId} {g0 g1 : Go.Field} (hEl : P.underlying tEl = some (.struct #[g0, g1]))
    (o0 : g0.offset = 0) (o1 : g1.offset = 1) (t0 : g0.type = tInt) (t1 : g1.type = tStr)
    (cStr : P.cellsOf tStr = 1) (cInt : P.cellsOf tInt = 1) (hStr : P.underlying tStr = some .string) (hInt : P.underlying tInt = some (.int .i64)) :
    ∀ n cs' y, DataW.trod enc P w 0 (fun _ => true) true n tEl cs' = some y → cs'.length = Fd.S.m → ∃ f, Fd.Fit f ∧ cs' = Fd.S.cs f := by
  intro n cs' y h hlen
  obtain ⟨xs, k, _, _, _, hxl, hf⟩ := DataW.trod_struct hEl h
  match cs', hlen with
  | [u0, u1], _ =>
    have g0' := hf 0 g0 rfl
    have g1' := hf 1 g1 rfl
    rw [o0, t0, cInt] at g0'
    rw [o1, t1, cStr] at g1'
    match xs, hxl with
    | [y0, y1], _ =>
      have q0 : DataW.trod enc P w 0 (fun _ => true) true k tInt [u0] = some y0 := by simpa using g0'
      have q1 : DataW.trod enc P w 0 (fun _ => true) true k tStr [u1] = some y1 := by simpa using g1'
      obtain ⟨s0, e0, _, z0⟩ := DataW.trod_int hInt q0
      obtain ⟨s1, e1, _, z1⟩ := DataW.trod_string hStr q1
      simp at e0 e1
      subst e0 e1
      simp [Lit.wf] at z0
      exact ⟨(s0, s1), ⟨z0, z1⟩, rfl⟩

theorem open_rec {w : World} {r : Reach} {b0 : Nat} {tR tSl tEl tStr tInt : TypeId} {f0 f1 g0 g1 : Go.Field}
    (hR : P.underlying tR = some (.struct #[f0, f1])) (cR : P.cellsOf tR = 2) (p0 : f0.offset = 0) (p1 : f1.offset = 1) (s0 : f0.type = tInt) (s1 : f1.type = tSl) (cSl : P.cellsOf tSl = 1)
    (hSl : P.underlying tSl = some (.slice tEl)) (cEl : P.cellsOf tEl = 2) (hEl : P.underlying tEl = some (.struct #[g0, g1]))
    (o0 : g0.offset = 0) (o1 : g1.offset = 1) (t0 : g0.type = tInt) (t1 : g1.type = tStr)
    (cStr : P.cellsOf tStr = 1) (cInt : P.cellsOf tInt = 1) (hStr : P.underlying tStr = some .string) (hInt : P.underlying tInt = some (.int .i64))
    {v : Value} {d : DataW H} {p : List MemPlace} (hv : Value.okWide P w r b0 tR v) (h : DataW.Trod enc P w 0 (fun _ => true) true tR v d p) :
    ∃ v0 K L, v = .agg #[.int .i64 K, v0] ∧ (Lit.int .i64 K).wf = true ∧ (∀ f ∈ L, Fd.Fit f) ∧ L.length ≤ maxLen ∧ Shut v0 ∧ View Fd.S w v0 L := by
  obtain ⟨cs, rfl, hsz⟩ := okWide_struct hR hv
  rw [cR] at hsz
  obtain ⟨k0, v0, rfl⟩ : ∃ k0 v0, cs = #[k0, v0] := by
    obtain ⟨l⟩ := cs
    match l, hsz with
    | [x, y], _ => exact ⟨x, y, rfl⟩
  obtain ⟨fuel, hf⟩ := h
  obtain ⟨xs, k, _, _, _, hxl, hff⟩ := DataW.trod_struct hR hf
  have g0' := hff 0 f0 rfl
  have g1' := hff 1 f1 rfl
  rw [p0, s0, cInt] at g0'
  rw [p1, s1, cSl] at g1'
  match xs, hxl with
  | [y0, y1], _ =>
    have q0 : DataW.trod enc P w 0 (fun _ => true) true k tInt [k0] = some y0 := by simpa [Value.cells] using g0'
    have q1 : DataW.trod enc P w 0 (fun _ => true) true k tSl [v0] = some y1 := by simpa [Value.cells] using g1'
    obtain ⟨z, e0, _, wf⟩ := DataW.trod_int hInt q0
    simp at e0
    subst e0
    obtain ⟨L, h1, h2, h3, h4⟩ := open_list (S := Fd.S) hSl cEl Fd.Fit (open_field hEl o0 o1 t0 t1 cStr cInt hStr hInt) q1
    exact ⟨v0, z, L, rfl, wf, h1, h2, h4, h3⟩
end
end Rk
end Go.Proofs.YtojdfdlbdpdlkaaGreatDoor
