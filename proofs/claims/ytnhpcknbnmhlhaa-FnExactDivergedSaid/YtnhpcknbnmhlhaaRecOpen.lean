/- Records and lists of structs, read off an argument of the law. No function of the program here. -/
import Derived.Test.YtnhpcknbnmhlhaaFieldKit
import Derived.Deep.Strs
import Derived.Deep.Slices
import Derived.ChangeArms
namespace Go.Proofs.Ytnhpcknbnmhlhaa
open Go.ChangeShapes Go.WideShapes Go.Deep Go.RowKit
set_option linter.unusedVariables false
namespace Rk
section
variable {H : Type} {enc : TypeId × Value → H} {P : Program}
/-- a list of structs, read: the element's own reading is handed in -/
theorem open_list {α : Type} [Inhabited α] {S : Shape α} {w : World} {tSl tEl : TypeId} (hSl : P.underlying tSl = some (.slice tEl)) (cEl : P.cellsOf tEl = S.m) (fit : α → Prop)
    (hel : ∀ n cs' y, DataW.trod enc P w 0 (fun _ => true) true n tEl cs' = some y → cs'.length = S.m → ∃ f, fit f ∧ cs' = S.cs f)
    {n : Nat} {v : Value} {y : DataW H × List MemPlace} (hs : DataW.trod enc P w 0 (fun _ => true) true n tSl [v] = some y) :
    ∃ L : List α, (∀ f ∈ L, fit f) ∧ L.length ≤ maxLen ∧ View S w v L ∧ Shut v := by
  rcases open_slice hSl hs with ⟨e, _⟩ | ⟨a, len, cap, m, n', D, Pl, e, _, hl, hm, hmm, _, hx⟩
  · simp at e
    subst e
    exact ⟨[], (fun f hf => by cases hf), Nat.zero_le _, ⟨none, 0, rfl, fun h => absurd h (by simp)⟩, shut_none⟩
  · simp at e
    subst e
    have hmc : m = cap := by simpa using hmm
    have each : ∀ i, i < len → ∃ f : α, fit f ∧ ∀ j, j < S.m → w.cell? (a.add (i * S.m + j)) = (S.cs f)[j]? := by
      intro i hi
      obtain ⟨cs', h1, h2⟩ := hx i (by omega)
      rw [cEl] at h1
      obtain ⟨_, hlen, hcell⟩ := World.cells?_some h1
      obtain ⟨f, hf, e⟩ := hel _ _ _ h2 hlen
      refine ⟨f, hf, fun j hj => ?_⟩
      have := hcell j hj
      rw [add_add] at this
      rw [this, e]
    obtain ⟨F, hF⟩ := choose_lt each
    have hlen : ((List.range len).map F).length = len := by simp
    have hg : ∀ i, i < len → at_ S ((List.range len).map F) i = F i := fun i hi => by simp [at_, List.getD, hi]
    refine ⟨(List.range len).map F, ?_, by simp; omega, ?_, shut_some _ _ _⟩
    · intro f hf
      obtain ⟨i, hi, rfl⟩ := List.mem_map.1 hf
      exact (hF i (by simpa using hi)).1
    · by_cases h0 : len = 0
      · subst h0
        exact ⟨_, _, rfl, fun h => absurd h (by simp)⟩
      · obtain ⟨b, o, spot⟩ := a
        have hp := (hF 0 (by omega)).2 0 S.pos
        obtain ⟨u, hu⟩ : ∃ u, (S.cs (F 0))[0]? = some u := ⟨_, List.getElem?_eq_getElem (by rw [S.len]; exact S.pos)⟩
        rw [hu] at hp
        have hspot : spot = none := by simpa [Addr.add] using World.cell?_spot hp
        subst hspot
        refine ⟨_, cap, by rw [hlen], fun _ => ⟨b, o, rfl, ?_, ?_⟩⟩
        · simp only [World.cell?, Nat.zero_mul, Addr.add, if_true] at hp
          by_cases hb : b < w.heap.size
          · exact hb
          · simp [Array.getElem?_eq_none (Nat.le_of_not_lt hb)] at hp
        · intro i hi j hj
          rw [hlen] at hi
          have := (hF i hi).2 j hj
          rw [add_plain] at this
          rw [hg i hi, Nat.add_assoc]
          exact this

theorem open_field {w : World} {tEl tStr tInt : TypeId} {g0 g1 : Go.Field} (hEl : P.underlying tEl = some (.struct #[g0, g1]))
    (o0 : g0.offset = 0) (o1 : g1.offset = 1) (t0 : g0.type = tInt) (t1 : g1.type = tStr)
    (cStr : P.cellsOf tStr = 1) (cInt : P.cellsOf tInt = 1) (hStr : P.underlying tStr = some .string) (hInt : P.underlying tInt = some (.int .i64)) :
    ∀ n cs' y, DataW.trod enc P w 0 (fun _ => true) true n tEl cs' = some y → cs'.length = Fd.S.m → ∃ f, Fd.Fit f ∧ cs' = Fd.S.cs f := by
  intro n cs' y h hlen
  obtain ⟨xs, k, _, _, _, hxl, hf⟩ := DataW.trod_struct hEl h
  match cs', hlen with
  | [u0, u1], _ =>
    have g0' := hf 0 g0 rfl
    have g1' := hf 1 g1 rfl
    rw [o0, t0, cInt] at g0'
    rw [o1, t1, cStr] at g1'
    match xs, hxl with
    | [y0, y1], _ =>
      have q0 : DataW.trod enc P w 0 (fun _ => true) true k tInt [u0] = some y0 := by simpa using g0'
      have q1 : DataW.trod enc P w 0 (fun _ => true) true k tStr [u1] = some y1 := by simpa using g1'
      obtain ⟨s0, e0, _, z0⟩ := DataW.trod_int hInt q0
      obtain ⟨s1, e1, _, z1⟩ := DataW.trod_string hStr q1
      simp at e0 e1
      subst e0 e1
      simp [Lit.wf] at z0
      exact ⟨(s0, s1), ⟨z0, z1⟩, rfl⟩

theorem open_rec {w : World} {r : Reach} {b0 : Nat} {tR tSl tEl tStr tInt : TypeId} {f0 f1 g0 g1 : Go.Field}
    (hR : P.underlying tR = some (.struct #[f0, f1])) (cR : P.cellsOf tR = 2) (p0 : f0.offset = 0) (p1 : f1.offset = 1) (s0 : f0.type = tInt) (s1 : f1.type = tSl) (cSl : P.cellsOf tSl = 1)
    (hSl : P.underlying tSl = some (.slice tEl)) (cEl : P.cellsOf tEl = 2) (hEl : P.underlying tEl = some (.struct #[g0, g1]))
    (o0 : g0.offset = 0) (o1 : g1.offset = 1) (t0 : g0.type = tInt) (t1 : g1.type = tStr)
    (cStr : P.cellsOf tStr = 1) (cInt : P.cellsOf tInt = 1) (hStr : P.underlying tStr = some .string) (hInt : P.underlying tInt = some (.int .i64))
    {v : Value} {d : DataW H} {p : List MemPlace} (hv : Value.okWide P w r b0 tR v) (h : DataW.Trod enc P w 0 (fun _ => true) true tR v d p) :
    ∃ v0 K L, v = .agg #[.int .i64 K, v0] ∧ (Lit.int .i64 K).wf = true ∧ (∀ f ∈ L, Fd.Fit f) ∧ L.length ≤ maxLen ∧ Shut v0 ∧ View Fd.S w v0 L := by
  obtain ⟨cs, rfl, hsz⟩ := okWide_struct hR hv
  rw [cR] at hsz
  obtain ⟨k0, v0, rfl⟩ : ∃ k0 v0, cs = #[k0, v0] := by
    obtain ⟨l⟩ := cs
    match l, hsz with
    | [x, y], _ => exact ⟨x, y, rfl⟩
  obtain ⟨fuel, hf⟩ := h
  obtain ⟨xs, k, _, _, _, hxl, hff⟩ := DataW.trod_struct hR hf
  have g0' := hff 0 f0 rfl
  have g1' := hff 1 f1 rfl
  rw [p0, s0, cInt] at g0'
  rw [p1, s1, cSl] at g1'
  match xs, hxl with
  | [y0, y1], _ =>
    have q0 : DataW.trod enc P w 0 (fun _ => true) true k tInt [k0] = some y0 := by simpa [Value.cells] using g0'
    have q1 : DataW.trod enc P w 0 (fun _ => true) true k tSl [v0] = some y1 := by simpa [Value.cells] using g1'
    obtain ⟨z, e0, _, wf⟩ := DataW.trod_int hInt q0
    simp at e0
    subst e0
    obtain ⟨L, h1, h2, h3, h4⟩ := open_list (S := Fd.S) hSl cEl Fd.Fit (open_field hEl o0 o1 t0 t1 cStr cInt hStr hInt) q1
    exact ⟨v0, z, L, rfl, wf, h1, h2, h4, h3⟩
end
end Rk
end Go.Proofs.Ytnhpcknbnmhlhaa
