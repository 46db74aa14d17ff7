/- The walk of the program's readEntries: the texts of the journal's records, and where the last one ends. A look into the map of files for the journal, without asking whether it is there: its bytes, or none. -/
import Derived.Test.YtojdfdlbdpdlkaaGreatDoorJoined25
import Derived.Test.YtojdfdlbdpdlkaaGreatDoorJoined1
import Derived.Maps.AppendAt
import Derived.Test.YtojdfdlbdpdlkaaGreatDoorFsOpen
import Derived.Test.YtojdfdlbdpdlkaaGreatDoorJoined22
namespace Go.Proofs.YtojdfdlbdpdlkaaGreatDoor
set_option linter.unusedSimpArgs false
open Go.RowKit Go.Shelf
attribute [local go_sem] Oper.semAt_some
set_option linter.unusedVariables false

theorem Jn.infoS : (Tryz.prog.info? 9).map (fun i => (i.zero, i.size, i.bytes)) = some (some (.string ByteArray.empty), 1, 16) := by kernel_rfl
theorem Jn.Kp.grown {db : Nat} {X Y : World} {r : Option Nat} (hg : X.grownBy Y r) (hr : ∀ g, r = some g → db ≠ g ∧ ∃ cs t fr, X.heap[g]? = some (.cells cs t fr) ∧ t ≠ 5) : Jn.Kp db X Y := by
  refine ⟨hg.size, fun b cs fr hb => (hg.block b (Array.getElem?_eq_some_iff.1 hb).1 (fun e => ?_)).trans hb, fun o ho => (hg.block db (Array.getElem?_eq_some_iff.1 ho).1 (fun e => ?_)).trans ho⟩
  · obtain ⟨_, cs', t, fr', h1, h2⟩ := hr b e.symm
    rw [h1] at hb
    cases hb
    exact h2 rfl
  · exact (hr db e.symm).1 rfl
theorem Sk.own_mono {w : World} {base base' : Nat} {e : TypeId} {v : Value} {T : List ByteArray} (h : Sk.Own w base e v T) (hb : base' ≤ base) : Sk.Own w base' e v T := by
  obtain ⟨h1, h2⟩ := h
  refine ⟨h1, ?_⟩
  rcases h2 with h2 | ⟨g, cap, cur, hv, hg, h3⟩
  · exact .inl h2
  · exact .inr ⟨g, cap, cur, hv, Nat.le_trans hb hg, h3⟩
/-- the row of an owned list of texts -/
theorem Jn.row_of {W : World} {base k : Nat} {v : Value} {xs : List Value} (h : W.ownsRow base 9 1 v k xs) : ∀ g, v.ownBlock = some g → base ≤ g ∧ ∃ cs t fr, W.heap[g]? = some (.cells cs t fr) ∧ t ≠ 5 := by
  intro g hg
  rcases h.2 with ⟨rfl, _⟩ | ⟨g', cap, cur, rfl, hb, hgb, _⟩
  · simp [Value.ownBlock] at hg
  · obtain rfl : g' = g := by simpa [Value.ownBlock] using hg
    exact ⟨hb, _, _, _, hgb, by decide⟩

/-- behind 'texts = append(texts, ..)' and 'end = next': what lies where -/
theorem Jn.appended {W w1 : World} {n0 B : Nat} {v v' : Value} {e q : Int} {k m : Nat} {xs ys : List Value} {tmp : Obj} (hn : n0 = B + 3) (hB : n0 ≤ W.heap.size)
    (hv : Boxed W B 35 v) (hE : Boxed W (B + 1) 2 (.int .i64 e)) (hrow : W.ownsRow n0 9 1 v k xs) (hown : w1.ownsRow n0 9 1 v' m ys) (hg : (W.alloc tmp).grownBy w1 v.ownBlock) :
    Boxed w1 B 35 v ∧ Boxed (w1.setCell ⟨B, 0, none⟩ v') (B + 1) 2 (.int .i64 e) ∧
    Hid (KeepsOthers W ((w1.setCell ⟨B, 0, none⟩ v').setCell ⟨B + 1, 0, none⟩ (.int .i64 q)) ∧ Jn.Kp (B + 1 + 1) W ((w1.setCell ⟨B, 0, none⟩ v').setCell ⟨B + 1, 0, none⟩ (.int .i64 q)) ∧
      Boxed ((w1.setCell ⟨B, 0, none⟩ v').setCell ⟨B + 1, 0, none⟩ (.int .i64 q)) B 35 v' ∧ ((w1.setCell ⟨B, 0, none⟩ v').setCell ⟨B + 1, 0, none⟩ (.int .i64 q)).ownsRow n0 9 1 v' m ys ∧
      Boxed ((w1.setCell ⟨B, 0, none⟩ v').setCell ⟨B + 1, 0, none⟩ (.int .i64 q)) (B + 1) 2 (.int .i64 q) ∧ Below B W ((w1.setCell ⟨B, 0, none⟩ v').setCell ⟨B + 1, 0, none⟩ (.int .i64 q))) := by
  have hr := Jn.row_of hrow
  have hr1 := Jn.row_of hown
  have ra := Jn.row_of (hrow.alloc tmp)
  have hv1 : Boxed w1 B 35 v := (hv.alloc tmp).kept hg (fun e' => by have := (hr B e'.symm).1; omega)
  have hE1 : Boxed w1 (B + 1) 2 (.int .i64 e) := (hE.alloc tmp).kept hg (fun e' => by have := (hr (B + 1) e'.symm).1; omega)
  have hE2 := hE1.other (B' := B) (by omega) v'
  have hv2 := (hv1.set v')
  refine ⟨hv1, hE2, ?_, ?_, hv2.other (by omega) _, ?_, hE2.set _, ?_⟩
  · refine (((KeepsOthers.alloc W tmp).trans (KeepsOthers.of_grownBy hg fun j o ej hj => ?_)).trans (KeepsOthers.setCell _ _ _)).trans (KeepsOthers.setCell _ _ _)
    obtain ⟨_, cs, t, fr, h1, _⟩ := ra j ej
    rw [h1] at hj
    cases hj
    rfl
  · refine (((Jn.Kp.below ((Below.refl _ _).alloc (Nat.le_refl _) _)).trans (Jn.Kp.grown hg fun g eg => ?_)).trans (Jn.Kp.grown (grownBy_setCell' w1 B v') fun g eg => ?_)).trans (Jn.Kp.grown (grownBy_setCell' _ (B + 1) _) fun g eg => ?_)
    · obtain ⟨h0, h1⟩ := ra g eg
      exact ⟨by omega, h1⟩
    · cases eg
      exact ⟨by omega, _, _, _, hv1, by decide⟩
    · cases eg
      exact ⟨by omega, _, _, _, hE2, by decide⟩
  · refine (hown.kept (grownBy_setCell' w1 B v') ?_).kept (grownBy_setCell' _ (B + 1) _) ?_
    · rcases hv' : v'.ownBlock with _ | g
      · exact .inl rfl
      · exact .inr (fun e' => by have := (hr1 g hv').1; have h9 : g = B := Option.some.inj e'; omega)
    · rcases hv' : v'.ownBlock with _ | g
      · exact .inl rfl
      · exact .inr (fun e' => by have := (hr1 g hv').1; have h9 : g = B + 1 := Option.some.inj e'; omega)
  · exact ((((Below.refl B W).alloc (by omega) tmp).grown hg (by simp; omega) (fun j ej => by have := (hr j ej).1; omega)).setCell (p := ⟨B, 0, none⟩) (Nat.le_refl _) v').setCell (p := ⟨B + 1, 0, none⟩) (by simp) _

set_option maxRecDepth 100000 in
set_option maxHeartbeats 4000000 in
theorem readEntries_any (s : ByteArray) (hs : s.size ≤ 8000) (w : World) :
    Calls Tryz.prog 46 #[.string s] w fun e w' => (∃ v, e = .returned (.tuple #[v, .int .i64 (Jn.endOf (Jn.all s))]) ∧ Sk.Own w' w.heap.size 9 v ((Jn.all s).map (·.1))) ∧ Below w.heap.size w w' := by
  obtain ⟨i0, hi, hz0, hz1, hz2⟩ := info_parts Jn.infoS
  refine (callsIn_wide (n := 6)).1 ?_
  refine callsIn_of_wp_marks Tryz.func46 rfl trivial ?_ rfl
  simp only [Tryz.ntmps46, List.size_toArray, List.length_cons, List.length_nil, Nat.reduceAdd, Nat.reduceSub, Array.replicate_succ, Array.replicate_zero, List.push_toArray, List.append_toArray, List.nil_append, List.cons_append]
  gi_wp2
  refine ⟨trivial, (callsIn_wide.2 (entriesIn_any s _)).mono ?_⟩
  rintro e w' ⟨rfl, rfl⟩
  have bT := Boxed.new w 35 (.slice none 0 0)
  have bE := Boxed.new (w.alloc (.cells #[.slice none 0 0] 35)) 2 (.int .i64 0)
  have bD := Boxed.new ((w.alloc (.cells #[.slice none 0 0] 35)).alloc (.cells #[.int .i64 0] 2)) 9 (.string s)
  rw [World.size_alloc] at bE
  rw [World.size_alloc, World.size_alloc] at bD
  have hB0 : Below w.heap.size w (((w.alloc (.cells #[.slice none 0 0] 35)).alloc (.cells #[.int .i64 0] 2)).alloc (.cells #[.string s] 9)) := (((Below.refl _ w).alloc (Nat.le_refl _) _).alloc (by simp) _).alloc (by simp; omega) _
  obtain ⟨W0, hW0⟩ : ∃ Z, Z = ((w.alloc (.cells #[.slice none 0 0] 35)).alloc (.cells #[.int .i64 0] 2)).alloc (.cells #[.string s] 9) := ⟨_, rfl⟩
  have hsz : W0.heap.size = w.heap.size + 3 := by rw [hW0]; simp
  replace bT := (bT.alloc (.cells #[.int .i64 0] 2)).alloc (.cells #[.string s] 9)
  replace bE := bE.alloc (.cells #[.string s] 9)
  rw [← hW0] at bT bE bD hB0
  gi_wp2
  rw [← hW0]
  clear hW0
  refine Rf.range_gives rfl (by decide) (gf := 89) (lb := #[.pointer (some ⟨w.heap.size + 1 + 1, 0, none⟩)]) rfl trivial (enters_of Tryz.func89 (by kernel_rfl) rfl)
    (entries_gives s hs (w.heap.size + 1 + 1) W0 bD (6 - 1) (by decide)) Jn.Kp.trans (fun W l o o' hl h hc => Jn.Kp.put (n := W0.heap.size) (by omega) W l o o' hl h hc) (Below.refl _ _) (fun _ => rfl)
    (fun pre W => (∃ v, Boxed W w.heap.size 35 v ∧ W.ownsRow W0.heap.size 9 1 v pre.length (pre.map fun x => Value.string x.t) ∧ True) ∧ Boxed W (w.heap.size + 1) 2 (.int .i64 (Jn.endOf (pre.map Jn.Pc.ent))) ∧ Below w.heap.size W0 W)
    (OwnFrom.and (Own.from (holdsRow_own W0.heap.size w.heap.size 35 9 1 (fun pre : List Jn.Pc => pre.length) (fun pre : List Jn.Pc => pre.map fun x : Jn.Pc => Value.string x.t) (fun _ _ => True)) _)
      (OwnFrom.and (Own.from (boxed_own (w.heap.size + 1) 2 (fun pre : List Jn.Pc => .int .i64 (Jn.endOf (pre.map Jn.Pc.ent)))) _) (ownFrom_below (by omega) (by omega))))
    (fun x pre => Jn.There.own s _ x pre)
    ⟨⟨_, bT, World.ownsRow_nil _ _ _ _, trivial⟩, bE, Below.refl _ _⟩
    (fun x => { tmps := #[.string s, undef, .slice none 0 0, .int .i64 0, .pointer (some ⟨w.heap.size, 0, none⟩), .pointer (some ⟨w.heap.size + 1, 0, none⟩), .int .i64 x.q, .slice (some ⟨x.b, x.o, none⟩) x.t.size x.t.size, .string s, .func (.func 89) #[] #[.pointer (some ⟨w.heap.size + 1 + 1, 0, none⟩)], .int .i64 x.q, .slice (some ⟨x.b, x.o, none⟩) x.t.size x.t.size, undef, undef, undef, undef, undef, undef, undef, undef], defers := [] }) ?assign ?body ?done
  case assign =>
    rintro l ⟨q, b, o, t⟩ W K hK
    dsimp only [Jn.Pc.vals]
    gi_wp2
    exact hK
  case body =>
    rintro l pre ⟨q, b, o, t⟩ W ⟨⟨v, hv, hrow, _⟩, hE, hB⟩ ⟨hl, ht, hq0, hq1, cs, fr, hc, hbytes⟩
    dsimp only at hl ht hq0 hq1 hc hbytes
    have hvc := hv.cell
    have hconv : (convert 22 9 (.slice (some ⟨b, o, none⟩) t.size t.size)).run Tryz.prog W = .ok (.string t) W := by
      have := run_convert_bytes_arg (P := Tryz.prog) W 22 5 Tryz.underlying22 Tryz.underlying5 b o t.size t.size (nums t) (nums_length t) (fun i hi => by simp only [World.cell?, hc]; exact hbytes i hi) 9 Tryz.underlying9
      rwa [str_nums] at this
    have hsW : W0.heap.size ≤ W.heap.size := hB.size
    have hk : pre.length + 1 ≤ maxLen := by unfold maxLen; omega
    have hk2 : (pre.length + 1) * 16 ≤ 140737488355328 := by omega
    dsimp only
    gi_wp2_with (gi_at_builtin; refine wpListIn_append_own _ rfl _ _ 35 rfl W0.heap.size 9 i0 (.string ByteArray.empty) 1 16 Tryz.underlying35 hi hz0 hz1 hz2 rfl (by decide) _ _ _ rfl (hrow.alloc _) ⟨W.heap.size, 0, none⟩ 1 1 [.string t] rfl rfl (cell_one_new _ _ _) (by simp [Value.oneCell']) hk hk2 (by simp; omega) ?_; intro v' w1 hown' hgrow _; obtain ⟨g', cap', rfl⟩ := ownsRow_succ hown'; obtain ⟨hv1, hE2, HZ⟩ := Jn.appended (q := q) hsz hsW hv hE hrow hown' hgrow; have hc1 := hv1.cell; have hf1 := hv1.frozen; have hec2 := hE2.cell; have hef2 := hE2.frozen)
    obtain ⟨z1, z2, z3, z4, z5, z6⟩ := HZ.out
    rw [hsz] at z4
    exact ⟨z1.from _, z2, ⟨_, z3, z4⟩, by rw [Jn.endOf_snoc]; exact z5, hB.trans z6⟩
  case done =>
    rintro D xs W hD hxs ⟨⟨v, hv, hrow, _⟩, hE, hB⟩ hK
    have hvc := hv.cell
    have hec := hE.cell
    have hd : (Jn.all s).map (·.1) = xs.map (·.t) := by rw [← hxs, List.map_map]; rfl
    have ho : Sk.Own W W0.heap.size 9 v ((Jn.all s).map (·.1)) := by
      rw [hd]
      show W.ownsRow _ _ 1 v (xs.map (·.t)).length (Sk.tc (xs.map (·.t)))
      rw [List.length_map]
      unfold Sk.tc
      rw [List.map_map]
      exact hrow
    have HO := Fk.hide (ho.below (Below.drew (Below.refl _ W)))
    have HD : Hid (W.drew.heap[D]? = some (.deferred (some []))) := hK
    clear ho hd hrow
    gi_wp2
    gi_region
    all_goals
      gi_wp2
      refine ⟨by simp, .inl ⟨_, _, rfl, run_takeDeferred HD.out, ?_⟩⟩
      refine ⟨_, results_tmp2 rfl _ _ _, ⟨v, rfl, ?_⟩, ?_⟩
      · have h1 := ownsRow_putObj HO.out (.deferred none) HD.out rfl
        exact Sk.own_mono h1 (by omega)
      · refine (hB0.trans (hB.trans (Below.drew (Below.refl _ W)))).grown (grownBy_putObj' W.drew D (.deferred none)) ?_ (fun k e => by have h9 : D = k := Option.some.inj e; omega)
        have h1 := hB.size
        show w.heap.size ≤ W.heap.size
        omega
end Go.Proofs.YtojdfdlbdpdlkaaGreatDoor

namespace Go.Proofs.YtojdfdlbdpdlkaaGreatDoor
set_option linter.unusedSimpArgs false
open Go.RowKit Go.Maps
open Go.WideMaps (keyOf_string_mk)
set_option linter.unusedVariables false
namespace Jn
theorem look_dat {P : Program} (w : World) {ops : Array Oper} {rest : List Oper} {o : Oper} {a : Act} {Q : Exit → Act → World → Prop} (hg : o.guard = none) (m x : Operand) (t : TypeId) (hop : o.op = Op.lookup t m x false)
    (k e : TypeId) (K : Keyed P k) (ht : P.underlying t = some (.map k e)) (hz : (zeroValue e).run P w = .ok (.agg #[.string ByteArray.empty, .string ByteArray.empty, .int .i64 0]) w) (b n : Nat) (D : DataW Unit) (M : List Fk.Fl)
    (hm : a.eval m = .map (some b)) (hown : w.ownsMap P k Fk.rdFile b n D) (hM : Fk.Mp D M) (key : Value) (hx : a.eval x = key) (hkey : keyOf P k key = some (Fk.kl name))
    (hK : ∀ nm sy, wpList P ops Q rest (a.put o.dst (.agg #[.string nm, .string (dat M), .int .i64 sy])) w) :
    wpList P ops Q (o :: rest) a w := by
  refine wpList_plain hg fun K' hK' => ?_
  obtain ⟨v, ps, hrun, hv⟩ := hown.lookup K ht hz (Fk.rdFile_mk Fk.none_) hkey
  have hd : ∃ nm sy, v = .agg #[.string nm, .string (dat M), .int .i64 sy] := by
    unfold dat
    cases hf : Fk.get M name with
    | none => rw [hM.at_none hf] at hv; exact ⟨_, _, Fk.rdFile_inv hv⟩
    | some f => rw [hM.at_some hf] at hv; exact ⟨_, _, Fk.rdFile_inv hv⟩
  obtain ⟨nm, sy, rfl⟩ := hd
  unfold Oper.wp
  simp [execOp, hop, hm, hx, hrun, Result.andThen]
  exact hK' _ _ (hK nm sy)
end Jn
theorem Jn.field_data (a t : ByteArray) (c : Int) (W : World) : (Instr.field 75 (.agg #[.string a, .string t, .int .i64 c]) 1).run Tryz.prog W = .ok (.string t) W := by kernel_rfl
end Go.Proofs.YtojdfdlbdpdlkaaGreatDoor
