/- Lists of texts in memory, and the walks of the law's own functions on them: eq, mark, held. The walks of FsNames: the specification's and the program's. The walk of the law's comparison of two lists of texts. -/
import Derived.Test.YtlmbejldnfkfhaaDoorJoined9
import Derived.Test.YtlmbejldnfkfhaaDoorJoined8
import Derived.BigRegion
import Derived.Deep.RegionWith
import Derived.Lib.QuietBelow
import Derived.Test.YtlmbejldnfkfhaaDoorFsRightImpl
import Derived.Test.YtlmbejldnfkfhaaDoorFsRightSpec
import Derived.Test.YtlmbejldnfkfhaaDoorCopyWalks
namespace Go.Proofs.YtlmbejldnfkfhaaDoor
open Go.RowKit
set_option linter.unusedVariables false
set_option linter.unusedSimpArgs false
namespace Sk
/-- the marks from k on -/
def marks (k n : Nat) : List ByteArray := (List.range n).map fun i => Fk.mt (k + i)
theorem marks_length (k n : Nat) : (marks k n).length = n := by simp [marks]
theorem marks_at (k n i : Nat) (h : i < n) : at_ (marks k n) i = Fk.mt (k + i) := by simp [at_, marks, List.getD, h]
def part (k : Nat) (T : List ByteArray) (j : Nat) : List ByteArray := marks k j ++ T.drop j
theorem part_none (k : Nat) (T : List ByteArray) : part k T 0 = T := by simp [part, marks]
theorem part_all (k : Nat) (T : List ByteArray) : part k T T.length = marks k T.length := by simp [part]
theorem part_length (k : Nat) (T : List ByteArray) (j : Nat) (h : j ≤ T.length) : (part k T j).length = T.length := by simp [part, marks_length]; omega
theorem part_step (k : Nat) (T : List ByteArray) (j : Nat) (h : j < T.length) : (part k T j).set j (Fk.mt (k + j)) = part k T (j + 1) := by
  unfold part
  rw [List.set_append_right _ _ (by rw [marks_length]; exact Nat.le_refl _), marks_length, Nat.sub_self, List.drop_eq_getElem_cons h, List.set_cons_zero]
  simp [marks, List.range_succ]
end Sk


end Go.Proofs.YtlmbejldnfkfhaaDoor

namespace Go.Proofs.YtlmbejldnfkfhaaDoor
open Go.RowKit
set_option linter.unusedVariables false
set_option linter.unusedSimpArgs false
theorem infoStr : (Tryd.prog.info? 9).map (fun i => (i.zero, i.size, i.bytes)) = some (some (.string ByteArray.empty), 1, 16) := by kernel_rfl
namespace Fk
theorem right_fit1 {L : List Fl} (h : right L = true) : ∀ f ∈ L, f.1.size ≤ 20 ∧ f.2.1.size ≤ 3000 := by
  intro f hf
  obtain ⟨j, hj, e⟩ := List.getElem_of_mem hf
  have h2 := (right_inv L h).2 j hj
  simp only [step, Bool.and_eq_true] at h2
  have h3 := fok_inv h2.1
  have h4 : (nm L j) = f.1 ∧ dt L j = f.2.1 := by simp [nm, dt, List.getD, List.getElem?_eq_getElem hj, e]
  rw [h4.1, h4.2] at h3
  refine ⟨?_, h3.2.1⟩
  have := h3.1
  unfold Nm.nameB at this
  simp only [Bool.and_eq_true, decide_eq_true_eq] at this
  exact this.1.1.2
end Fk
namespace Sk
theorem Own.mono {w : World} {base base' : Nat} {e : TypeId} {v : Value} {T : List ByteArray} (h : Own w base e v T) (hb : base' ≤ base) : Own w base' e v T := by
  obtain ⟨hl, hn | ⟨g, cap, cur, hv, hbb, r⟩⟩ := h
  · exact ⟨hl, .inl hn⟩
  · exact ⟨hl, .inr ⟨g, cap, cur, hv, Nat.le_trans hb hbb, r⟩⟩
theorem own_empty_at (w : World) (e : TypeId) (base n : Nat) (hb : base ≤ w.heap.size) (hn : n = w.heap.size) : Own (w.alloc (.cells #[] e)) base e (.slice (some ⟨n, 0, none⟩) 0 0) [] := by
  subst hn; exact own_empty w e base hb
/-- the names of files, if they are right -/
def names (L : List Fk.Fl) : List ByteArray := if Fk.right L then L.map (·.1) else []
theorem names_len (L : List Fk.Fl) : (names L).length ≤ L.length := by unfold names; split <;> simp
theorem take_next (L : List Fk.Fl) (k : Nat) (h : k < L.length) : (L.map (·.1)).take k ++ [Fk.nm L k] = (L.map (·.1)).take (k + 1) := by
  rw [List.take_add_one]
  simp [Fk.nm, List.getD, h]
/-- one text put behind an owned list: the text lies in a block of its own -/
theorem wpList_append_one {P : Program} (w : World) {ops : Array Oper} {rest : List Oper} {o : Oper} {a : Act} {Q : Exit → Act → World → Prop} (hgd : o.guard = none) (s x : Operand) (t : TypeId)
    (ho : o.op = .call { callee := .builtin .append, args := #[s, x], argTypes := #[t, t] })
    (base : Nat) (e : TypeId) (i : TypeInfo) (z : Value) (ht : P.underlying t = some (.slice e)) (hi : P.info? e = some i) (hz : i.zero = some z) (hsize : i.size = 1) (hby : i.bytes = 16) (hzs : z.cells.size = 1)
    (v : Value) (T : List ByteArray) (g : Nat) (y : ByteArray) (hs : a.eval s = v) (hx : a.eval x = .slice (some ⟨g, 0, none⟩) 1 1) (hT : Own w base e v T) (hy : w.cell? ⟨g, 0, none⟩ = some (.string y)) (hl : T.length ≤ 1048576) (hb : base ≤ w.heap.size)
    (h : ∀ v' w', Own w' base e v' (T ++ [y]) → w.grownBy w' v.ownBlock → wpList P ops Q rest (a.put o.dst v') w') : wpList P ops Q (o :: rest) a w := by
  refine wpList_append_own w hgd s x t ho base e i z 1 16 ht hi hz hsize hby hzs (by decide) v T.length (tc T) hs hT ⟨g, 0, none⟩ 1 1 [.string y] hx rfl ?_ (by simp [Value.oneCell']) (by unfold maxLen; omega) (by omega) hb ?_
  · intro j u hju
    cases j with
    | zero => simp at hju; subst hju; exact hy
    | succ j => simp at hju
  · intro v' w' h1 h2 _
    refine h v' w' ?_ h2
    unfold Own
    have e : tc (T ++ [y]) = tc T ++ [.string y] := by simp [tc]
    rw [e, List.length_append]
    exact h1
end Sk

set_option maxRecDepth 20000 in
set_option maxHeartbeats 2000000 in
theorem fsNames_spec (v : Value) (L : List Fk.Fl) (w : World) (hv : Fk.View w v L) (hL : Fk.Fits L) (hl : L.length ≤ 1048576) :
    Calls Tryd.prog 23 #[.agg #[v]] w fun e w' => (∃ u, e = .returned u ∧ Sk.Own w' w.heap.size 9 u (Sk.names L)) ∧ Below w.heap.size w w' := by
  obtain ⟨i0, hi, hz0, hz1, hz2⟩ := info_parts infoStr
  have hzs : (Value.string ByteArray.empty).cells.size = 1 := by kernel_rfl
  obtain ⟨W, hW⟩ : ∃ W, W = w.alloc (.cells #[v] 25) := ⟨_, rfl⟩
  have b0 : Below w.heap.size w W := by rw [hW]; exact (Below.refl _ _).alloc (Nat.le_refl _) _
  have hcell : W.cell? ⟨w.heap.size, 0, none⟩ = some v := by rw [hW, Fk.cellTop _ _ _ _ _ rfl]; rfl
  have hsz : w.heap.size < W.heap.size := by rw [hW]; simp
  have hvW := hv.below b0
  have o1 := Fk.hide (Sk.own_empty_at W 9 W.heap.size (w.heap.size + 1) (Nat.le_refl _) (by rw [hW]; simp))
  have bW : Hid (Below W.heap.size W (W.alloc (.cells #[] 9))) := (Below.refl _ _).alloc (Nat.le_refl _) _
  have HW := Fk.hide hW
  clear hW hv
  have HV := Fk.hide hvW
  obtain ⟨a, cap, rfl, hs⟩ := hvW
  go_enter Tryd.func23, Tryd.ntmps23
  go_wp2_with fail
  rw [← HW.out]
  go_loopw [3, 4] (fun u i wr => ∃ k : Nat, k ≤ L.length ∧ i = .int .i64 k ∧ Hid (Sk.Own wr W.heap.size 9 u ((L.map (·.1)).take k)) ∧ Below W.heap.size W wr ∧ Hid (Fk.right L = false → k = 0)) (fun _ i _ => L.length - (intOf i).toNat)
  case atStart => exact ⟨0, Nat.zero_le _, rfl, o1.out, bW.out, fun _ => rfl⟩
  case round =>
    obtain ⟨k, hk, rfl, HO, bel, HZ⟩ := hrel
    obtain ⟨ua, uc, hu⟩ := HO.out.slice
    have c9 : wr.cell? ⟨w.heap.size, 0, none⟩ = some (.slice a L.length cap) := (bel.cell (by exact hsz)).trans hcell
    obtain ⟨un, hun⟩ : ∃ n, n = ((L.map (·.1)).take k).length := ⟨_, rfl⟩
    rw [← hun] at hu
    clear hun
    subst hu
    by_cases hlt : k < L.length
    · go_wp2_with fail
      refine (fsRight_spec _ L _ (HV.out.below bel) hL (by unfold maxLen; omega)).mono ?_
      rintro e w1 ⟨rfl, b1⟩
      have B1 : Below W.heap.size W w1 := bel.trans (b1.mono bel.size)
      have O1 := Fk.hide (HO.out.below b1)
      have c1 : w1.cell? ⟨w.heap.size, 0, none⟩ = some (.slice a L.length cap) := (B1.cell (by exact hsz)).trans hcell
      clear b1 HO c9
      cases hr : Fk.right L with
      | false =>
        have HR := Fk.hide hr
        clear hr
        go_wp2_with fail
        go_ret
        refine ⟨⟨_, rfl, ?_⟩, b0.trans (B1.mono b0.size)⟩
        have e0 := HZ.out HR.out
        have := O1.out
        rw [e0] at this
        unfold Sk.names
        rw [HR.out]
        exact Sk.Own.mono this (Nat.le_of_lt hsz)
      | true =>
        have HR := Fk.hide hr
        clear hr
        obtain ⟨b, o, rfl, hb, hs1⟩ := hs (by omega)
        have x0 := (hs1.below hb B1).c0 k hlt
        have hz1' := B1.size
        have NX : Hid (Sk.Own (w1.alloc (.cells #[.string (Fk.nm L k)] 9)) W.heap.size 9 (.slice ua un uc) ((L.map (·.1)).take k) ∧ Below W.heap.size W (w1.alloc (.cells #[.string (Fk.nm L k)] 9)) ∧ (w1.alloc (.cells #[.string (Fk.nm L k)] 9)).cell? ⟨w1.heap.size, 0, none⟩ = some (.string (Fk.nm L k)) ∧ W.heap.size ≤ (w1.alloc (.cells #[.string (Fk.nm L k)] 9)).heap.size ∧ ((L.map (·.1)).take k).length ≤ 1048576) :=
          ⟨O1.out.below ((Below.refl _ _).alloc (Nat.le_refl _) _), B1.alloc hz1' _, by rw [Fk.cellTop _ _ _ _ _ rfl]; rfl, by simp; omega, by simp; omega⟩
        go_wp2_with (at_builtin; refine Sk.wpList_append_one _ rfl (.tmp 17) (.tmp 24) 41 rfl W.heap.size 9 i0 _ Tryd.underlying41 hi hz0 hz1 hz2 hzs (.slice ua un uc) ((L.map (·.1)).take k) w1.heap.size (Fk.nm L k) rfl rfl NX.out.1 NX.out.2.2.1 NX.out.2.2.2.2 NX.out.2.2.2.1 ?_; intro u2 w2 o2 g2; have B2 := Fk.hide (NX.out.2.1.grown g2 NX.out.2.1.size (fun j hj => (World.ownsRow.lt NX.out.1 j hj).1)); clear g2)
        go_roundw
        case rel =>
          refine ⟨k + 1, by omega, by go_num, ?_, B2.out, fun h => ?_⟩
          · rw [← Sk.take_next L k hlt]
            exact o2
          · rw [HR.out] at h; cases h
        case measure => simp [intOf]; omega
    · have e : k = L.length := by omega
      subst e
      go_wp2_with fail
      go_ret
      refine ⟨⟨_, rfl, ?_⟩, b0.trans (bel.mono b0.size)⟩
      have := HO.out
      rw [List.take_of_length_le (by simp)] at this
      unfold Sk.names
      cases hr : Fk.right L with
      | true => exact Sk.Own.mono this (Nat.le_of_lt hsz)
      | false =>
        have e0 := HZ.out hr
        have e1 : L.map (·.1) = ([] : List ByteArray) := by rw [List.length_eq_zero_iff.1 e0]; rfl
        rw [e1] at this
        exact Sk.Own.mono this (Nat.le_of_lt hsz)

set_option maxRecDepth 20000 in
set_option maxHeartbeats 2000000 in
theorem fsNames_impl (v : Value) (L : List Fk.Fl) (w : World) (hv : Fk.View w v L) (hL : Fk.Fits L) (hl : L.length ≤ 1048576) :
    Calls Tryd.prog 22 #[.agg #[v]] w fun e w' => (∃ u, e = .returned u ∧ Sk.Own w' w.heap.size 9 u (Sk.names L)) ∧ Below w.heap.size w w' := by
  obtain ⟨i0, hi, hz0, hz1, hz2⟩ := info_parts infoStr
  have hzs : (Value.string ByteArray.empty).cells.size = 1 := by kernel_rfl
  obtain ⟨W, hW⟩ : ∃ W, W = w.alloc (.cells #[v] 25) := ⟨_, rfl⟩
  have b0 : Below w.heap.size w W := by rw [hW]; exact (Below.refl _ _).alloc (Nat.le_refl _) _
  have hcell : W.cell? ⟨w.heap.size, 0, none⟩ = some v := by rw [hW, Fk.cellTop _ _ _ _ _ rfl]; rfl
  have hsz : w.heap.size < W.heap.size := by rw [hW]; simp
  have hvW := hv.below b0
  have HW := Fk.hide hW
  clear hW hv
  have HV := Fk.hide hvW
  obtain ⟨a, cap, rfl, hs⟩ := hvW
  go_enter Tryd.func22, Tryd.ntmps22
  go_wp2_with fail
  rw [← HW.out]
  refine (fsRight_impl _ L _ HV.out hL (by unfold maxLen; omega)).mono ?_
  rintro e w0 ⟨rfl, bb0⟩
  have c0 : w0.cell? ⟨w.heap.size, 0, none⟩ = some (.slice a L.length cap) := (bb0.cell (by exact hsz)).trans hcell
  cases hr : Fk.right L with
  | false =>
    have HR := Fk.hide hr
    clear hr
    go_wp2_with fail
    go_ret
    refine ⟨⟨_, rfl, ?_⟩, b0.trans (bb0.mono b0.size)⟩
    unfold Sk.names
    rw [HR.out]
    exact Sk.own_nil _ _ _
  | true =>
    have hfit := Fk.right_fit1 hr
    have hsmall : ∀ k, (Fk.nm L k).size ≤ 1073741824 := fun k => by
      by_cases hk : k < L.length
      · have := (hfit L[k] (List.getElem_mem hk)).1
        have e : Fk.nm L k = L[k].1 := by simp [Fk.nm, List.getD, hk]
        rw [e]; omega
      · have e : Fk.nm L k = ByteArray.empty := by simp [Fk.nm, List.getD, hk, Fk.none_]
        rw [e]; decide
    have HS := Fk.hide hsmall
    have HR := Fk.hide hr
    clear hr hfit hsmall
    go_wp2_with fail
    go_loopw [3, 12] (fun u i wr => ∃ k : Nat, k ≤ L.length ∧ i = .int .i64 k ∧ Hid (Sk.Own wr W.heap.size 9 u ((L.map (·.1)).take k)) ∧ Below W.heap.size W wr) (fun _ i _ => L.length - (intOf i).toNat)
    case atStart => exact ⟨0, Nat.zero_le _, rfl, Sk.own_nil _ _ _, bb0⟩
    case round =>
      obtain ⟨k, hk, rfl, HO, bel⟩ := hrel
      obtain ⟨ua, uc, hu⟩ := HO.out.slice
      obtain ⟨un, hun⟩ : ∃ n, n = ((L.map (·.1)).take k).length := ⟨_, rfl⟩
      rw [← hun] at hu
      clear hun
      subst hu
      by_cases hlt : k < L.length
      · obtain ⟨b, o, rfl, hb, hs1⟩ := hs (by omega)
        have x0 := (hs1.below hb bel).c0 k hlt
        have x1 := (hs1.below hb bel).c1 k hlt
        have x2 := (hs1.below hb bel).c2 k hlt
        have bx : ∀ cs, Below W.heap.size W (wr.alloc (.cells cs 48)) := fun cs => bel.alloc bel.size _
        have ox : ∀ cs, Sk.Own (wr.alloc (.cells cs 48)) W.heap.size 9 (.slice ua un uc) ((L.map (·.1)).take k) := fun cs => HO.out.below ((Below.refl _ _).alloc (Nat.le_refl _) _)
        have BX := Fk.hide bx
        have OX := Fk.hide ox
        clear bx ox
        go_wp2_with fail
        refine (copyText_any _ _ (HS.out k)).mono ?_
        rintro e w1 ⟨rfl, b1⟩
        have B1 : Below W.heap.size W w1 := (BX.out _).trans (b1.mono (BX.out _).size)
        have O1 := Fk.hide ((OX.out _).below b1)
        have hz1' := B1.size
        have NX : Hid (Sk.Own (w1.alloc (.cells #[.string (Fk.nm L k)] 9)) W.heap.size 9 (.slice ua un uc) ((L.map (·.1)).take k) ∧ Below W.heap.size W (w1.alloc (.cells #[.string (Fk.nm L k)] 9)) ∧ (w1.alloc (.cells #[.string (Fk.nm L k)] 9)).cell? ⟨w1.heap.size, 0, none⟩ = some (.string (Fk.nm L k)) ∧ W.heap.size ≤ (w1.alloc (.cells #[.string (Fk.nm L k)] 9)).heap.size ∧ ((L.map (·.1)).take k).length ≤ 1048576) :=
          ⟨O1.out.below ((Below.refl _ _).alloc (Nat.le_refl _) _), B1.alloc hz1' _, by rw [Fk.cellTop _ _ _ _ _ rfl]; rfl, by simp; omega, by simp; omega⟩
        clear b1 x0 x1 x2
        go_wp2_with (at_builtin; refine Sk.wpList_append_one _ rfl (.tmp 16) (.tmp 20) 41 rfl W.heap.size 9 i0 _ Tryd.underlying41 hi hz0 hz1 hz2 hzs (.slice ua un uc) ((L.map (·.1)).take k) w1.heap.size (Fk.nm L k) rfl rfl NX.out.1 NX.out.2.2.1 NX.out.2.2.2.2 NX.out.2.2.2.1 ?_; intro u2 w2 o2 g2; have B2 := Fk.hide (NX.out.2.1.grown g2 NX.out.2.1.size (fun j hj => (World.ownsRow.lt NX.out.1 j hj).1)); clear g2)
        go_roundw
        case rel =>
          refine ⟨k + 1, by omega, by go_num, ?_, B2.out⟩
          rw [← Sk.take_next L k hlt]
          exact o2
        case measure => simp [intOf]; omega
      · have e : k = L.length := by omega
        subst e
        go_wp2_with fail
        go_ret
        refine ⟨⟨_, rfl, ?_⟩, b0.trans (bel.mono b0.size)⟩
        have := HO.out
        rw [List.take_of_length_le (by simp)] at this
        unfold Sk.names
        rw [HR.out]
        exact Sk.Own.mono this (Nat.le_of_lt hsz)
end Go.Proofs.YtlmbejldnfkfhaaDoor

namespace Go.Proofs.YtlmbejldnfkfhaaDoor
open Go.RowKit
set_option linter.unusedVariables false
set_option linter.unusedSimpArgs false

set_option maxHeartbeats 2000000 in
theorem lwTexts_same (v1 v2 : Value) (T : List ByteArray) (w : World) (h1 : Sk.View w v1 T) (h2 : Sk.View w v2 T) (hl : T.length ≤ 1048576) :
    Calls Tryd.prog 21 #[v1, v2] w fun e w' => e = .returned (.bool true) ∧ Below w.heap.size w w' := by
  obtain ⟨a, cap, rfl, hs⟩ := h1
  obtain ⟨a2, cap2, rfl, hs2⟩ := h2
  go_enter Tryd.func21, Tryd.ntmps21
  go_wp2_with fail
  go_loopw [5] (fun i wr => ∃ k : Nat, k ≤ T.length ∧ i = .int .i64 k ∧ Below w.heap.size w wr) (fun i _ => T.length - (intOf i).toNat)
  case atStart => exact ⟨0, Nat.zero_le _, rfl, Below.refl _ _⟩
  case round =>
    obtain ⟨k, hk, rfl, bel⟩ := hrel
    by_cases hlt : k < T.length
    · obtain ⟨b, rfl, hb, hs1⟩ := hs (by omega)
      obtain ⟨b2, rfl, hb2, hs3⟩ := hs2 (by omega)
      have q0 : wr.cell? ⟨b, k, none⟩ = some (.string (Sk.at_ T k)) := (bel.cell (by exact hb)).trans (hs1 k hlt)
      have p0 : wr.cell? ⟨b2, k, none⟩ = some (.string (Sk.at_ T k)) := (bel.cell (by exact hb2)).trans (hs3 k hlt)
      clear hs hs2 hs1 hs3
      have r0 := cell_regrown q0
      have r1 := cell_regrown p0
      go_wp2_with fail
      refine wp_region_quiet_below (by kernel_rfl) (by kernel_rfl) ?_
      repeat (go_big_quiet_step (fail))
      refine wpQuiet_nil ?_
      intro w4 hw'
      obtain ⟨⟨dq, osq⟩, hw''⟩ := hw'
      have b4 : Below w.heap.size w w4 := by rw [hw'']; exact bel.trans ((below_regrown wr dq osq).mono bel.size)
      clear hw'' r0 r1 q0 p0
      go_wp2_with fail
      go_roundw
      case rel => exact ⟨k + 1, by omega, by go_num, b4⟩
      case measure => simp [intOf]; omega
    · have e : k = T.length := by omega
      subst e
      go_wp2_with fail
      go_ret
      exact ⟨rfl, bel⟩
end Go.Proofs.YtlmbejldnfkfhaaDoor
