/- The walks of readText, of both GetText, and of the comparison of two answers with a text. The walk of the specification's look through the journal's records. -/
import Derived.Test.YtojdfdlbdpdlkaaGreatDoorJoined23
import Derived.Test.YtojdfdlbdpdlkaaGreatDoorJoined21
import Derived.Test.YtojdfdlbdpdlkaaGreatDoorJoined5
import Derived.BigRegion
import Derived.Test.YtojdfdlbdpdlkaaGreatDoorJoined22
import Derived.Test.YtojdfdlbdpdlkaaGreatDoorFsKit
import Derived.Test.YtojdfdlbdpdlkaaGreatDoorJoined1
import Derived.WalkKit
import Derived.WalkSpells
import Derived.WalkLawsBesides
import Derived.Laws.AppendOwn
namespace Go.Proofs.YtojdfdlbdpdlkaaGreatDoor
open Go.RowKit
set_option linter.unusedVariables false

/-- what readText hands back -/
def readTextRes (r : ByteArray × Int × Int) : Value := .tuple #[.string r.1, .int .i64 r.2.1, errv r.2.2]

set_option maxHeartbeats 2000000 in
theorem specGetText_any (s : ByteArray) (p : Int) (w : World) (hs : s.size ≤ maxLen) (h1 : p ≤ 9223372036854775807) :
    Calls Tryz.prog 66 #[.string s, .int .i64 p] w fun e w' => e = .returned (textOut (Dc.getText s p)) ∧ Below w.heap.size w w' := by
  have HB : Hid (∀ o, Below w.heap.size w (w.alloc o)) := fun o => ((Below.refl w.heap.size w).alloc (Nat.le_refl _) o)
  obtain ⟨⟨n, x, c⟩, hr⟩ : ∃ r, r = Dc.getNum s p := ⟨_, rfl⟩
  have HR : Hid ((n, x, c) = Dc.getNum s p) := hr
  by_cases hc : c = 0
  · subst hc
    have hb := Dc.get_bd s p n x hr.symm
    clear hr
    by_cases hn : n < 0 ∨ 8000 < n
    · have HE : Hid (Dc.getText s p = (ByteArray.empty, 0, 3)) := Dc.text_size HR.out.symm hn
      by_cases hn0 : n < 0
      all_goals
        go_enter Tryz.func66, Tryz.ntmps66
        go_wp2_with fail
        refine (specGetNum_any s p _ hs h1).mono ?_
        rintro e w1 ⟨rfl, hb1⟩
        rw [← HR.out, show numOut (n, x, 0) = .agg #[.int .i64 n, .int .i64 x, .int .i64 0] from rfl]
        have HB1 : Hid (Below w.heap.size w w1) := (HB.out _).trans (hb1.mono (by simp))
        have hs1 : w.heap.size < w1.heap.size := by have := hb1.size; simp at this; omega
        have hd0 : w1.cell? ⟨w.heap.size, 0, none⟩ = some (.string ByteArray.empty) := (hb1.cell (p := ⟨w.heap.size, 0, none⟩) (by simp)).trans (by simp; rfl)
        have hd1 : w1.cell? ⟨w.heap.size, 1, none⟩ = some (.int .i64 0) := (hb1.cell (p := ⟨w.heap.size, 1, none⟩) (by simp)).trans (by simp)
        have hd2 : w1.cell? ⟨w.heap.size, 2, none⟩ = some (.int .i64 0) := (hb1.cell (p := ⟨w.heap.size, 2, none⟩) (by simp)).trans (by simp)
        have hdz : ∀ o, w1.frozen? ⟨w.heap.size, o, none⟩ = false := fun o => (hb1.frozen (p := ⟨w.heap.size, o, none⟩) (by simp)).trans (by simp)
        clear hb1
        go_wp2
        refine bodyPost_ret (v := textOut (ByteArray.empty, 0, 3)) (by simp [results, Tryz.results66, go_sem, textOut, hd0, hd1, hd2, hs1] <;> rfl) rfl ⟨by rw [HE.out], ?_⟩
        exact (((HB1.out.setCell (Nat.le_refl _) _).setCell (Nat.le_refl _) _).setCell (Nat.le_refl _) _).alloc (by simp; omega) _
    · by_cases hsh : (s.size : Int) - n < x
      · have HE : Hid (Dc.getText s p = (ByteArray.empty, 0, 4)) := Dc.text_short HR.out.symm hn (by omega)
        go_enter Tryz.func66, Tryz.ntmps66
        go_wp2_with fail
        refine (specGetNum_any s p _ hs h1).mono ?_
        rintro e w1 ⟨rfl, hb1⟩
        rw [← HR.out, show numOut (n, x, 0) = .agg #[.int .i64 n, .int .i64 x, .int .i64 0] from rfl]
        have HB1 : Hid (Below w.heap.size w w1) := (HB.out _).trans (hb1.mono (by simp))
        have hs1 : w.heap.size < w1.heap.size := by have := hb1.size; simp at this; omega
        have hd0 : w1.cell? ⟨w.heap.size, 0, none⟩ = some (.string ByteArray.empty) := (hb1.cell (p := ⟨w.heap.size, 0, none⟩) (by simp)).trans (by simp; rfl)
        have hd1 : w1.cell? ⟨w.heap.size, 1, none⟩ = some (.int .i64 0) := (hb1.cell (p := ⟨w.heap.size, 1, none⟩) (by simp)).trans (by simp)
        have hd2 : w1.cell? ⟨w.heap.size, 2, none⟩ = some (.int .i64 0) := (hb1.cell (p := ⟨w.heap.size, 2, none⟩) (by simp)).trans (by simp)
        have hdz : ∀ o, w1.frozen? ⟨w.heap.size, o, none⟩ = false := fun o => (hb1.frozen (p := ⟨w.heap.size, o, none⟩) (by simp)).trans (by simp)
        clear hb1
        go_wp2
        refine bodyPost_ret (v := textOut (ByteArray.empty, 0, 4)) (by simp [results, Tryz.results66, go_sem, textOut, hd0, hd1, hd2, hs1] <;> rfl) rfl ⟨by rw [HE.out], ?_⟩
        exact (((HB1.out.setCell (Nat.le_refl _) _).setCell (Nat.le_refl _) _).setCell (Nat.le_refl _) _).alloc (by simp; omega) _
      · have HE : Hid (Dc.getText s p = (s.extract x.toNat (x + n).toNat, x + n, 0)) := Dc.text_ok HR.out.symm hn (by omega)
        go_enter Tryz.func66, Tryz.ntmps66
        go_wp2_with fail
        refine (specGetNum_any s p _ hs h1).mono ?_
        rintro e w1 ⟨rfl, hb1⟩
        rw [← HR.out, show numOut (n, x, 0) = .agg #[.int .i64 n, .int .i64 x, .int .i64 0] from rfl]
        have HB1 : Hid (Below w.heap.size w w1) := (HB.out _).trans (hb1.mono (by simp))
        have hs1 : w.heap.size < w1.heap.size := by have := hb1.size; simp at this; omega
        have hd0 : w1.cell? ⟨w.heap.size, 0, none⟩ = some (.string ByteArray.empty) := (hb1.cell (p := ⟨w.heap.size, 0, none⟩) (by simp)).trans (by simp; rfl)
        have hd1 : w1.cell? ⟨w.heap.size, 1, none⟩ = some (.int .i64 0) := (hb1.cell (p := ⟨w.heap.size, 1, none⟩) (by simp)).trans (by simp)
        have hd2 : w1.cell? ⟨w.heap.size, 2, none⟩ = some (.int .i64 0) := (hb1.cell (p := ⟨w.heap.size, 2, none⟩) (by simp)).trans (by simp)
        have hdz : ∀ o, w1.frozen? ⟨w.heap.size, o, none⟩ = false := fun o => (hb1.frozen (p := ⟨w.heap.size, o, none⟩) (by simp)).trans (by simp)
        clear hb1
        go_wp2
        obtain ⟨W, hW⟩ : ∃ W, W = w1.alloc (.cells #[.int .i64 n, .int .i64 x, .int .i64 0] 119) := ⟨_, rfl⟩
        rw [← hW]
        have hn0 : W.cell? ⟨w1.heap.size, 0, none⟩ = some (.int .i64 n) := by rw [hW]; simp
        have hn1 : W.cell? ⟨w1.heap.size, 1, none⟩ = some (.int .i64 x) := by rw [hW]; simp
        have HBW : Hid (Below w.heap.size w W) := by rw [hW]; exact HB1.out.alloc (by omega) _
        have hq0 : W.cell? ⟨w.heap.size, 0, none⟩ = some (.string ByteArray.empty) := by rw [hW, World.cell?_alloc_lt _ _ _ hs1]; exact hd0
        have hq1 : W.cell? ⟨w.heap.size, 1, none⟩ = some (.int .i64 0) := by rw [hW, World.cell?_alloc_lt _ _ _ hs1]; exact hd1
        have hq2 : W.cell? ⟨w.heap.size, 2, none⟩ = some (.int .i64 0) := by rw [hW, World.cell?_alloc_lt _ _ _ hs1]; exact hd2
        have hqz : ∀ o, W.frozen? ⟨w.heap.size, o, none⟩ = false := fun o => by rw [hW, World.frozen?_alloc_old _ _ _ (Nat.ne_of_lt hs1)]; exact hdz o
        clear hd0 hd1 hd2 hdz hW
        go_region
        go_wp2
        refine bodyPost_ret (v := textOut (s.extract x.toNat (x + n).toNat, x + n, 0)) (by simp [results, Tryz.results66, go_sem, textOut, hq0, hq1, hq2]) rfl ⟨by rw [HE.out], ?_⟩
        exact (((HBW.out.setCell (Nat.le_refl _) _).setCell (Nat.le_refl _) _).setCell (Nat.le_refl _) _).drew
  · have HE : Hid (Dc.getText s p = (ByteArray.empty, 0, c)) := Dc.text_code hr.symm hc
    have hcb : (c != 0) = true := by simpa using hc
    clear hr hc
    go_enter Tryz.func66, Tryz.ntmps66
    go_wp2_with fail
    refine (specGetNum_any s p _ hs h1).mono ?_
    rintro e w1 ⟨rfl, hb1⟩
    rw [← HR.out, show numOut (n, x, c) = .agg #[.int .i64 n, .int .i64 x, .int .i64 c] from rfl]
    have HB1 : Hid (Below w.heap.size w w1) := (HB.out _).trans (hb1.mono (by simp))
    have hs1 : w.heap.size < w1.heap.size := by have := hb1.size; simp at this; omega
    have hd0 : w1.cell? ⟨w.heap.size, 0, none⟩ = some (.string ByteArray.empty) := (hb1.cell (p := ⟨w.heap.size, 0, none⟩) (by simp)).trans (by simp; rfl)
    have hd1 : w1.cell? ⟨w.heap.size, 1, none⟩ = some (.int .i64 0) := (hb1.cell (p := ⟨w.heap.size, 1, none⟩) (by simp)).trans (by simp)
    have hd2 : w1.cell? ⟨w.heap.size, 2, none⟩ = some (.int .i64 0) := (hb1.cell (p := ⟨w.heap.size, 2, none⟩) (by simp)).trans (by simp)
    have hdz : ∀ o, w1.frozen? ⟨w.heap.size, o, none⟩ = false := fun o => (hb1.frozen (p := ⟨w.heap.size, o, none⟩) (by simp)).trans (by simp)
    clear hb1
    go_wp2
    refine bodyPost_ret (v := textOut (ByteArray.empty, 0, c)) (by simp [results, Tryz.results66, go_sem, textOut, hd0, hd1, hd2, hs1] <;> rfl) rfl ⟨by rw [HE.out], ?_⟩
    exact (((HB1.out.setCell (Nat.le_refl _) _).setCell (Nat.le_refl _) _).setCell (Nat.le_refl _) _).alloc (by simp; omega) _
end Go.Proofs.YtojdfdlbdpdlkaaGreatDoor

namespace Go.Proofs.YtojdfdlbdpdlkaaGreatDoor
open Go.RowKit Go.Maps
set_option linter.unusedVariables false
set_option linter.unusedSimpArgs false

theorem Jn.infoS2 : (Tryz.prog.info? 9).map (fun i => (i.zero, i.size, i.bytes)) = some (some (.string ByteArray.empty), 1, 16) := by kernel_rfl
/-- one text put behind an owned list: the text lies in a block of its own -/
theorem Jn.append_one {P : Program} (w : World) {ops : Array Oper} {rest : List Oper} {o : Oper} {a : Act} {Q : Exit → Act → World → Prop} (hgd : o.guard = none) (s x : Operand) (t : TypeId)
    (ho : o.op = .call { callee := .builtin .append, args := #[s, x], argTypes := #[t, t] })
    (base : Nat) (e : TypeId) (i : TypeInfo) (z : Value) (ht : P.underlying t = some (.slice e)) (hi : P.info? e = some i) (hz : i.zero = some z) (hsize : i.size = 1) (hby : i.bytes = 16) (hzs : z.cells.size = 1)
    (v : Value) (T : List ByteArray) (g : Nat) (y : ByteArray) (hs : a.eval s = v) (hx : a.eval x = .slice (some ⟨g, 0, none⟩) 1 1) (hT : Sk.Own w base e v T) (hy : w.cell? ⟨g, 0, none⟩ = some (.string y)) (hl : T.length ≤ 1048576) (hb : base ≤ w.heap.size)
    (h : ∀ v' w', Sk.Own w' base e v' (T ++ [y]) → w.grownBy w' v.ownBlock → wpList P ops Q rest (a.put o.dst v') w') : wpList P ops Q (o :: rest) a w := by
  refine wpList_append_own w hgd s x t ho base e i z 1 16 ht hi hz hsize hby hzs (by decide) v T.length (Sk.tc T) hs hT ⟨g, 0, none⟩ 1 1 [.string y] hx rfl ?_ (by simp [Value.oneCell']) (by unfold maxLen; omega) (by omega) hb ?_
  · intro j u hju
    cases j with
    | zero => simp at hju; subst hju; exact hy
    | succ j => simp at hju
  · intro v' w' h1 h2 _
    refine h v' w' ?_ h2
    show w'.ownsRow base e 1 v' (T ++ [y]).length (Sk.tc (T ++ [y]))
    have e : Sk.tc (T ++ [y]) = Sk.tc T ++ [.string y] := by simp [Sk.tc]
    rw [e, List.length_append]
    exact h1
theorem Jn.text_fit (s : ByteArray) (p : Int) (h : s.size ≤ 8000) : (Dc.getText s p).1.size ≤ 8000 := by
  unfold Dc.getText
  split
  · simp
  · split
    · simp
    · split
      · simp
      · simp only [ByteArray.size_extract]; omega
theorem unsealed_small (t : ByteArray) : (unsealed t).1.size ≤ t.size := by
  unfold unsealed
  split
  · simp
  · split
    · simp
    · split
      · simp only [ByteArray.size_extract]; omega
      · simp

set_option maxRecDepth 20000 in
set_option maxHeartbeats 4000000 in
theorem l10Read_any (s : ByteArray) (hs : s.size ≤ 8000) (w : World) :
    Calls Tryz.prog 41 #[.string s] w fun e w' => (∃ v, e = .returned (.tuple #[v, .int .i64 (Jn.endOf (Jn.all s))]) ∧ Sk.Own w' w.heap.size 9 v ((Jn.all s).map (·.1))) ∧ Below w.heap.size w w' := by
  obtain ⟨i0, hi, hz0, hz1, hz2⟩ := info_parts Jn.infoS2
  have hzs : (Value.string ByteArray.empty).cells.size = 1 := by kernel_rfl
  have o0 := Fk.hide (Sk.own_empty w 9 w.heap.size (Nat.le_refl _))
  have b0 : Hid (Below w.heap.size w (w.alloc (.cells #[] 9))) := (Below.refl _ _).alloc (Nat.le_refl _) _
  go_enter Tryz.func41, Tryz.ntmps41
  go_wp2_with fail
  go_loopw [4, 5] (fun o i wr => ∃ (pre : List (ByteArray × Int)) (m : Nat) (p : Int) (ua : Option Addr) (un uc : Nat), i = .int .i64 p ∧ o = .slice ua un uc ∧ 0 ≤ p ∧ p ≤ s.size ∧ Hid (Jn.all s = pre ++ Jn.ents s m p) ∧ Hid ((s.size : Int) - p < m) ∧ Hid ((pre.length : Int) ≤ p) ∧ Hid (Jn.endOf pre = p) ∧ Hid (Sk.Own wr w.heap.size 9 (.slice ua un uc) (pre.map (·.1))) ∧ Hid (Below w.heap.size w wr)) (fun _ i _ => ((s.size : Int) - intOf i).toNat)
  case atStart => exact ⟨[], s.size + 1, 0, _, _, _, rfl, rfl, by omega, by omega, rfl, by show _ < _; omega, by show _ ≤ _; simp, rfl, o0.out, b0.out⟩
  case round =>
    obtain ⟨pre, m, p, ua, un, uc, rfl, rfl, hp0, hp1, HA, HM, HL, HEnd, HO, HB⟩ := hrel
    go_wp2_with fail
    obtain ⟨⟨t, q, c⟩, hr⟩ : ∃ r, r = Dc.getText s p := ⟨_, rfl⟩
    have HR := Fk.hide hr
    have htf : t.size ≤ 8000 := by have := Jn.text_fit s p hs; rw [← hr] at this; exact this
    refine (specGetText_any s p _ (by unfold maxLen; omega) (by omega)).mono ?_
    rintro e w1 ⟨rfl, b1⟩
    rw [← hr, show textOut (t, q, c) = .agg #[.string t, .int .i64 q, .int .i64 c] from rfl]
    have HB1 := Fk.hide (HB.out.trans (b1.mono HB.out.size))
    have HO1 := Fk.hide (HO.out.below b1)
    have HLT : Hid (∀ j, Value.ownBlock (.slice ua un uc) = some j → j < w1.heap.size) := fun j hj => (World.ownsRow.lt HO1.out j hj).2
    clear b1 hr HB HO
    go_wp2_with fail
    have kX : Below w1.heap.size w1 (w1.alloc (.cells #[.string t, .int .i64 q, .int .i64 c] 71)) := (Below.refl _ _).alloc (Nat.le_refl _) _
    refine (specUnseal_any t _ (by unfold maxLen; omega)).mono ?_
    rintro e w2 ⟨rfl, b2⟩
    have HS2 : Hid (w1.heap.size < w2.heap.size) := by have := b2.size; simp at this; show _ < _; omega
    have HB2 := Fk.hide (HB1.out.trans ((kX.trans (b2.mono (by simp))).mono HB1.out.size))
    have HO2 := Fk.hide ((HO1.out.below kX).below b2)
    have x0 : w2.cell? ⟨w1.heap.size, 0, none⟩ = some (.string t) := (b2.cell (by simp)).trans (by rw [Fk.cellTop _ _ _ _ _ rfl]; rfl)
    have x1 : w2.cell? ⟨w1.heap.size, 1, none⟩ = some (.int .i64 q) := (b2.cell (by simp)).trans (by rw [Fk.cellTop _ _ _ _ _ rfl]; rfl)
    have x2 : w2.cell? ⟨w1.heap.size, 2, none⟩ = some (.int .i64 c) := (b2.cell (by simp)).trans (by rw [Fk.cellTop _ _ _ _ _ rfl]; rfl)
    clear b2 kX HO1 HB1
    obtain ⟨⟨y, z, d⟩, hu⟩ : ∃ r, r = unsealed t := ⟨_, rfl⟩
    have HU := Fk.hide hu
    rw [← hu]
    rw [show textOut ((y, z, d).1, 0, (y, z, d).2.2) = .agg #[.string y, .int .i64 0, .int .i64 d] from rfl]
    clear hu
    have hys : y.size ≤ 8000 := by have := unsealed_small t; rw [← HU.out] at this; exact Nat.le_trans this htf
    have kY : Hid (Below w2.heap.size w2 (w2.alloc (.cells #[.string y, .int .i64 0, .int .i64 d] 71))) := (Below.refl _ _).alloc (Nat.le_refl _) _
    have X0 : (w2.alloc (.cells #[.string y, .int .i64 0, .int .i64 d] 71)).cell? ⟨w1.heap.size, 1, none⟩ = some (.int .i64 q) := (Fk.cellOld _ _ _ _ HS2.out).trans x1
    have X1 : (w2.alloc (.cells #[.string y, .int .i64 0, .int .i64 d] 71)).cell? ⟨w1.heap.size, 2, none⟩ = some (.int .i64 c) := (Fk.cellOld _ _ _ _ HS2.out).trans x2
    rcases Decidable.em (¬ c = 0) with hc | hc
    · have HE : Hid (Jn.one s p = none) := by show _ = _; unfold Jn.one; rw [← HR.out]; dsimp only; rw [← HU.out]; rw [if_neg]; rintro ⟨h1, h2, h3⟩; dsimp only at h1 h2 h3; omega
      have HP : Hid (Jn.all s = pre) := by show _ = _; rw [HA.out, Jn.ents_end HE.out]; simp
      have HEA : Hid (Jn.endOf (Jn.all s) = p) := by show _ = _; rw [HP.out]; exact HEnd.out
      have HO3 : Hid (Sk.Own (w2.alloc (.cells #[.string y, .int .i64 0, .int .i64 d] 71)) w.heap.size 9 (.slice ua un uc) ((Jn.all s).map (·.1))) := by show Sk.Own _ _ _ _ _; rw [HP.out]; exact HO2.out.below kY.out
      clear x0 x1 x2
      go_wp2_with fail
      go_ret2
      exact ⟨⟨.slice ua un uc, by rw [HEA.out]; rfl, HO3.out⟩, HB2.out.trans (kY.out.mono HB2.out.size)⟩
    obtain rfl : c = 0 := Decidable.not_not.1 hc
    clear hc
    rcases Decidable.em (¬ d = 0) with hd | hd
    · have HE : Hid (Jn.one s p = none) := by show _ = _; unfold Jn.one; rw [← HR.out]; dsimp only; rw [← HU.out]; rw [if_neg]; rintro ⟨h1, h2, h3⟩; dsimp only at h1 h2 h3; omega
      have HP : Hid (Jn.all s = pre) := by show _ = _; rw [HA.out, Jn.ents_end HE.out]; simp
      have HEA : Hid (Jn.endOf (Jn.all s) = p) := by show _ = _; rw [HP.out]; exact HEnd.out
      have HO3 : Hid (Sk.Own (w2.alloc (.cells #[.string y, .int .i64 0, .int .i64 d] 71)) w.heap.size 9 (.slice ua un uc) ((Jn.all s).map (·.1))) := by show Sk.Own _ _ _ _ _; rw [HP.out]; exact HO2.out.below kY.out
      clear x0 x1 x2
      go_wp2_with fail
      go_ret2
      exact ⟨⟨.slice ua un uc, by rw [HEA.out]; rfl, HO3.out⟩, HB2.out.trans (kY.out.mono HB2.out.size)⟩
    obtain rfl : d = 0 := Decidable.not_not.1 hd
    clear hd
    rcases Decidable.em (¬ y.size ≤ 300) with h3 | h3
    · have h3i : (300 : Int) < (y.size : Int) := by omega
      have HE : Hid (Jn.one s p = none) := by show _ = _; unfold Jn.one; rw [← HR.out]; dsimp only; rw [← HU.out]; rw [if_neg]; rintro ⟨h1, h2, h3⟩; dsimp only at h1 h2 h3; omega
      have HP : Hid (Jn.all s = pre) := by show _ = _; rw [HA.out, Jn.ents_end HE.out]; simp
      have HEA : Hid (Jn.endOf (Jn.all s) = p) := by show _ = _; rw [HP.out]; exact HEnd.out
      have HO3 : Hid (Sk.Own (w2.alloc (.cells #[.string y, .int .i64 0, .int .i64 0] 71)) w.heap.size 9 (.slice ua un uc) ((Jn.all s).map (·.1))) := by show Sk.Own _ _ _ _ _; rw [HP.out]; exact HO2.out.below kY.out
      clear x0 x1 x2
      go_wp2_with fail
      go_ret2
      exact ⟨⟨.slice ua un uc, by rw [HEA.out]; rfl, HO3.out⟩, HB2.out.trans (kY.out.mono HB2.out.size)⟩
    replace h3 := Decidable.not_not.1 h3
    have h3i : ¬ (300 : Int) < (y.size : Int) := by omega
    have HE : Hid (Jn.one s p = some (y, q)) := by show _ = _; unfold Jn.one; rw [← HR.out]; dsimp only; rw [← HU.out]; rw [if_pos ⟨rfl, rfl, h3⟩]
    have hbd := Jn.one_bd HE.out
    obtain ⟨k, rfl⟩ : ∃ k, m = k + 1 := ⟨m - 1, by have := HM.out; omega⟩
    have HA2 : Hid (Jn.all s = (pre ++ [(y, q)]) ++ Jn.ents s k q) := by show _ = _; rw [HA.out, Jn.ents_step HE.out]; simp
    have Y0 : (w2.alloc (.cells #[.string y, .int .i64 0, .int .i64 0] 71)).cell? ⟨w2.heap.size, 0, none⟩ = some (.string y) := by rw [Fk.cellTop _ _ _ _ _ rfl]; rfl
    obtain ⟨Y, hY⟩ : ∃ Y, Y = w2.alloc (.cells #[.string y, .int .i64 0, .int .i64 0] 71) := ⟨_, rfl⟩
    have HYe := Fk.hide hY
    have X0Y := Fk.hide X0
    rw [← hY] at kY X0Y
    have HBY := Fk.hide (HB2.out.trans (kY.out.mono HB2.out.size))
    have HOY := Fk.hide (HO2.out.below kY.out)
    have HSY : Hid (w2.heap.size < Y.heap.size) := by show _ < _; rw [hY]; simp
    have hys1 : Y.heap.size = w2.heap.size + 1 := by rw [hY]; simp
    have Z0 : Hid ((Y.alloc (.cells #[.string y] 9)).cell? ⟨w2.heap.size + 1, 0, none⟩ = some (.string y)) := by show _ = _; rw [← hys1, Fk.cellTop _ _ _ _ _ rfl]; rfl
    clear hys1
    have kZ : Hid (Below Y.heap.size Y (Y.alloc (.cells #[.string y] 9))) := (Below.refl _ _).alloc (Nat.le_refl _) _
    have hlp : (pre.map (·.1)).length ≤ 1048576 := by have := HL.out; simp; omega
    have hbY : w.heap.size ≤ (Y.alloc (.cells #[.string y] 9)).heap.size := by have := HBY.out.size; simp; omega
    have HNX : Hid (some w1.heap.size ≠ Value.ownBlock (.slice ua un uc)) := fun e => by
      have h9 := HLT.out w1.heap.size e.symm
      omega
    have HX6 : Hid (∀ w6, (Y.alloc (.cells #[.string y] 9)).grownBy w6 (Value.ownBlock (.slice ua un uc)) → w6.cell? ⟨w1.heap.size, 1, none⟩ = some (.int .i64 q)) := fun w6 g => g.cell ((Fk.cellOld _ _ _ _ (by show w1.heap.size < _; have := HS2.out; have := HSY.out; omega)).trans X0Y.out) HNX.out
    have HB6 : Hid (∀ w6, (Y.alloc (.cells #[.string y] 9)).grownBy w6 (Value.ownBlock (.slice ua un uc)) → Below w.heap.size w w6) := fun w6 g => (HBY.out.trans (kZ.out.mono HBY.out.size)).grown g hbY (fun j hj => (World.ownsRow.lt HOY.out j hj).1)
    clear x0 x1 x2 HB2 HO2 HA hY X0Y
    go_wp2_with (at_builtin; go_loud (rw [← HYe.out]; refine Jn.append_one _ rfl _ _ 35 rfl w.heap.size 9 i0 _ Tryz.underlying35 hi hz0 hz1 hz2 hzs (.slice ua un uc) (pre.map (·.1)) (w2.heap.size + 1) y rfl rfl (HOY.out.below kZ.out) Z0.out hlp hbY ?_; intro v' w6 o6 g6; have HO6 := Fk.hide o6; have h61 := HX6.out w6 g6; have HBe := Fk.hide (HB6.out w6 g6); obtain ⟨va, vc, rfl⟩ := o6.slice; obtain ⟨vn, hvn⟩ : ∃ vn, vn = (pre.map (·.1) ++ [y]).length := ⟨_, rfl⟩; rw [← hvn] at HO6; rw [← hvn]; clear o6 g6 hvn))
    go_roundw
    case rel => exact ⟨pre ++ [(y, q)], k, q, va, vn, vc, rfl, rfl, by omega, by omega, HA2, by have := HM.out; show _ < _; push_cast at this; omega, by have := HL.out; show _ ≤ _; simp; omega, Jn.endOf_snoc _ _, by rw [List.map_append]; exact HO6, HBe⟩
    case measure => simp [intOf]; omega
end Go.Proofs.YtojdfdlbdpdlkaaGreatDoor
