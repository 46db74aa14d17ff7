/- Plain mathematics of the journal's records: which stand in a row of bytes one behind the other, and where the last of them ends. Plain mathematics: what is read of a journal, in files or without any. Plain mathematics of the journal: what is left when it is cleaned. The walks of FsRead, the program's and the specification's: both answer 'rdOf'. The journal's bytes as the specification reads them. -/
import Derived.Test.YtojdfdlbdpdlkaaGreatDoorJoined21
import Derived.Test.YtojdfdlbdpdlkaaGreatDoorUnsealWalks
import Derived.Test.YtojdfdlbdpdlkaaGreatDoorJoined13
import Derived.Test.YtojdfdlbdpdlkaaGreatDoorJoined12
import Derived.Test.YtojdfdlbdpdlkaaGreatDoorJoined8
import Derived.Test.YtojdfdlbdpdlkaaGreatDoorJoined5
namespace Go.Proofs.YtojdfdlbdpdlkaaGreatDoor
set_option linter.unusedSimpArgs false
namespace Jn
/-- the record at a place: its text, and the place behind it -/
def one (s : ByteArray) (p : Int) : Option (ByteArray × Int) :=
  if (Dc.getText s p).2.2 = 0 ∧ (unsealed (Dc.getText s p).1).2.2 = 0 ∧ (unsealed (Dc.getText s p).1).1.size ≤ 300 then some ((unsealed (Dc.getText s p).1).1, (Dc.getText s p).2.1) else none
def ents (s : ByteArray) : Nat → Int → List (ByteArray × Int)
  | 0, _ => []
  | k + 1, p => match one s p with
    | none => []
    | some x => x :: ents s k x.2
/-- all of them -/
def all (s : ByteArray) : List (ByteArray × Int) := ents s (s.size + 1) 0
/-- behind the last of them -/
def endOf (l : List (ByteArray × Int)) : Int := (l.getLast?.map (·.2)).getD 0
theorem endOf_nil : endOf [] = 0 := rfl
theorem endOf_snoc (l : List (ByteArray × Int)) (x : ByteArray × Int) : endOf (l ++ [x]) = x.2 := by simp [endOf]

theorem get_on {s : ByteArray} {p n x : Int} (h : Dc.getNum s p = (n, x, 0)) : p < x := by
  unfold Dc.getNum at h
  split at h
  · simp at h
  · split at h
    · simp at h
    · obtain ⟨⟨c, v, k⟩, hd⟩ : ∃ r, r = Dc.dec 10 0 0 (s.data.toList.drop p.toNat) := ⟨_, rfl⟩
      rw [← hd] at h
      split at h
      · rename_i h3
        have hc : c = 0 := h3
        subst hc
        have hb := Dc.dec_bd 10 0 0 _ v k rfl (by decide) hd.symm
        simp at h
        omega
      · rename_i h3
        exact absurd (by have := congrArg (fun r : Int × Int × Int => r.2.2) h; simpa using this) h3
theorem unsealed_ok {t : ByteArray} (h : (unsealed t).2.2 = 0) : 4 ≤ t.size ∧ t.size ≤ 8000 ∧ (unsealed t).1 = t.extract 0 (t.size - 4) ∧ (unsealed t).1.size = t.size - 4 := by
  unfold unsealed at h ⊢
  split
  · rename_i h1; rw [if_pos h1] at h; cases h
  · rename_i h1
    rw [if_neg h1] at h
    split
    · rename_i h2; rw [if_pos h2] at h; cases h
    · rename_i h2
      rw [if_neg h2] at h
      split
      · exact ⟨by omega, by omega, rfl, by simp [ByteArray.size_extract]⟩
      · rename_i h3; rw [if_neg h3] at h; cases h
theorem one_no_num {s : ByteArray} {p n x c : Int} (h : Dc.getNum s p = (n, x, c)) (hc : c ≠ 0) : one s p = none := by
  unfold one
  rw [if_neg]
  rintro ⟨h1, _⟩
  rw [Dc.text_code h hc] at h1
  exact hc h1
theorem one_no_size {s : ByteArray} {p n x : Int} (h : Dc.getNum s p = (n, x, 0)) (hn : n < 0 ∨ 304 < n ∨ (s.size : Int) - x < n) : one s p = none := by
  unfold one
  rw [if_neg]
  rintro ⟨h1, h2, h3⟩
  by_cases h8 : n < 0 ∨ 8000 < n
  · rw [Dc.text_size h h8] at h1; cases h1
  · by_cases hs : (s.size : Int) - x < n
    · rw [Dc.text_short h h8 hs] at h1; cases h1
    · have hb := Dc.get_bd s p n x h
      rw [Dc.text_ok h h8 hs] at h2 h3
      have h4 := unsealed_ok h2
      simp only at h4 h3
      have hsz : (s.extract x.toNat (x + n).toNat).size = n.toNat := by rw [ByteArray.size_extract]; omega
      rw [hsz] at h4
      omega
theorem one_no_seal {s t : ByteArray} {p n x : Int} (h : Dc.getNum s p = (n, x, 0)) (hn : ¬ (n < 0 ∨ 304 < n ∨ (s.size : Int) - x < n)) (ht : t = s.extract x.toNat (x + n).toNat) (hu : (unsealed t).2.2 ≠ 0) : one s p = none := by
  unfold one
  rw [if_neg]
  rintro ⟨h1, h2, h3⟩
  rw [Dc.text_ok h (by omega) (by omega)] at h2
  rw [ht] at hu
  exact hu h2
theorem one_yes {s t : ByteArray} {p n x : Int} (h : Dc.getNum s p = (n, x, 0)) (hn : ¬ (n < 0 ∨ 304 < n ∨ (s.size : Int) - x < n)) (ht : t = s.extract x.toNat (x + n).toNat) (hu : (unsealed t).2.2 = 0) :
    4 ≤ n ∧ one s p = some (s.extract x.toNat (x + n - 4).toNat, x + n) := by
  have hb := Dc.get_bd s p n x h
  have hsz : t.size = n.toNat := by rw [ht, ByteArray.size_extract]; omega
  have h4 := unsealed_ok hu
  have hte : (unsealed t).1 = s.extract x.toNat (x + n - 4).toNat := by
    rw [h4.2.2.1, hsz, ht, ByteArray.extract_extract]
    congr 1
    omega
  refine ⟨by omega, ?_⟩
  unfold one
  rw [Dc.text_ok h (by omega) (by omega)]
  rw [← ht, if_pos ⟨rfl, hu, by show (unsealed t).1.size ≤ 300; omega⟩, hte]
/-- where a record stands it lies in the bytes -/
theorem one_bd {s t : ByteArray} {p q : Int} (h : one s p = some (t, q)) : s.size ≤ 8000 ∧ 0 ≤ p ∧ p < q ∧ q ≤ s.size ∧ t.size ≤ 300 := by
  unfold one at h
  split at h
  · rename_i h1
    obtain ⟨⟨n, x, c⟩, hr⟩ : ∃ r, r = Dc.getNum s p := ⟨_, rfl⟩
    by_cases hc : c = 0
    · subst hc
      have hb := Dc.get_bd s p n x hr.symm
      have ho := get_on hr.symm
      by_cases h8 : n < 0 ∨ 8000 < n
      · rw [Dc.text_size hr.symm h8] at h1; exact absurd h1.1 (by decide)
      · by_cases hs : (s.size : Int) - x < n
        · rw [Dc.text_short hr.symm h8 hs] at h1; exact absurd h1.1 (by decide)
        · rw [Dc.text_ok hr.symm h8 hs] at h1 h
          simp only [Option.some.injEq, Prod.mk.injEq] at h
          obtain ⟨rfl, rfl⟩ := h
          exact ⟨hb.1, hb.2.1, by omega, by omega, h1.2.2⟩
    · rw [Dc.text_code hr.symm hc] at h1
      exact absurd h1.1 hc
  · cases h
theorem ents_end {s : ByteArray} {p : Int} (h : one s p = none) : ∀ k, ents s k p = []
  | 0 => rfl
  | k + 1 => by rw [ents, h]
theorem ents_step {s : ByteArray} {p : Int} {x : ByteArray × Int} {k : Nat} (h : one s p = some x) : ents s (k + 1) p = x :: ents s k x.2 := by rw [ents, h]
theorem ents_bd {s : ByteArray} : ∀ (k : Nat) (p : Int), ∀ x ∈ ents s k p, x.1.size ≤ 300 ∧ x.2 ≤ s.size ∧ 0 ≤ x.2
  | 0, _, x, hx => by simp [ents] at hx
  | k + 1, p, x, hx => by
    cases h : one s p with
    | none => rw [ents, h] at hx; simp at hx
    | some y =>
      rw [ents_step h] at hx
      have hb := one_bd (t := y.1) (q := y.2) h
      rcases List.mem_cons.1 hx with rfl | hx
      · omega
      · exact ents_bd k y.2 x hx
theorem ents_len {s : ByteArray} : ∀ (k : Nat) (p : Int), (ents s k p).length ≤ k
  | 0, _ => by simp [ents]
  | k + 1, p => by
    cases h : one s p with
    | none => rw [ents, h]; simp
    | some y => rw [ents_step h]; have := ents_len (s := s) k y.2; simp; omega
end Jn
end Go.Proofs.YtojdfdlbdpdlkaaGreatDoor

namespace Go.Proofs.YtojdfdlbdpdlkaaGreatDoor
set_option linter.unusedSimpArgs false
namespace Jn
/-- the journal's bytes -/
def dat (L : List Fk.Fl) : ByteArray := match Fk.get L name with
  | none => ByteArray.empty
  | some f => f.2.1
def rdT (L : List Fk.Fl) : List ByteArray := if Fk.right L = true then (all (dat L)).map (·.1) else []
def rdA (L : List Fk.Fl) : Int := if Fk.right L = true then endOf (all (dat L)) else 0
def rdC (L : List Fk.Fl) : Int := if Fk.right L = true then 0 else 1
theorem dat_fit {L : List Fk.Fl} (h : Fk.right L = true) : (dat L).size ≤ 3000 := by
  unfold dat
  cases hg : Fk.get L name with
  | none => simp
  | some f => exact (Fk.right_fit h f (Fk.get_some hg).1).2
theorem rd_ill {L : List Fk.Fl} (h : Fk.right L = false) : rdT L = [] ∧ rdA L = 0 ∧ rdC L = 1 := by
  unfold rdT rdA rdC; simp [h]
theorem rd_ok {L : List Fk.Fl} (h : Fk.right L = true) : rdT L = (all (dat L)).map (·.1) ∧ rdA L = endOf (all (dat L)) ∧ rdC L = 0 := by
  unfold rdT rdA rdC; simp [h]
theorem rdT_len (L : List Fk.Fl) : (rdT L).length ≤ 1048576 := by
  unfold rdT
  split
  · rename_i h
    have h1 := dat_fit h
    have h2 := ents_len (s := dat L) ((dat L).size + 1) 0
    rw [List.length_map]
    show (ents (dat L) ((dat L).size + 1) 0).length ≤ _
    omega
  · simp
end Jn
end Go.Proofs.YtojdfdlbdpdlkaaGreatDoor

namespace Go.Proofs.YtojdfdlbdpdlkaaGreatDoor
set_option linter.unusedSimpArgs false
namespace Jn
theorem ends_bd (s : ByteArray) : 0 ≤ endOf (all s) ∧ endOf (all s) ≤ s.size := by
  unfold endOf
  cases h : (all s).getLast? with
  | none => simp
  | some x =>
    have hb := ents_bd (s := s) (s.size + 1) 0 x (List.mem_of_getLast? h)
    simp
    omega
/-- the journal's bytes up to the end of the last record -/
def kept (s : ByteArray) : ByteArray := s.extract 0 (endOf (all s)).toNat
def resClean (L : List Fk.Fl) : Int ⊕ List Fk.Fl :=
  match Fk.get L name with
  | none => .inr L
  | some f => .inr (Fk.without L name ++ [(name, kept f.2.1, ((kept f.2.1).size : Int))])
theorem clean_short (L : List Fk.Fl) : Fk.opn L [] = 0 → ∀ M, resClean L = .inr M → M.length ≤ 1000 := by
  intro h M hM
  have h12 := (Fk.right_inv L (Fk.opn_right L [] h)).1
  have hw := Fk.without_len L name
  unfold resClean at hM
  split at hM
  · obtain rfl := Sum.inr.inj hM; omega
  · obtain rfl := Sum.inr.inj hM
    simp; omega
theorem clean_same {L : List Fk.Fl} (hr : Fk.right L = true) (hf : Fk.get L name = none) : Fk.Ans (Fk.opn L []) (resClean L) L 0 :=
  .inr (.inr ⟨opn_yes hr, .inr ⟨L, by simp only [resClean, hf], rfl, Fk.right_rises L hr, fun _ => Iff.rfl⟩⟩)
theorem dat_some {L : List Fk.Fl} {f : Fk.Fl} (h : Fk.get L name = some f) : dat L = f.2.1 := by unfold dat; rw [h]
/-- what is cut off is cut off a file that is there -/
theorem cut_some {L : List Fk.Fl} {f : Fk.Fl} (h : Fk.get L name = some f) : Fk.resCut L name (endOf (all (dat L))) = .inr (Fk.without L name ++ [(name, kept f.2.1, min f.2.2 (endOf (all f.2.1)))]) := by
  have hb := ends_bd f.2.1
  have hn := (Fk.get_some h).2
  rw [dat_some h]
  simp only [Fk.resCut, h]
  rw [if_pos (by omega)]
  simp only [Fk.cutTo, kept, hn]
theorem clean_sync {L R R' : List Fk.Fl} {f : Fk.Fl} {c c' : Int} (hr : Fk.right L = true) (hf : Fk.get L name = some f) (h : Fk.Ans (Fk.opn L [name]) (Fk.resCut L name (endOf (all (dat L)))) R c) (h' : Fk.Ans (Fk.opn R [name]) (Fk.resSync R name) R' c') :
    Fk.Ans (Fk.opn L []) (resClean L) R' c' := by
  rw [cut_some hf, opn_name, opn_yes hr] at h
  rcases h with ⟨h0, _⟩ | ⟨h0, _⟩ | ⟨_, ⟨k, hk, _, _⟩ | ⟨M, hM, hc, h1, h2⟩⟩
  · cases h0
  · cases h0
  · cases hk
  · obtain rfl := Sum.inr.inj hM
    have hR : Fk.right R = true := by
      have h3 := Fk.cut_right (L := L) (R := R) (name := name) (sz := endOf (all (dat L))) (c := c) (by
        rw [cut_some hf, opn_name, opn_yes hr]; exact .inr (.inr ⟨rfl, .inr ⟨_, rfl, hc, h1, h2⟩⟩))
      exact h3.1 hc
    rw [opn_name, opn_yes hR] at h'
    obtain ⟨N, hN, hmN⟩ := sync_one R h2
    rcases h' with ⟨h0, _⟩ | ⟨h0, _⟩ | ⟨_, ⟨k, hk, _, _⟩ | ⟨X, hX, hc', g1, g2⟩⟩
    · cases h0
    · cases h0
    · rw [hN] at hk; cases hk
    · rw [hN] at hX
      obtain rfl := Sum.inr.inj hX
      exact .inr (.inr ⟨opn_yes hr, .inr ⟨_, by simp only [resClean, hf], hc', g1, fun g => (g2 g).trans (hmN g)⟩⟩)
end Jn
end Go.Proofs.YtojdfdlbdpdlkaaGreatDoor

namespace Go.Proofs.YtojdfdlbdpdlkaaGreatDoor
open Go.RowKit
set_option linter.unusedVariables false
/-- what is read of a name -/
def Fk.rdOf (L : List Fk.Fl) (name : ByteArray) : ByteArray × Int × Int :=
  if Fk.opn L [name] = 1 then (ByteArray.empty, 0, 2) else if Fk.opn L [name] = 2 then (ByteArray.empty, 0, 1) else
    match Fk.get L name with
    | some f => (f.2.1, 0, 0)
    | none => (ByteArray.empty, 0, 6)
theorem Fk.opn_le (L : List Fk.Fl) (T : List ByteArray) : Fk.opn L T = 0 ∨ Fk.opn L T = 1 ∨ Fk.opn L T = 2 := by
  unfold Fk.opn
  split
  · exact .inr (.inl rfl)
  · split
    · exact .inr (.inr rfl)
    · split
      · exact .inr (.inr rfl)
      · exact .inl rfl

set_option maxHeartbeats 2000000 in
theorem fsRead_spec (v : Value) (L : List Fk.Fl) (name : ByteArray) (w : World) (hv : Fk.View w v L) (hL : Fk.Fits L) (hl : L.length ≤ maxLen) (hn : name.size ≤ maxLen) :
    Calls Tryz.prog 42 #[.agg #[v], .string name] w fun e w' => e = .returned (textOut (Fk.rdOf L name)) ∧ Below w.heap.size w w' := by
  obtain ⟨W, hW⟩ : ∃ W, W = (w.alloc (.cells #[v] 25)).alloc (.cells #[.string { data := #[] }, .int .i64 0, .int .i64 0] 71) := ⟨_, rfl⟩
  have b0 : Below w.heap.size w W := by
    rw [hW]
    repeat (first | exact Below.refl _ _ | refine Below.alloc ?_ (by simp <;> omega) _)
  have hsz : W.heap.size = w.heap.size + 2 := by rw [hW]; simp
  have hcell : W.cell? ⟨w.heap.size, 0, none⟩ = some v := by rw [hW, Fk.cellOld _ _ _ _ (by simp), Fk.cellTop _ _ _ _ _ rfl]; rfl
  have q0 : W.cell? ⟨w.heap.size + 1, 0, none⟩ = some (.string { data := #[] }) := by rw [hW, Fk.cellTop _ _ _ _ _ (by simp)]; rfl
  have q1 : W.cell? ⟨w.heap.size + 1, 1, none⟩ = some (.int .i64 0) := by rw [hW, Fk.cellTop _ _ _ _ _ (by simp)]; rfl
  have q2 : W.cell? ⟨w.heap.size + 1, 2, none⟩ = some (.int .i64 0) := by rw [hW, Fk.cellTop _ _ _ _ _ (by simp)]; rfl
  have f0 : ∀ j, W.frozen? ⟨w.heap.size + 1, j, none⟩ = false := fun j => by rw [hW, Fk.frozTop _ _ _ _ _ (by simp)]
  have hv' := hv.below b0
  have HW := Fk.hide hW
  clear hW hv
  have hvW := hv'
  obtain ⟨a, cap, rfl, hs⟩ := hv'
  clear hs
  go_enter Tryz.func42, Tryz.ntmps42
  go_wp2_with fail
  rw [← HW.out]
  refine (l02Begin_any _ L name _ hvW hL hl hn).mono ?_
  rintro e w1 ⟨h1, b1⟩
  have B1 := Fk.hide (b0.trans (b1.mono b0.size))
  have hcell1 : w1.cell? ⟨w.heap.size, 0, none⟩ = some (.slice a L.length cap) := (b1.cell (by show w.heap.size < _; omega)).trans hcell
  have p0 : w1.cell? ⟨w.heap.size + 1, 0, none⟩ = some (.string { data := #[] }) := (b1.cell (by show w.heap.size + 1 < _; omega)).trans q0
  have p1 : w1.cell? ⟨w.heap.size + 1, 1, none⟩ = some (.int .i64 0) := (b1.cell (by show w.heap.size + 1 < _; omega)).trans q1
  have p2 : w1.cell? ⟨w.heap.size + 1, 2, none⟩ = some (.int .i64 0) := (b1.cell (by show w.heap.size + 1 < _; omega)).trans q2
  have pf : ∀ j, w1.frozen? ⟨w.heap.size + 1, j, none⟩ = false := fun j => (b1.frozen (by show w.heap.size + 1 < _; omega)).trans (f0 j)
  have hv1 := hvW.below b1
  clear b1 hcell q0 q1 q2 f0 hvW
  have HB3 : Hid (∀ x y z, Below w.heap.size w (((w1.setCell ⟨w.heap.size + 1, 0, none⟩ x).setCell ⟨w.heap.size + 1, 1, none⟩ y).setCell ⟨w.heap.size + 1, 2, none⟩ z)) := fun x y z => ((B1.out.setCell (by simp) _).setCell (by simp) _).setCell (by simp) _
  rcases h1 with ⟨h, rfl⟩ | ⟨h, rfl⟩ | ⟨h, hg, rfl⟩ | ⟨h, k, hk, hk1, hg, rfl⟩
  · have HR : Hid (Fk.rdOf L name = (ByteArray.empty, 0, 2)) := by show _ = _; simp [Fk.rdOf, h]
    clear h
    go_wp2_with fail
    refine bodyPost_ret (v := textOut (ByteArray.empty, 0, 2)) (by simp [results, Tryz.results42, go_sem, textOut, p0, p1, p2] <;> rfl) rfl ⟨by rw [HR.out], HB3.out _ _ _⟩
  · have HR : Hid (Fk.rdOf L name = (ByteArray.empty, 0, 1)) := by show _ = _; simp [Fk.rdOf, h]
    clear h
    go_wp2_with fail
    refine bodyPost_ret (v := textOut (ByteArray.empty, 0, 1)) (by simp [results, Tryz.results42, go_sem, textOut, p0, p1, p2] <;> rfl) rfl ⟨by rw [HR.out], HB3.out _ _ _⟩
  · have HR : Hid (Fk.rdOf L name = (ByteArray.empty, 0, 6)) := by show _ = _; simp [Fk.rdOf, h, hg]
    clear h hg
    go_wp2_with fail
    refine bodyPost_ret (v := textOut (ByteArray.empty, 0, 6)) (by simp [results, Tryz.results42, go_sem, textOut, p0, p1, p2] <;> rfl) rfl ⟨by rw [HR.out], HB3.out _ _ _⟩
  · have HR : Hid (Fk.rdOf L name = (Fk.dt L k, 0, 0)) := by show _ = _; simp [Fk.rdOf, h, hg]
    clear h hg
    obtain ⟨a', cap', ev, hs1⟩ := hv1
    simp only [Value.slice.injEq] at ev
    obtain ⟨rfl, _, rfl⟩ := ev
    obtain ⟨b, o, rfl, hb1, hs2⟩ := hs1 (by omega)
    have r1 := hs2.c1 k hk
    clear hs1
    go_wp2_with fail
    refine bodyPost_ret (v := textOut (Fk.dt L k, 0, 0)) (by simp [results, Tryz.results42, go_sem, textOut, p0, p1, p2] <;> rfl) rfl ⟨by rw [HR.out], HB3.out _ _ _⟩

end Go.Proofs.YtojdfdlbdpdlkaaGreatDoor

namespace Go.Proofs.YtojdfdlbdpdlkaaGreatDoor
set_option linter.unusedSimpArgs false
open Go.RowKit

theorem Jn.rdOf_text {L : List Fk.Fl} (h : Fk.right L = true) : (Fk.rdOf L Jn.name).1 = Jn.dat L := by
  unfold Fk.rdOf Jn.dat
  rw [Jn.opn_name, Jn.opn_yes h]
  cases Fk.get L Jn.name <;> simp

theorem Jn.field_text (t : ByteArray) (q c : Int) (W : World) : (Instr.field 71 (.agg #[.string t, .int .i64 q, .int .i64 c]) 0).run Tryz.prog W = .ok (.string t) W := by kernel_rfl
end Go.Proofs.YtojdfdlbdpdlkaaGreatDoor
