/- The walk of the iterator over the journal's records: all of them, one by one, their bytes in a row of its own. -/
import Derived.Test.YtfefafmcaepoiaaGreatDoorJournalIter
namespace Go.Proofs.YtfefafmcaepoiaaGreatDoor
set_option linter.unusedSimpArgs false
open Go.RowKit Go.Shelf
attribute [local go_sem] Oper.semAt_some
set_option linter.unusedVariables false

set_option maxRecDepth 100000 in
set_option maxHeartbeats 4000000 in
theorem entries_gives (s : ByteArray) (hs : s.size ≤ 8000) (db : Nat) (w0 : World) (hb : Boxed w0 db 9 (.string s)) (n : Nat) (hn : 3 ≤ n) :
    Rf.Gives Fence.wide n Tryz.prog 85 #[.pointer (some ⟨db, 0, none⟩)] Jn.Pc.vals (Jn.There s) (Jn.Kp db) (fun xs => xs.map Jn.Pc.ent = Jn.all s) w0 := by
  intro l J W hW hJ hY h0
  have hB : Boxed W db 9 (.string s) := (hW.block db hb.lt).trans hb
  have hcell := hB.cell
  have h1 : 1 ≤ n := by omega
  have h2 : 1 ≤ n - 1 := by omega
  have hconv := run_bytes_of_string (P := Tryz.prog) W 9 95 5 s Tryz.underlying9 Tryz.underlying95 Tryz.underlying5
  have hcap := grownCap_ge W s.size 0 5
  obtain ⟨cap, hcap'⟩ : ∃ c, c = grownCap W s.size 0 5 := ⟨_, rfl⟩
  rw [← hcap'] at hconv hcap
  clear hcap'
  obtain ⟨fr, hfr⟩ : ∃ fr, fr = ((bytesRow s cap).size, (bytesRow s cap).size + 1) := ⟨_, rfl⟩
  rw [← hfr] at hconv
  obtain ⟨X, hX⟩ : ∃ X, X = W.drew.alloc (.cells (bytesRow s cap) 5 fr) := ⟨_, rfl⟩
  rw [← hX] at hconv
  have kX : Below W.heap.size W X := by rw [hX]; exact (Below.drew (Below.refl _ _)).alloc (Nat.le_refl _) _
  have rX : X.heap[W.heap.size]? = some (.cells (bytesRow s cap) 5 fr) := by rw [hX]; exact World.alloc_heap_new W.drew _
  have bX : Boxed X db 9 (.string s) := (kX.block db hB.lt).trans hB
  have HJX : Hid (J [] X) := hJ _ _ _ h0 (Fk.grownBy_below none kX)
  have HY := Fk.hide hY
  have HJ := Fk.hide hJ
  have HRX := Fk.hide rX
  have HBX := Fk.hide bX
  clear hX kX rX bX hfr hY hJ h0 hb hB hW
  show CallsIn Fence.wide n Tryz.prog _ #[.func (.yield l) #[] #[], .pointer (some ⟨db, 0, none⟩)] W _
  refine callsIn_of_wp Tryz.func85 rfl trivial ?_ rfl
  simp only [Tryz.ntmps85, List.size_toArray, List.length_cons, List.length_nil, Nat.reduceAdd, Nat.reduceSub, Array.replicate_succ, Array.replicate_zero, List.push_toArray, List.append_toArray, List.nil_append, List.cons_append]
  gi_wp2
  gi_loopw [4] (fun i wr => ∃ (pre : List Jn.Pc) (m : Nat) (p : Int), i = .int .i64 p ∧ 0 ≤ p ∧ p ≤ s.size ∧ Hid (Jn.all s = pre.map Jn.Pc.ent ++ Jn.ents s m p) ∧ Hid ((s.size : Int) - p < m) ∧ Hid ((pre.length : Int) ≤ p) ∧ Hid (J pre wr) ∧ Hid (wr.heap[W.heap.size]? = some (.cells (bytesRow s cap) 5 fr)) ∧ Hid (Boxed wr db 9 (.string s))) (fun i _ => ((s.size : Int) - intOf i).toNat)
  case atStart => exact ⟨[], s.size + 1, 0, rfl, by omega, by omega, rfl, by show _ < _; omega, by show _ ≤ _; simp, HJX.out, HRX.out, HBX.out⟩
  case round =>
    obtain ⟨pre, m, p, rfl, hp0, hp1, HA, HM, HL, HP, HR, HBW⟩ := hrel
    have hcw := HBW.out.cell
    gi_wp2
    refine ⟨trivial, (callsIn_wide.2 (findEntry_any s p _ (by unfold maxLen; omega) (by omega))).mono ?_⟩
    rintro e w2 ⟨h2, b2⟩
    have HP2 : Hid (J pre w2) := HJ.out _ _ _ HP.out (Fk.grownBy_below none b2)
    have HR2 : Hid (w2.heap[W.heap.size]? = some (.cells (bytesRow s cap) 5 fr)) := (b2.block _ (Array.getElem?_eq_some_iff.1 HR.out).1).trans HR.out
    have HB2 : Hid (Boxed w2 db 9 (.string s)) := (b2.block db HBW.out.lt).trans HBW.out
    clear b2 HP HR HBW hcw
    rcases h2 with ⟨h2, x, q, rfl⟩ | ⟨x, q, h2, hx0, hxq, hqs, hpq, rfl⟩
    · have HE : Hid (pre.map Jn.Pc.ent = Jn.all s) := by show _ = _; rw [HA.out, Jn.ents_end h2]; simp
      clear h2 HA
      gi_wp2
      refine bodyPost_ret (results_none rfl _ _ _) rfl ?_
      exact ⟨⟨_, rfl⟩, pre, HE.out, HP2.out⟩
    · obtain ⟨k, rfl⟩ : ∃ k, m = k + 1 := ⟨m - 1, by have := HM.out; omega⟩
      obtain ⟨t, ht⟩ : ∃ t, t = s.extract x.toNat (q - 4).toNat := ⟨_, rfl⟩
      have hts : t.size = (q - 4).toNat - x.toNat := by rw [ht, ByteArray.size_extract]; omega
      rw [← ht] at h2
      have hbd := Jn.one_bd h2
      obtain ⟨o, ho⟩ : ∃ o, o = if q - 4 = x then 0 else x.toNat := ⟨_, rfl⟩
      have hsl : ∀ Z, (Instr.slice 95 (.slice (some ⟨W.heap.size, 0, none⟩) s.size cap) (some (.int .i64 x)) (some (.int .i64 (q - 4))) (some (.int .i64 (q - 4)))).run Tryz.prog Z = .ok (.slice (some ⟨W.heap.size, o, none⟩) t.size t.size) Z := fun Z => by
        rw [run_slice_lhm Z 95 _ _ _ Tryz.underlying95 .i64 .i64 .i64 x (q - 4) (q - 4) (by omega) (by omega) (by omega) (by omega)]
        show ((sizeOf 5).run Tryz.prog Z).andThen _ = _
        rw [size8]
        simp only [Result.andThen, sliced]
        rw [ho, hts]
        by_cases he : q - 4 = x
        · rw [if_pos (by rw [he]), if_pos he]
        · rw [if_neg (by omega), if_neg he]; simp [Addr.add] <;> omega
      have hth : Jn.There s pre ⟨q, W.heap.size, o, t⟩ w2 := by
        refine ⟨by have := HL.out; omega, hbd.2.2.2.2, by show 0 ≤ q; omega, hqs, _, _, HR2.out, fun i hi => ?_⟩
        have hi' : i < t.size := hi
        have hne : ¬ q - 4 = x := by omega
        show (bytesRow s cap)[o + i]? = _
        rw [ho, if_neg hne, Jn.row_at s cap (x.toNat + i) (by omega)]
        show some _ = some (Value.int .u8 ((nums t).getD i 0))
        rw [ht, Jn.nums_extract s x.toNat (q - 4).toNat i (by omega) (by rw [← ht]; exact hi')]
      have HE : Hid (Jn.all s = (pre ++ [(⟨q, W.heap.size, o, t⟩ : Jn.Pc)]).map Jn.Pc.ent ++ Jn.ents s k q) := by
        show _ = _
        rw [HA.out, Jn.ents_step h2]; simp [Jn.Pc.ent]
      obtain ⟨fn, tmps, assign, body, hy, hR⟩ := HY.out pre ⟨q, W.heap.size, o, t⟩ w2 HP2.out hth
      dsimp only [Jn.Pc.vals] at hy
      clear hth h2 HA ho ht hts hbd
      gi_wp2
      refine hR.mono ?_
      rintro e W3 ⟨rfl, hJ3, hk3⟩
      have HJ3 := Fk.hide hJ3
      have HR3 : Hid (W3.heap[W.heap.size]? = some (.cells (bytesRow s cap) 5 fr)) := hk3.rows _ _ _ HR2.out
      have HB3 : Hid (Boxed W3 db 9 (.string s)) := hk3.box _ HB2.out
      clear hJ3 hk3 hy hR HP2 HR2 HB2
      gi_wp2
      go_roundw
      case rel => exact ⟨pre ++ [(⟨q, W.heap.size, o, t⟩ : Jn.Pc)], k, q, rfl, by omega, by omega, HE, by have := HM.out; show _ < _; push_cast at this; omega, by have := HL.out; show _ ≤ _; simp; omega, HJ3, HR3, HB3⟩
      case measure => simp [intOf]; omega
end Go.Proofs.YtfefafmcaepoiaaGreatDoor
