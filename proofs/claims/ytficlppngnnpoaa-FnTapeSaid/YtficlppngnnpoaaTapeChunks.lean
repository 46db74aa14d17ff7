/- The walk of the iterator over the pieces of trades: all of them, one by one, each a part of the argument's own row. -/
import Derived.Test.YtficlppngnnpoaaProg
import Derived.Test.YtficlppngnnpoaaRangeMem
import Derived.Test.YtficlppngnnpoaaTapeMath
import Derived.Laws.IdiomStrings
import Derived.RangeFuncBound
import Derived.Shelf.Abstract
import Derived.Shelf.RegionOpen
import Derived.OwnWalkIn
import Derived.TacticsInMore
import Derived.LoopNIn
import Derived.LoopIn
namespace Go.Proofs.Ytficlppngnnpoaa
set_option linter.unusedSimpArgs false
open Go.RowKit Go.Shelf
attribute [local go_sem] Oper.semAt_some
set_option linter.unusedVariables false
namespace Ck
/-- what the body is handed: where a piece lies, its trades -/
structure Pc where
  b : Nat
  o : Nat
  t : List Td.E
def Pc.vals (x : Pc) : Array Value := #[.slice (some ⟨x.b, x.o, none⟩) x.t.length x.t.length]
/-- the first k pieces of so many trades each -/
def pieces (L : List Td.E) (m k : Nat) : List (List Td.E) := (List.range k).map fun j => (L.drop (j * m)).take m
theorem pieces_succ (L : List Td.E) (m k : Nat) : pieces L m (k + 1) = pieces L m k ++ [(L.drop (k * m)).take m] := by simp [pieces, List.range_succ]
theorem pieces_bars (L : List Td.E) (m k : Nat) : (pieces L m k).map Tp.bar = Tp.bars L m k := by simp [pieces, Tp.bars]
theorem cell_of_block {X Y : World} {b : Nat} (j : Nat) (h : Y.heap[b]? = X.heap[b]?) : Y.cell? ⟨b, j, none⟩ = X.cell? ⟨b, j, none⟩ := by simp [World.cell?, h]
theorem sees_of_block {X Y : World} {b o : Nat} {T : List Td.E} (hs : Rk.Sees Td.S X b o T) (h : Y.heap[b]? = X.heap[b]?) : Rk.Sees Td.S Y b o T := fun i hi j hj => (cell_of_block _ h).trans (hs i hi j hj)
/-- a piece is there -/
def There (B : Nat) (pre : List Pc) (x : Pc) (W : World) : Prop :=
  pre.length < 400 ∧ x.t.length ≤ 400 ∧ Tp.right x.t = true ∧ x.b < B ∧ x.b < W.heap.size ∧ Rk.Sees Td.S W x.b x.o x.t
theorem There.own (B n : Nat) (h : B ≤ n) (x : Pc) (pre : List Pc) : OwnFrom n (fun (_ : Unit) W => There B pre x W) := by
  rintro _ X Y row ⟨h1, h2, h3, h4, h5, h6⟩ hg hr
  exact ⟨h1, h2, h3, h4, Nat.lt_of_lt_of_le h5 hg.size, sees_of_block h6 (hg.block _ h5 (fun e => by have := (hr x.b e.symm).1; omega))⟩
/-- what a round keeps: all blocks below n but the one in which the bars stand -/
structure Kp (q n : Nat) (X Y : World) : Prop where
  size : X.heap.size ≤ Y.heap.size
  same : ∀ k, k < n → k ≠ q → Y.heap[k]? = X.heap[k]?
theorem Kp.trans {q n : Nat} {A B C : World} (h : Kp q n A B) (k : Kp q n B C) : Kp q n A C := ⟨Nat.le_trans h.size k.size, fun j hj hq => (k.same j hj hq).trans (h.same j hj hq)⟩
theorem Kp.put {q n : Nat} (W : World) (l : Nat) (o' : Obj) (hl : n ≤ l) : Kp q n W (W.putObj l o') := ⟨by simp, fun k hk _ => World.putObj_heap_other (by omega)⟩
theorem piece {L : List Td.E} {b o : Nat} {W : World} (h : Rk.Sees Td.S W b o L) (x m : Nat) (hx : x < L.length) : Rk.Sees Td.S W b (o + x * 2) ((L.drop x).take m) := by
  intro i hi j hj
  have hi2 : x + i < L.length := by simp only [List.length_take, List.length_drop] at hi; omega
  have := h (x + i) hi2 j hj
  have e1 : o + (x + i) * Td.S.m + j = o + x * 2 + i * Td.S.m + j := by show o + (x + i) * 2 + j = o + x * 2 + i * 2 + j; omega
  have e2 : Rk.at_ Td.S L (x + i) = Rk.at_ Td.S ((L.drop x).take m) i := by
    rw [Rk.at_get _ _ hi2, Rk.at_get _ _ hi, List.getElem_take, List.getElem_drop]
  rw [← e1, ← e2]
  exact this
end Ck
theorem sizeTd (W : World) : (sizeOf 37).run Try.prog W = .ok 2 W := by kernel_rfl

set_option maxRecDepth 100000 in
set_option maxHeartbeats 4000000 in
theorem chunks_gives (a : Option Addr) (cap : Nat) (L : List Td.E) (m : Nat) (hm : 1 ≤ m) (hm2 : m ≤ 100) (hr : Tp.right L = true) (q sb nb n0 B : Nat) (w0 : World)
    (hsb : Boxed w0 sb 23 (.slice a L.length cap)) (hnb : Boxed w0 nb 3 (.int .i64 m)) (hs : 0 < L.length → ∃ b o, a = some ⟨b, o, none⟩ ∧ b < B ∧ Rk.Sees Td.S w0 b o L)
    (hcap : L.length ≤ cap) (hB : B ≤ n0) (hq : B ≤ q) (hqs : sb ≠ q) (hqn : nb ≠ q) (hsn : sb < n0) (hnn : nb < n0) (hn0 : n0 ≤ w0.heap.size) (d : Nat) (hd : 3 ≤ d) :
    Rf.Gives Fence.wide d Try.prog 59 #[.pointer (some ⟨sb, 0, none⟩), .pointer (some ⟨nb, 0, none⟩)] Ck.Pc.vals (Ck.There B) (Ck.Kp q n0) (fun xs => xs.map Ck.Pc.t = Ck.pieces L m (Tp.many L m)) w0 := by
  intro l J W hW hJ hY h0
  have hSB : Boxed W sb 23 (.slice a L.length cap) := (hW.block sb (by omega)).trans hsb
  have hNB : Boxed W nb 3 (.int .i64 m) := (hW.block nb (by omega)).trans hnb
  have hl4 : L.length ≤ 400 := (Tp.right_inv hr).1
  have HSE : Hid (0 < L.length → ∃ b o, a = some ⟨b, o, none⟩ ∧ b < B ∧ Rk.Sees Td.S W b o L) := fun h => by
    obtain ⟨b, o, e, hb, h1⟩ := hs h
    exact ⟨b, o, e, hb, Ck.sees_of_block h1 (hW.block b (by omega))⟩
  have HR := Fk.hide hr
  have HJ := Fk.hide hJ
  have HY := Fk.hide hY
  have H0 := Fk.hide h0
  have HSB := Fk.hide hSB
  have HNB := Fk.hide hNB
  have hwn : n0 ≤ W.heap.size := Nat.le_trans hn0 hW.size
  have h1 : 1 ≤ d := by omega
  have h2 : 1 ≤ d - 1 := by omega
  clear hs hsb hnb hr hJ hY h0 hSB hNB hW
  show CallsIn Fence.wide d Try.prog _ #[.func (.yield l) #[] #[], .pointer (some ⟨sb, 0, none⟩), .pointer (some ⟨nb, 0, none⟩)] W _
  refine callsIn_of_wp Try.func59 rfl trivial ?_ rfl
  simp only [Try.ntmps59, List.size_toArray, List.length_cons, List.length_nil, Nat.reduceAdd, Nat.reduceSub, Array.replicate_succ, Array.replicate_zero, List.push_toArray, List.append_toArray, List.nil_append, List.cons_append]
  gi_wp2
  gi_loopw [4] (fun i wr => ∃ (pre : List Ck.Pc) (k x : Nat), i = .int .i64 x ∧ x ≤ 500 ∧ Hid (x = k * m) ∧ Hid (pre.length = k) ∧ Hid (k ≤ Tp.many L m) ∧ Hid (pre.map Ck.Pc.t = Ck.pieces L m k) ∧ Hid (J pre wr) ∧ Hid (Boxed wr sb 23 (.slice a L.length cap)) ∧ Hid (Boxed wr nb 3 (.int .i64 m)) ∧ Hid (n0 ≤ wr.heap.size ∧ (0 < L.length → ∃ b o, a = some ⟨b, o, none⟩ ∧ b < B ∧ Rk.Sees Td.S wr b o L))) (fun i _ => L.length - (intOf i).toNat)
  case atStart => exact ⟨[], 0, 0, rfl, by omega, by show 0 = 0 * m; omega, rfl, Nat.zero_le _, rfl, H0.out, HSB.out, HNB.out, hwn, HSE.out⟩
  case round =>
    obtain ⟨pre, k, x, rfl, hx5, HX, HPL, HKM, HPM, HP, HS1, HN1, HSS⟩ := hrel
    have hcs := HS1.out.cell
    have hcn := HN1.out.cell
    clear HSE H0 HSB HNB
    by_cases hlt : x < L.length
    · obtain ⟨b, o, rfl, hb, hse⟩ := HSS.out.2 (by omega)
      obtain ⟨T, hT⟩ : ∃ T, T = (L.drop x).take m := ⟨_, rfl⟩
      have hTl : T.length = min m (L.length - x) := by rw [hT, List.length_take, List.length_drop]
      have HTT := Fk.hide hT
      have hTR : Tp.right T = true := by rw [hT]; exact Tp.right_part HR.out x m
      have HMN : Hid ((if L.length - x < m then ((L.length - x : Nat) : Int) else (m : Int)) = (T.length : Int)) := by show (_ : Int) = _; split <;> omega
      have hTP : Rk.Sees Td.S wr b (o + x * 2) T := by rw [hT]; exact Ck.piece hse x m hlt
      have hpre4 : pre.length < 400 := by
        have h9 := HX.out
        have h8 := HPL.out
        have h7 : k ≤ k * m := Nat.le_mul_of_pos_right k (by omega)
        omega
      have hTl4 : T.length ≤ L.length - x := by omega
      have HTH : Hid (Ck.There B pre ⟨b, o + x * 2, T⟩ wr.drew) := ⟨hpre4, by show T.length ≤ 400; omega, hTR, hb, by show b < wr.heap.size; have := HSS.out.1; omega, Ck.sees_of_block hTP rfl⟩
      have HP2 : Hid (J pre wr.drew) := HJ.out _ _ _ HP.out (Fk.grownBy_below none (Below.drew (Below.refl _ _)))
      have HNEW : Hid ((pre ++ [(⟨b, o + x * 2, T⟩ : Ck.Pc)]).map Ck.Pc.t = Ck.pieces L m (k + 1)) := by
        show _ = _
        rw [Ck.pieces_succ, List.map_append, HPM.out, ← HX.out, ← HTT.out]
        rfl
      have HKM2 : Hid (k + 1 ≤ Tp.many L m) := by have h9 := HX.out; exact Tp.many_lt (by omega) (by omega)
      have HTL := Fk.hide hTl
      clear hT hTP hTR hpre4 hse hTl
      gi_wp2
      gi_region
      rw [HMN.out]
      obtain ⟨fn, tmps, assign, body, hy, hRR⟩ := HY.out pre ⟨b, o + x * 2, T⟩ wr.drew HP2.out HTH.out
      dsimp only [Ck.Pc.vals] at hy
      have hsl : ∀ Z, (Instr.slice 23 (.slice (some ⟨b, o, none⟩) L.length cap) (some (.int .i64 x)) (some (.int .i64 ((x : Int) + (T.length : Int)))) (some (.int .i64 ((x : Int) + (T.length : Int))))).run Try.prog Z = .ok (.slice (some ⟨b, o + x * 2, none⟩) T.length T.length) Z := fun Z => by
        have hT0 : 0 < T.length := by have := HTL.out; omega
        rw [run_slice_lhm Z 23 _ _ _ Try.underlying23 .i64 .i64 .i64 x ((x : Int) + (T.length : Int)) ((x : Int) + (T.length : Int)) (by omega) (by omega) (by omega) (by omega)]
        show ((sizeOf 37).run Try.prog Z).andThen _ = _
        rw [sizeTd]
        simp only [Result.andThen, sliced]
        have e1 : ((x : Int) + (T.length : Int)).toNat = x + T.length := by omega
        have e2 : (x : Int).toNat = x := by omega
        rw [e1, e2]
        have e3 : x + T.length - x = T.length := by omega
        rw [e3, if_neg (by omega)]
        simp [Addr.add]
      clear HTH HP2 HMN
      gi_wp2
      refine hRR.mono ?_
      rintro e W3 ⟨rfl, hJ3, hk3⟩
      have HJ3 := Fk.hide hJ3
      have hsz3 : n0 ≤ W3.heap.size := Nat.le_trans HSS.out.1 hk3.size
      have HS3 : Hid (Boxed W3 sb 23 (.slice (some ⟨b, o, none⟩) L.length cap)) := (hk3.same sb hsn hqs).trans HS1.out
      have HN3 : Hid (Boxed W3 nb 3 (.int .i64 m)) := (hk3.same nb hnn hqn).trans HN1.out
      have HSS3 : Hid (n0 ≤ W3.heap.size ∧ (0 < L.length → ∃ b' o', (some ⟨b, o, none⟩ : Option Addr) = some ⟨b', o', none⟩ ∧ b' < B ∧ Rk.Sees Td.S W3 b' o' L)) := by
        refine ⟨hsz3, fun h => ?_⟩
        obtain ⟨b', o', e', hb', hse'⟩ := HSS.out.2 h
        exact ⟨b', o', e', hb', Ck.sees_of_block (X := wr) hse' (hk3.same b' (by omega) (by omega))⟩
      have hcs3 := HS3.out.cell
      have hcn3 := HN3.out.cell
      clear hJ3 hk3 hy hRR hcs hcn HS1 HN1 hsl hsz3
      gi_wp2
      go_roundw
      case rel =>
        refine ⟨pre ++ [(⟨b, o + x * 2, T⟩ : Ck.Pc)], k + 1, x + m, by go_num, by omega, ?_, ?_, HKM2.out, HNEW.out, HJ3.out, HS3.out, HN3.out, HSS3.out⟩
        · show x + m = (k + 1) * m
          rw [HX.out, Nat.succ_mul]
        · show _ = _
          rw [List.length_append, HPL.out]; rfl
      case measure => simp [intOf]; omega
    · have HE : Hid (pre.map Ck.Pc.t = Ck.pieces L m (Tp.many L m)) := by
        show _ = _
        have h9 := HX.out
        rw [HPM.out, ← Tp.many_is (by omega) HKM.out (by omega)]
      have hge : (L.length : Int) ≤ (x : Int) := by omega
      clear hcn
      gi_wp2
      exact bodyPost_end (results_none rfl _ _ _) rfl ⟨⟨_, rfl⟩, pre, HE.out, HP.out⟩
end Go.Proofs.Ytficlppngnnpoaa
