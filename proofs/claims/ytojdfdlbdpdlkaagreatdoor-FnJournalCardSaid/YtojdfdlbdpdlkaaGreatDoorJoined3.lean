/- Bytes, read off an argument of the law. No function of the program here. Bytes made, copied and cut: laws for the walk over a block of bytes of the call's own. Plain mathematics of numbers as bytes: seven bits a byte, the lowest first. No Go here. The walks of PutNum, the program's and the specification's. -/
import Derived.Test.YtojdfdlbdpdlkaaGreatDoorJoined2
import Derived.Test.YtojdfdlbdpdlkaaGreatDoorDraws
import Derived.Test.YtojdfdlbdpdlkaaGreatDoorProg
import Derived.Test.YtojdfdlbdpdlkaaGreatDoorJoined1
import Derived.Lib.LazyBuf
import Derived.Below
import Derived.Laws.BytesArg
import Derived.WalkKit
import Derived.WalkSpells
import Derived.WalkLawsBesides
namespace Go.Proofs.YtojdfdlbdpdlkaaGreatDoor
open Go.ChangeShapes Go.WideShapes Go.Deep Go.RowKit
set_option linter.unusedVariables false
namespace Dk
/-- a byte as a list's element -/
def S8 : Rk.Shape Int where
  m := 1
  cs i := [.int .u8 i]
  z := 0
  pos := by decide
  len := fun _ => rfl
  one := fun a u hu => by simp at hu; subst hu; rfl
theorem open_bytes {H : Type} {enc : TypeId × Value → H} {P : Program} {w : World} {r : Reach} {b0 : Nat} {tSl tInt : TypeId} (hSl : P.underlying tSl = some (.slice tInt)) (hInt : P.underlying tInt = some (.int .u8)) (cInt : P.cellsOf tInt = 1)
    {v : Value} {d : DataW H} {p : List MemPlace} (hv : Value.okWide P w r b0 tSl v) (h : DataW.Trod enc P w 0 (fun _ => true) true tSl v d p) :
    ∃ (a : Option Addr) (n c : Nat), v = .slice a n c ∧ n ≤ maxLen ∧ Bytes w.heap.size w a n := by
  obtain ⟨a, n, c, rfl⟩ := okWide_slice hSl hv
  obtain ⟨fuel, hf⟩ := h
  have q : DataW.trod enc P w 0 (fun _ => true) true fuel tSl [.slice a n c] = some (d, p) := hf
  obtain ⟨T, h1, h2, h3, h4⟩ := Rk.open_list (S := S8) hSl cInt (fun i => 0 ≤ i ∧ i ≤ 255) (fun n cs' y hy hlen => by
    obtain ⟨s0, e0, _, z0⟩ := DataW.trod_int hInt hy
    have e1 : IntKind.u8.min = 0 := rfl
    have e2 : IntKind.u8.max = 255 := rfl
    simp [Lit.wf, e1, e2] at z0
    exact ⟨s0, z0, e0⟩) q
  obtain ⟨a', c', e, hs⟩ := h3
  simp only [Value.slice.injEq] at e
  obtain ⟨rfl, rfl, rfl⟩ := e
  refine ⟨_, _, _, rfl, h2, fun i hi => ?_⟩
  obtain ⟨b, o, e', hb, hsee⟩ := hs (by omega)
  have hx := h1 T[i] (List.getElem_mem hi)
  refine ⟨b, o, T[i], e', hb, ⟨hx.1, by omega⟩, ?_⟩
  have := hsee i hi 0 (by decide)
  simpa [S8, Rk.at_, List.getD, List.getElem?_eq_getElem hi] using this
end Dk
end Go.Proofs.YtojdfdlbdpdlkaaGreatDoor

namespace Go.Proofs.YtojdfdlbdpdlkaaGreatDoor
open Go.RowKit

/-- a text's bytes as numbers -/
def nums (t : ByteArray) : List Int := t.data.toList.map fun x => (x.toNat : Int)

theorem nums_length (t : ByteArray) : (nums t).length = t.size := by simp [nums]

theorem str_nums (t : ByteArray) : strOfNums (nums t) = t := by
  unfold strOfNums nums
  rw [List.map_map]
  have : (fun n : Int => UInt8.ofNat n.toNat) ∘ (fun x : UInt8 => (x.toNat : Int)) = id := by
    funext x; simp
  rw [this]; simp

theorem str_append (a b : List Int) : strOfNums (a ++ b) = strOfNums a ++ strOfNums b := by
  apply ByteArray.ext
  simp [strOfNums, ByteArray.data_append]

theorem str_join (a b : ByteArray) : strOfNums (nums a ++ nums b) = a ++ b := by rw [str_append, str_nums, str_nums]

theorem row8_setCells : ∀ (l : List Int) (o : Nat) (w : World) (b : Nat) (ys : List Int), Row8 w b ys → o + l.length ≤ ys.length → Row8 (w.setCells b o (l.map (Value.int .u8))) b (ys.take o ++ l ++ ys.drop (o + l.length))
  | [], o, w, b, ys, h, _ => by simpa [World.setCells] using h
  | x :: l, o, w, b, ys, h, hl => by
    simp at hl
    have := row8_setCells l (o + 1) _ b _ (row8_set h o x (by omega)) (by simp; omega)
    rw [List.map_cons, World.setCells]
    have e : (ys.set o x).take (o + 1) ++ l ++ (ys.set o x).drop (o + 1 + l.length) = ys.take o ++ (x :: l) ++ ys.drop (o + (x :: l).length) := by
      rw [List.take_succ_eq_append_getElem (by simp; omega), List.take_set_of_le (Nat.le_refl _), List.drop_set_of_lt (by omega)]
      simp [show o + 1 + l.length = o + (l.length + 1) by omega]
    rw [e] at this
    exact this

theorem size_setCells (b : Nat) : ∀ (vs : List Value) (o : Nat) (w : World), (w.setCells b o vs).heap.size = w.heap.size
  | [], _, _ => rfl
  | v :: r, o, w => by rw [World.setCells, size_setCells b r (o + 1)]; simp [World.setCell]

/-- 'copy(dst, text)' into a block of bytes of the call's own: its run, over a world that is told by what it holds -/
theorem copy8_run {P : Program} {w : World} (dT sT ty e : TypeId) (hu : P.underlying dT = some (.slice e)) (hz : ∀ w, (Go.sizeOf e).run P w = .ok 1 w)
    (b off dLen dCap : Nat) (t : ByteArray) (ys : List Int) (hrow : Row8 w b ys) (hle : t.size ≤ dLen) (hfit : off + t.size ≤ ys.length) :
    ∃ w', (Builtin.copy_ #[dT, sT] ty #[.slice (some ⟨b, off, none⟩) dLen dCap, .string t]).run P w = .ok (goInt t.size) w' ∧ Row8 w' b (ys.take off ++ nums t ++ ys.drop (off + t.size)) ∧ Below b w w' ∧ w'.heap.size = w.heap.size := by
  refine ⟨_, run_copy_string (P := P) w dT sT ty e b off dLen dCap t hu hz hle (fun j hj => by rw [hrow.1 (off + j) (by omega)]; rfl) (fun j _ => hrow.2 _), ?_, below_setCells (Nat.le_refl _) _ _ _ (Below.refl _ _), size_setCells _ _ _ _⟩
  have := row8_setCells (nums t) off w b ys hrow (by rw [nums_length]; exact hfit)
  rw [nums_length] at this
  unfold nums at this
  rw [List.map_map] at this
  exact this

/-- 'make([]byte, n)' -/
theorem wpList_make8 {P : Program} (w : World) {ops : Array Oper} {rest : List Oper} {o : Oper} {a : Act} {Q : Exit → Act → World → Prop}
    (hg : o.guard = none) (l c : Operand) (t : TypeId) (hop : o.op = Op.makeSlice t l c) (e : TypeId) (i : TypeInfo) (h1 : P.underlying t = some (.slice e)) (h2 : P.info? e = some i) (h3 : i.zero = some (.int .u8 0)) (h4 : i.size = 1) (h5 : i.bytes = 1)
    (n : Nat) (hl : a.eval l = .int .i64 n) (hc : a.eval c = .int .i64 n) (hn : n ≤ 281474976710656)
    (hK : ∀ w', Row8 w' w.heap.size (List.replicate n 0) → Below w.heap.size w w' → w'.heap.size = w.heap.size + 1 → wpList P ops Q rest (a.put o.dst (.slice (some ⟨w.heap.size, 0, none⟩) n n)) w') :
    wpList P ops Q (o :: rest) a w := by
  refine wpList_plain hg fun K hK' => ?_
  have hrun := run_make (P := P) w t e i (.int .u8 0) h1 h2 h3 .i64 .i64 n n (by omega) (by omega) (by rw [h5]; omega) (by omega)
  have e1 : madeCells (Value.int .u8 0).cells (n * i.size) = ((List.replicate n (0 : Int)).map (Value.int .u8)).toArray := by
    rw [h4]
    apply Array.ext
    · simp [size_madeCells]
    · intro j _ _
      simp [madeCells, Value.cells, Nat.mod_one]
  rw [Int.toNat_natCast, e1] at hrun
  unfold Oper.wp
  simp [execOp, hop, hl, hc, hrun, Result.andThen]
  refine hK' _ _ (hK _ ?_ ((Below.refl _ _).alloc (Nat.le_refl _) _) (by simp))
  simpa using row8_new w e (List.replicate n 0)

theorem Tryz.infoU8 : (Tryz.prog.info? 5).map (fun i => (i.zero, i.size, i.bytes)) = some (some (.int .u8 0), 1, 1) := by kernel_rfl
theorem size8 (w : World) : (sizeOf 5).run Tryz.prog w = .ok 1 w := by kernel_rfl
end Go.Proofs.YtojdfdlbdpdlkaaGreatDoor

namespace Go.Proofs.YtojdfdlbdpdlkaaGreatDoor
namespace Pn
/-- the sign folded in -/
def fold (n : Int) : Int := if n < 0 then 2 * (-(n + 1)) + 1 else 2 * n
/-- the bytes of a number from 0 on, with fuel -/
def encU : Nat → Nat → List Int
  | 0, u => [(u : Int)]
  | f + 1, u => if 128 ≤ u then ((u : Int) % 128 + 128) :: encU f (u / 128) else [(u : Int)]
/-- the bytes of a number of int64 -/
def putNum (n : Int) : ByteArray := strOfNums (encU 10 (fold n).toNat)

/-- what is left to be written, and what has been: the fuel suffices -/
def Left (u0 u f : Nat) (xs : List Int) : Prop := encU 10 u0 = xs ++ encU f u ∧ xs.length + f = 10 ∧ u < 128 ^ f

theorem fold_bd (n : Int) (h1 : -9223372036854775808 ≤ n) (h2 : n ≤ 9223372036854775807) : 0 ≤ fold n ∧ fold n ≤ 18446744073709551615 := by
  unfold fold; split <;> omega

theorem left_start (u : Nat) (h : u ≤ 18446744073709551615) : Left u u 10 [] := by
  refine ⟨rfl, rfl, ?_⟩
  have : (128 : Nat) ^ 10 = 1180591620717411303424 := by decide
  omega

theorem left_bd {u0 u f : Nat} {xs : List Int} (h : Left u0 u f xs) (h128 : 128 ≤ u) : 2 ≤ f := by
  obtain ⟨_, _, h3⟩ := h
  match f, h3 with
  | 0, h3 => simp at h3; omega
  | 1, h3 => simp at h3; omega
  | f + 2, _ => omega

theorem left_pos {u0 u f : Nat} {xs : List Int} (h : Left u0 u f xs) (h1 : 1 ≤ f) : xs.length ≤ 9 := by
  have := h.2.1; omega

theorem left_step {u0 u f : Nat} {xs : List Int} (h : Left u0 u f xs) (h128 : 128 ≤ u) : ∃ g, 1 ≤ g ∧ Left u0 (u / 128) g (xs ++ [(u : Int) % 128 + 128]) := by
  have hf := left_bd h h128
  obtain ⟨h1, h2, h3⟩ := h
  match f, hf, h1, h2, h3 with
  | f + 1, hf, h1, h2, h3 =>
    refine ⟨f, by omega, ?_, by simp; omega, ?_⟩
    · rw [h1, encU, if_pos h128]; simp
    · rw [Nat.pow_succ] at h3
      exact Nat.div_lt_of_lt_mul (by omega)

theorem left_last {u0 u f : Nat} {xs : List Int} (h : Left u0 u f xs) (hu : u < 128) : encU 10 u0 = xs ++ [(u : Int)] := by
  obtain ⟨h1, h2, h3⟩ := h
  rw [h1]
  match f with
  | 0 => rfl
  | f + 1 => rw [encU, if_neg (by omega)]

theorem enc_length (f u : Nat) : (encU f u).length ≤ f + 1 := by
  induction f generalizing u with
  | zero => simp [encU]
  | succ f ih =>
    rw [encU]; split
    · have := ih (u / 128); simp; omega
    · simp

theorem put_size (n : Int) : (putNum n).size ≤ 11 := by
  unfold putNum; rw [strOfNums_size]; exact enc_length 10 _

theorem take_set (ys xs : List Int) (k : Nat) (x : Int) (hk : k = xs.length) (hy : k < ys.length) (h : ys.take xs.length = xs) : (ys.set k x).take (k + 1) = xs ++ [x] := by
  subst hk
  rw [List.take_succ_eq_append_getElem (by simpa using hy), List.take_set_of_le (Nat.le_refl _), h]
  simp
end Pn
end Go.Proofs.YtojdfdlbdpdlkaaGreatDoor

namespace Go.Proofs.YtojdfdlbdpdlkaaGreatDoor
open Go.RowKit
set_option linter.unusedVariables false

theorem ret_u64 {a b : Int} (h : a = b) : Ending.returned (.int .u64 a) = .returned (.int .u64 b) := by rw [h]

set_option maxHeartbeats 400000 in
theorem foldSign_any (n : Int) (w : World) (h1 : -9223372036854775808 ≤ n) (h2 : n ≤ 9223372036854775807) :
    Calls Tryz.prog 91 #[.int .i64 n] w fun e w' => e = .returned (.int .u64 (Pn.fold n)) ∧ w' = w := by
  by_cases hn : 0 ≤ n
  all_goals
    go_enter Tryz.func91, Tryz.ntmps91
    go_wp2
    go_ret
    exact ⟨ret_u64 (by simp only [Pn.fold]; split <;> omega), rfl⟩

set_option maxHeartbeats 400000 in
theorem specFold_any (n : Int) (w : World) (h1 : -9223372036854775808 ≤ n) (h2 : n ≤ 9223372036854775807) :
    Calls Tryz.prog 87 #[.int .i64 n] w fun e w' => e = .returned (.int .u64 (Pn.fold n)) ∧ w' = w := by
  by_cases hn : n < 0
  all_goals
    go_enter Tryz.func87, Tryz.ntmps87
    go_wp2
    go_ret
    exact ⟨ret_u64 (by simp only [Pn.fold]; split <;> omega), rfl⟩

theorem un10 : Tryz.prog.underlying 134 = some (.array (Tryz.prog.arrayLen 134) (Tryz.prog.elem 134)) := by kernel_rfl
theorem len10 : Tryz.prog.arrayLen 134 = 10 := by kernel_rfl
theorem size10 (w : World) : (sizeOf (Tryz.prog.elem 134)).run Tryz.prog w = .ok 1 w := by kernel_rfl

theorem slice10 (b k : Nat) (hk : k ≤ 9) (w : World) :
    (Instr.sliceAt 134 (.pointer (some ⟨b, 0, none⟩)) none (some (.int .i64 ((k : Int) + 1))) none).run Tryz.prog w = .ok (.slice (some ⟨b, 0, none⟩) (k + 1) 10) w := by
  rw [run_sliceAt_array_h w _ _ un10 .i64 _ (by omega) (by rw [len10]; omega), size10]
  have e : ((k : Int) + 1).toNat = k + 1 := by omega
  simp [Result.andThen, slicedAt, len10, e, Addr.add]

set_option maxHeartbeats 1000000 in
theorem implPut_any (n : Int) (w : World) (h1 : -9223372036854775808 ≤ n) (h2 : n ≤ 9223372036854775807) :
    Calls Tryz.prog 81 #[.int .i64 n] w fun e w' => e = .returned (.string (Pn.putNum n)) ∧ Below w.heap.size w w' := by
  have hb := Pn.fold_bd n h1 h2
  obtain ⟨u0, hu0⟩ := Int.eq_ofNat_of_zero_le hb.1
  have HU : Hid (Pn.putNum n = strOfNums (Pn.encU 10 u0)) := by show Pn.putNum n = _; rw [Pn.putNum, hu0]; rfl
  have hu1 : u0 ≤ 18446744073709551615 := by omega
  have HF : Hid (Pn.fold n = (u0 : Int)) := hu0
  clear hu0 hb
  go_enter Tryz.func81, Tryz.ntmps81
  go_wp2_with fail
  refine (foldSign_any n _ h1 h2).mono ?_
  rintro e w' ⟨rfl, rfl⟩
  rw [HF.out]
  go_wp2_with fail
  go_loopw [4, 5] (fun u l wr => ∃ (v f : Nat) (xs ys : List Int), u = .int .u64 v ∧ l = .int .i64 xs.length ∧ (v : Int) ≤ 18446744073709551615 ∧ xs.length ≤ 9 ∧ Hid (1 ≤ f ∧ Pn.Left u0 v f xs) ∧
      Hid (Row8 wr w.heap.size ys ∧ ys.length = 10 ∧ ys.take xs.length = xs) ∧ Hid (Below w.heap.size w wr)) (fun u _ _ => (intOf u).toNat)
  case atStart =>
    refine ⟨u0, 10, [], List.replicate 10 0, rfl, rfl, by omega, by simp, ⟨by omega, Pn.left_start u0 hu1⟩, ⟨row8_new _ _ _, by simp, by simp⟩, ?_⟩
    exact (Below.refl _ _).alloc (Nat.le_refl _) _
  case round =>
    obtain ⟨v, f, xs, ys, rfl, rfl, hv, hx, HL, HR, HB⟩ := hrel
    obtain ⟨k, hk⟩ : ∃ k, k = xs.length := ⟨_, rfl⟩
    rw [← hk] at hx ⊢
    have HK : Hid (k = xs.length) := hk
    clear hk
    have hc := HR.out.1.1 k (by have := HR.out.2.1; omega)
    have hz := HR.out.1.2 k
    by_cases h128 : (128 : Int) ≤ v
    · go_wp2
      go_roundw
      case rel =>
        obtain ⟨g, hg, hL⟩ := Pn.left_step HL.out.2 (by omega)
        have hk := HK.out
        refine ⟨v / 128, g, xs ++ [(v : Int) % 128 + 128], ys.set k ((v : Int) % 128 + 128), by go_num, by simp [hk], by omega, Pn.left_pos hL hg, ⟨hg, hL⟩, ⟨row8_set HR.out.1 k _ (by have := HR.out.2.1; omega), by simpa using HR.out.2.1, ?_⟩, HB.out.setCell (Nat.le_refl _) _⟩
        rw [List.length_append, ← hk]
        exact Pn.take_set ys xs k _ hk (by have := HR.out.2.1; omega) HR.out.2.2
      case measure => simp [intOf]; omega
    · have hR := row8_set HR.out.1 k (v : Int) (by have := HR.out.2.1; omega)
      have ht := row8_text (P := Tryz.prog) hR 22 9 5 Tryz.underlying22 Tryz.underlying5 Tryz.underlying9 (k + 1) 10 (by have := HR.out.2.1; simp; omega)
      have hsl := fun W => slice10 w.heap.size k hx W
      have HT : Hid (Pn.putNum n = strOfNums ((ys.set k (v : Int)).take (k + 1))) := by
        show Pn.putNum n = _
        rw [HU.out, Pn.left_last HL.out.2 (by omega), Pn.take_set ys xs k _ HK.out (by have := HR.out.2.1; omega) HR.out.2.2]
      have HE : Hid (Below w.heap.size w (wr.setCell ⟨w.heap.size, k, none⟩ (.int .u8 (v : Int)))) := HB.out.setCell (Nat.le_refl _) _
      clear hR
      go_wp2
      go_ret
      exact ⟨by rw [HT.out]; rfl, HE.out⟩
end Go.Proofs.YtojdfdlbdpdlkaaGreatDoor
