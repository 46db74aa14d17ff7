/- The walks of errors.Is at errors of errors.New's make, and of the program's code of an error: the error itself is found, nil and another one are not. Plain mathematics of names: which texts are names, byte by byte. No Go here. Plain mathematics of files: which lists of files are right. No function of the program here. -/
import Derived.Test.YtojdfdlbdpdlkaaGreatDoorProg
import Derived.WalkKit
import Derived.LaidEql
import Derived.Stop.Asserts
import Derived.RowKitTokens
import Derived.Below
import Derived.Test.YtojdfdlbdpdlkaaGreatDoorFsKit
namespace Go.Proofs.YtojdfdlbdpdlkaaGreatDoor
open Go.RowKit Go.Extern.Stop Go.Stop Go.Extern
set_option linter.unusedVariables false
namespace Is
theorem typeOf_err (v : Value) (w : World) : (Extern.ReflectliteType.typeOf #[.iface 168 v]).run Tryz.prog w = .ok (.iface 125 (.agg #[.pointer (some ⟨5, 168, none⟩)])) w := by kernel_rfl
/-- what the model does at the method -/
def cmpM : Array Value → Sem Value := Extern.ReflectliteType.method fun t => do Extern.Rtype.noPackHeld "Comparable" t; pure (.bool (← typeInfo t).comparable)
theorem comparable_err (w : World) : (cmpM #[.agg #[.pointer (some ⟨5, 168, none⟩)]]).run Tryz.prog w = .ok (.bool true) w := by kernel_rfl
theorem method_err (v : Value) (w : World) : (Go.method 304 125 v "Comparable").run Tryz.prog w = .ok (141, v) w := by kernel_rfl
theorem info_ptr : (Tryz.prog.info? 168).map (·.comparable) = some true := by kernel_rfl
theorem info_str : (Tryz.prog.info? 193).map (·.size) = some 1 := by kernel_rfl
theorem lacks_is (v : Value) (xT : TypeId) (w : World) : (Instr.typeAssert (.iface 168 v) xT 127 true).run Tryz.prog w = .ok (.tuple #[.nilIface, .bool false]) w := run_typeAssert_lacksB Tryz.underlying127 (by kernel_rfl) (by kernel_rfl) v xT w
theorem lacks_unwrap (v : Value) (xT : TypeId) (w : World) : (Instr.typeAssert (.iface 168 v) xT 130 true).run Tryz.prog w = .ok (.tuple #[.nilIface, .bool false]) w := run_typeAssert_lacksB Tryz.underlying130 (by kernel_rfl) (by kernel_rfl) v xT w
theorem lacks_unwraps (v : Value) (xT : TypeId) (w : World) : (Instr.typeAssert (.iface 168 v) xT 131 true).run Tryz.prog w = .ok (.tuple #[.nilIface, .bool false]) w := run_typeAssert_lacksB Tryz.underlying131 (by kernel_rfl) (by kernel_rfl) v xT w

/-- an error of errors.New's make -/
def ev (a : Addr) : Value := .iface 168 (.pointer (some a))

set_option maxHeartbeats 1000000 in
theorem is_same (a : Addr) (w : World) :
    Calls Tryz.prog 50 #[.iface 168 (.pointer (some a)), .iface 168 (.pointer (some a))] w fun e w' => e = .returned (.bool true) ∧ w' = w := by
  obtain ⟨i, hi, hcmp⟩ := Option.map_eq_some_iff.1 info_ptr
  obtain ⟨j, hj, hjs⟩ := Option.map_eq_some_iff.1 info_str
  have k1 := @run_callFunc_extern Tryz.prog 75 _ Extern.ReflectliteType.typeOf Tryz.func75 (by kernel_rfl) (by kernel_rfl) (by kernel_rfl) (by kernel_rfl)
  have k2 := @run_callFunc_extern Tryz.prog 141 _ cmpM Tryz.func141 (by kernel_rfl) (by kernel_rfl) (by kernel_rfl) (by kernel_rfl)
  have k3 := typeOf_err
  have k4 := comparable_err
  have k5 := method_err
  have k6 := run_eql_iface_ptr_same (P := Tryz.prog) w a Tryz.underlying50 Tryz.underlying168 hi hcmp hj
  go_enter Tryz.func50, Tryz.ntmps50
  go_wp2
  refine wp_loop_rounds 1 ?_
  rw [rounds_succ]
  go_wp2
  go_ret
  exact ⟨rfl, rfl⟩

set_option maxHeartbeats 1000000 in
theorem is_nil (b : Addr) (w : World) :
    Calls Tryz.prog 50 #[.nilIface, .iface 168 (.pointer (some b))] w fun e w' => e = .returned (.bool false) ∧ w' = w := by
  have k1 := run_eql_iface_nil_left (P := Tryz.prog) w 168 (.pointer (some b)) Tryz.underlying50
  go_enter Tryz.func50, Tryz.ntmps50
  go_wp2
  go_ret
  exact ⟨rfl, rfl⟩

set_option maxHeartbeats 1000000 in
theorem is_other (a b : Addr) (w : World) (hne : a ≠ b) (ha : ∃ ca ta, w.heap[a.block]? = some (.cells ca ta (0, 0))) (hb : ∃ cb tb, w.heap[b.block]? = some (.cells cb tb (0, 0))) :
    Calls Tryz.prog 50 #[.iface 168 (.pointer (some a)), .iface 168 (.pointer (some b))] w fun e w' => e = .returned (.bool false) ∧ w' = w := by
  obtain ⟨ca, ta, ha⟩ := ha
  obtain ⟨cb, tb, hb⟩ := hb
  obtain ⟨i, hi, hcmp⟩ := Option.map_eq_some_iff.1 info_ptr
  obtain ⟨j, hj, hjs⟩ := Option.map_eq_some_iff.1 info_str
  have k1 := @run_callFunc_extern Tryz.prog 75 _ Extern.ReflectliteType.typeOf Tryz.func75 (by kernel_rfl) (by kernel_rfl) (by kernel_rfl) (by kernel_rfl)
  have k2 := @run_callFunc_extern Tryz.prog 141 _ cmpM Tryz.func141 (by kernel_rfl) (by kernel_rfl) (by kernel_rfl) (by kernel_rfl)
  have k3 := typeOf_err
  have k4 := comparable_err
  have k5 := method_err
  have k7 := lacks_is
  have k8 := lacks_unwrap
  have k9 := lacks_unwraps
  have k6 := run_eql_iface_ptr_other (P := Tryz.prog) w Tryz.underlying50 Tryz.underlying168 hi hcmp hj (by rw [hjs]; decide) hne ha hb
  go_enter Tryz.func50, Tryz.ntmps50
  go_wp2
  refine wp_loop_rounds 1 ?_
  rw [rounds_succ]
  go_wp2
  go_ret
  exact ⟨rfl, rfl⟩

/-- the program's five errors lie in their variables, at five addresses -/
structure Errs (w : World) (a0 a1 a2 a3 a4 : Addr) : Prop where
  c0 : w.cell? ⟨0, 0, none⟩ = some (ev a0)
  c1 : w.cell? ⟨1, 0, none⟩ = some (ev a1)
  c2 : w.cell? ⟨2, 0, none⟩ = some (ev a2)
  c3 : w.cell? ⟨3, 0, none⟩ = some (ev a3)
  c4 : w.cell? ⟨4, 0, none⟩ = some (ev a4)
  r0 : ∃ c t, w.heap[a0.block]? = some (.cells c t (0, 0))
  r1 : ∃ c t, w.heap[a1.block]? = some (.cells c t (0, 0))
  r2 : ∃ c t, w.heap[a2.block]? = some (.cells c t (0, 0))
  r3 : ∃ c t, w.heap[a3.block]? = some (.cells c t (0, 0))
  r4 : ∃ c t, w.heap[a4.block]? = some (.cells c t (0, 0))
  ne : [a0, a1, a2, a3, a4].Pairwise (· ≠ ·)

theorem row_below {w w' : World} {a : Addr} (h : ∃ c t, w.heap[a.block]? = some (.cells c t (0, 0))) (hB : Below w.heap.size w w') : ∃ c t, w'.heap[a.block]? = some (.cells c t (0, 0)) := by
  obtain ⟨c, t, h⟩ := h
  exact ⟨c, t, by rw [hB.block a.block (Array.getElem?_eq_some_iff.1 h).1]; exact h⟩

theorem cell_below {w w' : World} {a : Addr} {v : Value} (h : w.cell? a = some v) (hB : Below w.heap.size w w') : w'.cell? a = some v :=
  (hB.cell (World.block_lt_of_cell? w a h)).trans h

theorem Errs.below {w w' : World} {a0 a1 a2 a3 a4 : Addr} (h : Errs w a0 a1 a2 a3 a4) (hB : Below w.heap.size w w') : Errs w' a0 a1 a2 a3 a4 :=
  ⟨cell_below h.c0 hB, cell_below h.c1 hB, cell_below h.c2 hB, cell_below h.c3 hB, cell_below h.c4 hB, row_below h.r0 hB, row_below h.r1 hB, row_below h.r2 hB, row_below h.r3 hB, row_below h.r4 hB, h.ne⟩

/-- an error by its number: 0 none, 1 to 5 the five -/
def er (a0 a1 a2 a3 a4 : Addr) : Nat → Value
  | 0 => .nilIface
  | 1 => .iface 168 (.pointer (some a0))
  | 2 => .iface 168 (.pointer (some a1))
  | 3 => .iface 168 (.pointer (some a2))
  | 4 => .iface 168 (.pointer (some a3))
  | _ => .iface 168 (.pointer (some a4))
/-- its code -/
def cd : Nat → Int
  | 0 => 0
  | 1 => 2
  | 2 => 1
  | 3 => 6
  | 4 => 8
  | _ => 9

set_option maxHeartbeats 2000000 in
theorem code_any (n : Nat) (a0 a1 a2 a3 a4 : Addr) (w : World) (h : Errs w a0 a1 a2 a3 a4) :
    Calls Tryz.prog 25 #[er a0 a1 a2 a3 a4 n] w fun e w' => e = .returned (.int .i64 (cd n)) ∧ w' = w := by
  have g0 := h.c0
  have g1 := h.c1
  have g2 := h.c2
  have g3 := h.c3
  have g4 := h.c4
  unfold ev at g0 g1 g2 g3 g4
  have hne := h.ne
  simp only [List.pairwise_cons, List.mem_cons, List.not_mem_nil, or_false, forall_eq_or_imp, forall_eq, List.Pairwise.nil, and_true, false_implies, implies_true] at hne
  obtain ⟨⟨n01, n02, n03, n04⟩, ⟨n12, n13, n14⟩, ⟨n23, n24⟩, n34⟩ := hne
  have HN : Hid (a1 ≠ a0 ∧ a2 ≠ a0 ∧ a2 ≠ a1 ∧ a3 ≠ a0 ∧ a3 ≠ a1 ∧ a3 ≠ a2 ∧ a4 ≠ a0 ∧ a4 ≠ a1 ∧ a4 ≠ a2 ∧ a4 ≠ a3) := ⟨n01.symm, n02.symm, n12.symm, n03.symm, n13.symm, n23.symm, n04.symm, n14.symm, n24.symm, n34.symm⟩
  clear n01 n02 n03 n04 n12 n13 n14 n23 n24 n34
  match n with
  | 0 =>
    unfold er cd
    go_enter Tryz.func25, Tryz.ntmps25
    go_wp2_with fail
    refine (is_nil a0 _).mono ?_
    rintro e w' ⟨rfl, rfl⟩
    go_wp2_with fail
    refine (is_nil a1 _).mono ?_
    rintro e w' ⟨rfl, rfl⟩
    go_wp2_with fail
    refine (is_nil a2 _).mono ?_
    rintro e w' ⟨rfl, rfl⟩
    go_wp2_with fail
    refine (is_nil a3 _).mono ?_
    rintro e w' ⟨rfl, rfl⟩
    go_wp2_with fail
    refine (is_nil a4 _).mono ?_
    rintro e w' ⟨rfl, rfl⟩
    go_wp2_with fail
    go_ret
    exact ⟨rfl, rfl⟩
  | 1 =>
    unfold er cd
    go_enter Tryz.func25, Tryz.ntmps25
    go_wp2_with fail
    refine (is_same a0 _).mono ?_
    rintro e w' ⟨rfl, rfl⟩
    go_wp2_with fail
    go_ret
    exact ⟨rfl, rfl⟩
  | 2 =>
    unfold er cd
    go_enter Tryz.func25, Tryz.ntmps25
    go_wp2_with fail
    refine (is_other a1 a0 _ HN.out.1 h.r1 h.r0).mono ?_
    rintro e w' ⟨rfl, rfl⟩
    go_wp2_with fail
    refine (is_same a1 _).mono ?_
    rintro e w' ⟨rfl, rfl⟩
    go_wp2_with fail
    go_ret
    exact ⟨rfl, rfl⟩
  | 3 =>
    unfold er cd
    go_enter Tryz.func25, Tryz.ntmps25
    go_wp2_with fail
    refine (is_other a2 a0 _ HN.out.2.1 h.r2 h.r0).mono ?_
    rintro e w' ⟨rfl, rfl⟩
    go_wp2_with fail
    refine (is_other a2 a1 _ HN.out.2.2.1 h.r2 h.r1).mono ?_
    rintro e w' ⟨rfl, rfl⟩
    go_wp2_with fail
    refine (is_same a2 _).mono ?_
    rintro e w' ⟨rfl, rfl⟩
    go_wp2_with fail
    go_ret
    exact ⟨rfl, rfl⟩
  | 4 =>
    unfold er cd
    go_enter Tryz.func25, Tryz.ntmps25
    go_wp2_with fail
    refine (is_other a3 a0 _ HN.out.2.2.2.1 h.r3 h.r0).mono ?_
    rintro e w' ⟨rfl, rfl⟩
    go_wp2_with fail
    refine (is_other a3 a1 _ HN.out.2.2.2.2.1 h.r3 h.r1).mono ?_
    rintro e w' ⟨rfl, rfl⟩
    go_wp2_with fail
    refine (is_other a3 a2 _ HN.out.2.2.2.2.2.1 h.r3 h.r2).mono ?_
    rintro e w' ⟨rfl, rfl⟩
    go_wp2_with fail
    refine (is_same a3 _).mono ?_
    rintro e w' ⟨rfl, rfl⟩
    go_wp2_with fail
    go_ret
    exact ⟨rfl, rfl⟩
  | (k + 5) =>
    unfold er cd
    go_enter Tryz.func25, Tryz.ntmps25
    go_wp2_with fail
    refine (is_other a4 a0 _ HN.out.2.2.2.2.2.2.1 h.r4 h.r0).mono ?_
    rintro e w' ⟨rfl, rfl⟩
    go_wp2_with fail
    refine (is_other a4 a1 _ HN.out.2.2.2.2.2.2.2.1 h.r4 h.r1).mono ?_
    rintro e w' ⟨rfl, rfl⟩
    go_wp2_with fail
    refine (is_other a4 a2 _ HN.out.2.2.2.2.2.2.2.2.1 h.r4 h.r2).mono ?_
    rintro e w' ⟨rfl, rfl⟩
    go_wp2_with fail
    refine (is_other a4 a3 _ HN.out.2.2.2.2.2.2.2.2.2 h.r4 h.r3).mono ?_
    rintro e w' ⟨rfl, rfl⟩
    go_wp2_with fail
    refine (is_same a4 _).mono ?_
    rintro e w' ⟨rfl, rfl⟩
    go_wp2_with fail
    go_ret
    exact ⟨rfl, rfl⟩
end Is
end Go.Proofs.YtojdfdlbdpdlkaaGreatDoor

namespace Go.Proofs.YtojdfdlbdpdlkaaGreatDoor
namespace Nm
/-- a small letter -/
def low (c : Int) : Bool := decide (97 ≤ c ∧ c ≤ 122)
/-- a byte of a name behind its first -/
def nb (c : Int) : Bool := decide ((97 ≤ c ∧ c ≤ 122) ∨ (48 ≤ c ∧ c ≤ 57) ∨ c = 95)
/-- the byte at a place of a text, as a number -/
def at_ (s : ByteArray) (k : Nat) : Int := ((s.data.toList.getD k 0).toNat : Int)
/-- the text is a name -/
def nameB (s : ByteArray) : Bool := decide (1 ≤ s.size ∧ s.size ≤ 20) && low (at_ s 0) && (List.range s.size).all fun k => k == 0 || nb (at_ s k)

theorem at_get (s : ByteArray) (k : Nat) (h : k < s.size) : at_ s k = (s[k].toNat : Int) := by
  have h' : k < s.data.toList.length := by simpa using h
  unfold at_
  rw [List.getD_eq_getElem?_getD, List.getElem?_eq_getElem h']
  rfl

theorem name_short (s : ByteArray) (h : s.size < 1 ∨ 20 < s.size) : nameB s = false := by
  unfold nameB
  have : ¬ (1 ≤ s.size ∧ s.size ≤ 20) := by omega
  simp [this]

theorem name_first (s : ByteArray) (h : low (at_ s 0) = false) : nameB s = false := by
  unfold nameB; simp [h]

theorem name_later (s : ByteArray) (k : Nat) (hk : k < s.size) (h0 : k ≠ 0) (h : nb (at_ s k) = false) : nameB s = false := by
  unfold nameB
  have : ((List.range s.size).all fun k => k == 0 || nb (at_ s k)) = false := by
    rw [List.all_eq_false]
    exact ⟨k, by simpa using hk, by simp [h0, h]⟩
  simp [this]

theorem name_yes (s : ByteArray) (h1 : 1 ≤ s.size) (h2 : s.size ≤ 20) (h3 : low (at_ s 0) = true) (h : ∀ k, k < s.size → k ≠ 0 → nb (at_ s k) = true) : nameB s = true := by
  unfold nameB
  have : ((List.range s.size).all fun k => k == 0 || nb (at_ s k)) = true := by
    rw [List.all_eq_true]
    intro k hk
    have hk' : k < s.size := by simpa using hk
    by_cases h0 : k = 0
    · simp [h0]
    · simp [h k hk' h0]
  simp [this, h1, h2, h3]
end Nm
end Go.Proofs.YtojdfdlbdpdlkaaGreatDoor

namespace Go.Proofs.YtojdfdlbdpdlkaaGreatDoor
namespace Fk
/-- a file by itself is right -/
def fok (a b : ByteArray) (s : Int) : Bool := Nm.nameB a && (decide (b.size ≤ 3000) && (decide (0 ≤ s) && decide (s ≤ b.size)))
/-- the file at a place is right, and its name is greater than the one ahead of it -/
def step (L : List Fl) (k : Nat) : Bool := fok (nm L k) (dt L k) (sy L k) && (k == 0 || Op.bytesLess (nm L (k - 1)).toList (nm L k).toList)
/-- the list is right -/
def right (L : List Fl) : Bool := decide (L.length ≤ 12) && (List.range L.length).all (step L)

theorem right_long (L : List Fl) (h : 12 < L.length) : right L = false := by
  unfold right
  have : ¬ L.length ≤ 12 := by omega
  simp [this]

theorem right_at (L : List Fl) (k : Nat) (hk : k < L.length) (h : step L k = false) : right L = false := by
  unfold right
  have : ((List.range L.length).all (step L)) = false := by
    rw [List.all_eq_false]
    exact ⟨k, by simpa using hk, by simp [h]⟩
  simp [this]

theorem right_yes (L : List Fl) (hl : L.length ≤ 12) (h : ∀ k, k < L.length → step L k = true) : right L = true := by
  unfold right
  have : ((List.range L.length).all (step L)) = true := by
    rw [List.all_eq_true]
    intro k hk
    exact h k (by simpa using hk)
  simp [this, hl]

theorem right_inv (L : List Fl) (h : right L = true) : L.length ≤ 12 ∧ ∀ k, k < L.length → step L k = true := by
  unfold right at h
  simp only [Bool.and_eq_true, decide_eq_true_eq, List.all_eq_true] at h
  exact ⟨h.1, fun k hk => h.2 k (by simpa using hk)⟩

theorem fok_inv {a b : ByteArray} {s : Int} (h : fok a b s = true) : Nm.nameB a = true ∧ b.size ≤ 3000 ∧ 0 ≤ s ∧ s ≤ b.size := by
  simpa [fok] using h

theorem fok_name {a b : ByteArray} {s : Int} (h : Nm.nameB a = false) : fok a b s = false := by simp [fok, h]
theorem fok_long {a b : ByteArray} {s : Int} (h : (3000 : Int) < (b.size : Int)) : fok a b s = false := by
  have e : ¬ b.size ≤ 3000 := by omega
  simp [fok, e]
theorem fok_sync {a b : ByteArray} {s : Int} (h : ¬ (0 ≤ s ∧ s ≤ b.size)) : fok a b s = false := by
  have e : (decide (0 ≤ s) && decide (s ≤ (b.size : Int))) = false := by rw [← Bool.decide_and, decide_eq_false_iff_not]; exact h
  simp [fok, e]
theorem fok_yes {a b : ByteArray} {s : Int} (hn : Nm.nameB a = true) (hd : ¬ (3000 : Int) < (b.size : Int)) (hi : 0 ≤ s ∧ s ≤ b.size) : fok a b s = true := by
  have e : b.size ≤ 3000 := by omega
  simp [fok, hn, e, hi.1, hi.2]
theorem step_first (L : List Fl) (h : fok (nm L 0) (dt L 0) (sy L 0) = true) : step L 0 = true := by simp [step, h]
theorem step_later (L : List Fl) (k : Nat) (h : fok (nm L k) (dt L k) (sy L k) = true) (hl : Op.bytesLess (nm L (k - 1)).toList (nm L k).toList = true) : step L k = true := by simp [step, h, hl]
theorem step_ill (L : List Fl) (k : Nat) (h : fok (nm L k) (dt L k) (sy L k) = false) : step L k = false := by simp [step, h]
theorem step_down (L : List Fl) (k : Nat) (h0 : k ≠ 0) (hl : Op.bytesLess (nm L (k - 1)).toList (nm L k).toList = false) : step L k = false := by simp [step, h0, hl]
end Fk
end Go.Proofs.YtojdfdlbdpdlkaaGreatDoor
