/- Proved: for every list of files and every name the exact law of FsRead returns true: impl.FsRead answers as the specification's FsRead, writes into no argument, and the arguments read as before. The program's five errors are laid as its text lays them (the card ties that). -/
import Derived.Test.YtmemlfpmmkdhmaaDoorRows
import Derived.Test.YtmemlfpmmkdhmaaDoorTie
import Derived.Test.YtmemlfpmmkdhmaaDoorCards
import Derived.Test.YtmemlfpmmkdhmaaDoorFsSz
import Derived.Test.YtmemlfpmmkdhmaaDoorFsTo
import Derived.Test.YtmemlfpmmkdhmaaDoorFsEq
import Derived.Test.YtmemlfpmmkdhmaaDoorFsReadWalks
import Derived.WalkKit
import Derived.ProofKit
import Derived.OpenShut
import Derived.ShutString
import Derived.Below
import Derived.OpenVars
import Derived.Stop.LaidTwo
import Derived.SevenTiedAt
import Derived.Handed
import Derived.ChangeSame
import Derived.ChangeVars
import Derived.JoinedOf
import Derived.LaidLaws
import Derived.LaidHandle
import Derived.Stop.Joined
namespace Go.Proofs.YtmemlfpmmkdhmaaDoor.fnExactFsRead
open Go.ChangeShapes Go.WideShapes Go.ChangeAt Go.RowKit
open Go.ChangeMaps (open_string shut_string)
set_option linter.unusedVariables false

theorem own : ownKnob Tryd.prog.godebug = none := by kernel_rfl
theorem laidOut : laidOutB Tryd.prog = true := by kernel_rfl
theorem g0 : Tryd.prog.globalNamed "loop.example/g00446/impl.errTooLong" = some 0 := by kernel_rfl
theorem g0t : (Tryd.prog.globals[0]?).map (·.type) = some 45 := by kernel_rfl
theorem g1 : Tryd.prog.globalNamed "loop.example/g00446/impl.errNotRight" = some 1 := by kernel_rfl
theorem g1t : (Tryd.prog.globals[1]?).map (·.type) = some 45 := by kernel_rfl
theorem g2 : Tryd.prog.globalNamed "loop.example/g00446/impl.errNoFile" = some 2 := by kernel_rfl
theorem g2t : (Tryd.prog.globals[2]?).map (·.type) = some 45 := by kernel_rfl
theorem g3 : Tryd.prog.globalNamed "loop.example/g00446/impl.errOutside" = some 3 := by kernel_rfl
theorem g3t : (Tryd.prog.globals[3]?).map (·.type) = some 45 := by kernel_rfl
theorem g4 : Tryd.prog.globalNamed "loop.example/g00446/impl.errNoRoom" = some 4 := by kernel_rfl
theorem g4t : (Tryd.prog.globals[4]?).map (·.type) = some 45 := by kernel_rfl
theorem star : "*" ++ "errors.errorString" = "*errors.errorString" := by decide
theorem row1 (u : TypeId) (h : Tryd.prog.typeName? 3 u = some "*errors.errorString") : u = 83 :=
  typeName_ptr_named (nm := "errors.errorString") (by rw [star]; kernel_rfl) (by kernel_rfl) (by decide) u (by rw [star]; exact h)

set_option maxHeartbeats 2000000 in
theorem walk (a0 : Value) (L0 : List Fk.Fl) (x0 : Fk.Fits L0) (n0 : L0.length ≤ maxLen) (a1 : ByteArray) (w1 : a1.size ≤ maxLen) (w : World) (g0 : Fk.View w a0 L0) (b0 b1 b2 b3 b4 : Addr) (hE : Is.Errs w b0 b1 b2 b3 b4) :
    Calls Tryd.prog 3 #[.agg #[a0], .string a1] w fun e w' => e = .returned (.bool true) ∧ Below w.heap.size w w' := by
  have hal := w1
  unfold maxLen at hal
  by_cases hbig : (1048576 : Int) < (a1.size : Int)
  · obtain ⟨a, cap, rfl, _⟩ := g0
    go_enter Tryd.func3, Tryd.ntmps3
    go_wp2_with fail
    go_ret
    exact ⟨rfl, (Below.refl _ _).alloc (Nat.le_refl _) _⟩
  have B0 : Below w.heap.size w (w.alloc (.cells #[a0] 24)) := (Below.refl _ _).alloc (Nat.le_refl _) _
  have hcell : (w.alloc (.cells #[a0] 24)).cell? ⟨w.heap.size, 0, none⟩ = some a0 := by rw [Fk.cellTop _ _ _ _ _ rfl]; rfl
  have hsz : w.heap.size < (w.alloc (.cells #[a0] 24)).heap.size := by simp
  obtain ⟨W, hW⟩ : ∃ W, W = w.alloc (.cells #[a0] 24) := ⟨_, rfl⟩
  have v0 := g0.below B0
  have E0 := hE.below B0
  rw [← hW] at B0 v0 hcell hsz E0
  have HW := Fk.hide hW
  clear hW hE
  obtain ⟨a, cap, rfl, _⟩ := g0
  go_enter Tryd.func3, Tryd.ntmps3
  go_wp2_with fail
  rw [← HW.out]
  refine (szFs_any _ _ _ _ v0 x0 n0 (by decide) (by decide)).mono ?_
  rintro e W1 ⟨⟨r, rfl, hr⟩, k1⟩
  have v1 := v0.below k1
  have E1 := Fk.hide (E0.below k1)
  have c1 : W1.cell? ⟨w.heap.size, 0, none⟩ = some (.slice a L0.length cap) := (k1.cell (by exact hsz)).trans hcell
  have HB1 : Hid (Below w.heap.size w W1) := B0.trans (k1.mono B0.size)
  have hsz1 : w.heap.size < W1.heap.size := Nat.lt_of_lt_of_le hsz k1.size
  clear k1 v0 hcell E0
  rcases hr with rfl | ⟨hr0, hr⟩
  · go_wp2_with fail
    go_ret
    exact ⟨rfl, HB1.out⟩
  have hl : L0.length ≤ 1048576 := by omega
  clear hr
  go_wp2_with fail
  refine (toFs_any _ _ _ v1 hl).mono ?_
  rintro e W2 ⟨⟨u2, rfl, o2⟩, k2⟩
  obtain ⟨a2, j2, rfl⟩ := o2.slice
  have v2 := v1.below k2
  have E2 := Fk.hide (E1.out.below k2)
  have c2 : W2.cell? ⟨w.heap.size, 0, none⟩ = some (.slice a L0.length cap) := (k2.cell (by exact hsz1)).trans c1
  have HB2 : Hid (Below w.heap.size w W2) := HB1.out.trans (k2.mono HB1.out.size)
  have hsz2 : w.heap.size < W2.heap.size := Nat.lt_of_lt_of_le hsz1 k2.size
  clear k2 v1 c1 HB1 E1
  go_wp2_with fail
  refine (fsRead_spec _ _ _ _ o2.view x0 n0 w1).mono ?_
  rintro e W3 ⟨rfl, k3⟩
  obtain ⟨⟨t1, t2, t3⟩, HR⟩ : ∃ r, Hid (Fk.rdOf L0 a1 = r) := ⟨_, rfl⟩
  rw [HR.out, show textOut (t1, t2, t3) = .agg #[.string t1, .int .i64 t2, .int .i64 t3] from rfl]
  have v3 := v2.below k3
  have E3 := Fk.hide (E2.out.below k3)
  have c3 : W3.cell? ⟨w.heap.size, 0, none⟩ = some (.slice a L0.length cap) := (k3.cell (by exact hsz2)).trans c2
  have HB3 : Hid (Below w.heap.size w W3) := HB2.out.trans (k3.mono HB2.out.size)
  have hsz3 : w.heap.size < W3.heap.size := Nat.lt_of_lt_of_le hsz2 k3.size
  clear k3 v2 c2 o2 HB2 E2
  obtain ⟨W4, hW4⟩ : ∃ W4, W4 = W3.alloc (.cells #[.string t1, .int .i64 t2, .int .i64 t3] 27) := ⟨_, rfl⟩
  have k4 : Below W3.heap.size W3 W4 := by rw [hW4]; exact (Below.refl _ _).alloc (Nat.le_refl _) _
  have s40 : W4.cell? ⟨W3.heap.size, 0, none⟩ = some (.string t1) := by rw [hW4, Fk.cellTop _ _ _ _ _ rfl]; rfl
  have s41 : W4.cell? ⟨W3.heap.size, 1, none⟩ = some (.int .i64 t2) := by rw [hW4, Fk.cellTop _ _ _ _ _ rfl]; rfl
  have s42 : W4.cell? ⟨W3.heap.size, 2, none⟩ = some (.int .i64 t3) := by rw [hW4, Fk.cellTop _ _ _ _ _ rfl]; rfl
  have hsz4 : W3.heap.size < W4.heap.size := by rw [hW4]; simp
  have v4 := v3.below k4
  have E4 := Fk.hide (E3.out.below k4)
  have c4 : W4.cell? ⟨w.heap.size, 0, none⟩ = some (.slice a L0.length cap) := (k4.cell (by exact hsz3)).trans c3
  have HB4 : Hid (Below w.heap.size w W4) := HB3.out.trans (k4.mono HB3.out.size)
  have HW4 := Fk.hide hW4
  clear hW4 k4 v3 E3 HB3
  go_wp2_with fail
  rw [← HW4.out]
  clear c3
  refine (toFs_any _ _ _ v4 hl).mono ?_
  rintro e W5 ⟨⟨u5, rfl, o5⟩, k5⟩
  obtain ⟨a5, j5, rfl⟩ := o5.slice
  have v5 := v4.below k5
  have E5 := Fk.hide (E4.out.below k5)
  have c5 : W5.cell? ⟨w.heap.size, 0, none⟩ = some (.slice a L0.length cap) := (k5.cell (by show w.heap.size < _; omega)).trans c4
  have s50 : W5.cell? ⟨W3.heap.size, 0, none⟩ = some (.string t1) := (k5.cell (by exact hsz4)).trans s40
  have s51 : W5.cell? ⟨W3.heap.size, 1, none⟩ = some (.int .i64 t2) := (k5.cell (by exact hsz4)).trans s41
  have s52 : W5.cell? ⟨W3.heap.size, 2, none⟩ = some (.int .i64 t3) := (k5.cell (by exact hsz4)).trans s42
  have HB5 : Hid (Below w.heap.size w W5) := HB4.out.trans (k5.mono HB4.out.size)
  have hsz5 : W3.heap.size < W5.heap.size := Nat.lt_of_lt_of_le hsz4 k5.size
  clear k5 v4 E4 c4 s40 s41 s42 HB4
  obtain ⟨W6, hW6⟩ : ∃ W6, W6 = W5.alloc (.cells #[.slice a5 L0.length j5] 31) := ⟨_, rfl⟩
  have k6 : Below W5.heap.size W5 W6 := by rw [hW6]; exact (Below.refl _ _).alloc (Nat.le_refl _) _
  have d6 : W6.cell? ⟨W5.heap.size, 0, none⟩ = some (.slice a5 L0.length j5) := by rw [hW6, Fk.cellTop _ _ _ _ _ rfl]; rfl
  have hsz6 : W5.heap.size < W6.heap.size := by rw [hW6]; simp
  have v6 := v5.below k6
  have o6 := o5.below k6
  have E6 := Fk.hide (E5.out.below k6)
  have c6 : W6.cell? ⟨w.heap.size, 0, none⟩ = some (.slice a L0.length cap) := (k6.cell (by show w.heap.size < _; omega)).trans c5
  have s60 : W6.cell? ⟨W3.heap.size, 0, none⟩ = some (.string t1) := (k6.cell (by exact hsz5)).trans s50
  have s61 : W6.cell? ⟨W3.heap.size, 1, none⟩ = some (.int .i64 t2) := (k6.cell (by exact hsz5)).trans s51
  have s62 : W6.cell? ⟨W3.heap.size, 2, none⟩ = some (.int .i64 t3) := (k6.cell (by exact hsz5)).trans s52
  have HB6 : Hid (Below w.heap.size w W6) := HB5.out.trans (k6.mono HB5.out.size)
  have HW6 := Fk.hide hW6
  clear hW6 k6 v5 o5 E5 HB5
  go_wp2_with fail
  rw [← HW6.out]
  clear c5 s50 s51 s52
  refine (fsRead_impl _ _ _ b0 b1 b2 b3 b4 _ o6.view x0 n0 w1 E6.out).mono ?_
  rintro e W7 ⟨rfl, k7⟩
  rw [HR.out, show textOut (t1, t2, t3) = .agg #[.string t1, .int .i64 t2, .int .i64 t3] from rfl]
  have v7 := v6.below k7
  have o7 := o6.below k7
  have c7 : W7.cell? ⟨w.heap.size, 0, none⟩ = some (.slice a L0.length cap) := (k7.cell (by show w.heap.size < _; omega)).trans c6
  have d7 : W7.cell? ⟨W5.heap.size, 0, none⟩ = some (.slice a5 L0.length j5) := (k7.cell (by exact hsz6)).trans d6
  have s70 : W7.cell? ⟨W3.heap.size, 0, none⟩ = some (.string t1) := (k7.cell (by show W3.heap.size < _; omega)).trans s60
  have s71 : W7.cell? ⟨W3.heap.size, 1, none⟩ = some (.int .i64 t2) := (k7.cell (by show W3.heap.size < _; omega)).trans s61
  have s72 : W7.cell? ⟨W3.heap.size, 2, none⟩ = some (.int .i64 t3) := (k7.cell (by show W3.heap.size < _; omega)).trans s62
  have HB7 : Hid (Below w.heap.size w W7) := HB6.out.trans (k7.mono HB6.out.size)
  have hsz7 : W6.heap.size ≤ W7.heap.size := k7.size
  clear k7 v6 o6 E6 c6 d6 s60 s61 s62 HB6
  obtain ⟨W8, hW8⟩ : ∃ W8, W8 = W7.alloc (.cells #[.string t1, .int .i64 t2, .int .i64 t3] 27) := ⟨_, rfl⟩
  have k8 : Below W7.heap.size W7 W8 := by rw [hW8]; exact (Below.refl _ _).alloc (Nat.le_refl _) _
  have v8 := v7.below k8
  have o8 := o7.below k8
  have c8 : W8.cell? ⟨w.heap.size, 0, none⟩ = some (.slice a L0.length cap) := (k8.cell (by show w.heap.size < _; omega)).trans c7
  have d8 : W8.cell? ⟨W5.heap.size, 0, none⟩ = some (.slice a5 L0.length j5) := (k8.cell (by show W5.heap.size < _; omega)).trans d7
  have HB8 : Hid (Below w.heap.size w W8) := HB7.out.trans (k8.mono HB7.out.size)
  have hsz8 : W7.heap.size ≤ W8.heap.size := k8.size
  have t80 : (W7.alloc (.cells #[.string t1, .int .i64 t2, .int .i64 t3] 27)).cell? ⟨W3.heap.size, 0, none⟩ = some (.string t1) := by rw [Fk.cellOld _ _ _ _ (by omega)]; exact s70
  have t81 : (W7.alloc (.cells #[.string t1, .int .i64 t2, .int .i64 t3] 27)).cell? ⟨W3.heap.size, 1, none⟩ = some (.int .i64 t2) := by rw [Fk.cellOld _ _ _ _ (by omega)]; exact s71
  have t82 : (W7.alloc (.cells #[.string t1, .int .i64 t2, .int .i64 t3] 27)).cell? ⟨W3.heap.size, 2, none⟩ = some (.int .i64 t3) := by rw [Fk.cellOld _ _ _ _ (by omega)]; exact s72
  have HW8 := Fk.hide hW8
  clear hW8 k8 v7 o7 HB7
  go_wp2_with fail
  rw [← HW8.out]
  clear c7 d7 s70 s71 s72 t80 t81 t82
  refine (eqTextOut_same (t1, t2, t3) _).mono ?_
  rintro e W9 ⟨rfl, k9⟩
  have v9 := v8.below k9
  have o9 := o8.below k9
  have c9 : W9.cell? ⟨w.heap.size, 0, none⟩ = some (.slice a L0.length cap) := (k9.cell (by show w.heap.size < _; omega)).trans c8
  have d9 : W9.cell? ⟨W5.heap.size, 0, none⟩ = some (.slice a5 L0.length j5) := (k9.cell (by show W5.heap.size < _; omega)).trans d8
  have HB9 : Hid (Below w.heap.size w W9) := HB8.out.trans (k9.mono HB8.out.size)
  have hsz9 : W8.heap.size ≤ W9.heap.size := k9.size
  clear k9 v8 o8 c8 d8 HB8
  go_wp2_with fail
  have vd : Fk.View W9.drew (.slice a L0.length cap) L0 := v9.below (Below.drew (Below.refl _ _))
  have od := o9.below (Below.drew (Below.refl W9.heap.size W9))
  go_region_with (first
    | (go_at_call 6; refine (toFs_any _ _ _ vd hl).mono ?_; rintro e X1 ⟨⟨ux, rfl, ox⟩, m1⟩; obtain ⟨ax, jx, rfl⟩ := ox.slice; have dx : X1.cell? ⟨W5.heap.size, 0, none⟩ = some (.slice a5 L0.length j5) := (m1.cell (by show W5.heap.size < W9.heap.size; omega)).trans d9)
    | (go_at_call 9; refine (eqFs_same _ _ L0 _ (od.below m1).view ox.view hl).mono ?_; rintro e X2 ⟨rfl, m2⟩))
  all_goals
    have HX1 : Hid (Below w.heap.size w X1) := HB9.out.trans ((Below.trans (Below.drew (Below.refl _ _)) m1).mono HB9.out.size)
    have HX2 : Hid (Below w.heap.size w X2) := HX1.out.trans (m2.mono HX1.out.size)
    clear m1 m2
    go_wp2_with fail
    go_ret
    exact ⟨rfl, HX2.out⟩

theorem ne_text {W : World} {a b : Addr} {s t : ByteArray} {x y : List UInt8} (h1 : W.cell? a = some (.string s)) (h2 : W.cell? b = some (.string t)) (e1 : s.data.toList = x) (e2 : t.data.toList = y) (hne : x ≠ y) : a ≠ b := by
  rintro rfl
  rw [h1] at h2
  simp only [Option.some.injEq, Value.string.injEq] at h2
  subst h2
  exact hne (e1.symm.trans e2)

/-- what the condition gives the walk: the five errors -/
theorem errs_of_laid {W : World} (h : laidMetH Tryd.prog Rows.fnExactFsReadRow.laid W) : ∃ b0 b1 b2 b3 b4, Is.Errs W b0 b1 b2 b3 b4 := by
  have h0 : laidMet Tryd.prog Rows.fnExactFsReadRow.laid W := h
  obtain ⟨q0, q1, s0, s1, _, _, _, _, hv0, hv1, hc0, hs0, _, hc1, hs1, _, _, hb0, hb1⟩ := laid_sentinels2 h0 g0 g0t g1 g1t Tryd.underlying45 row1 Tryd.underlying83 Tryd.underlying110 rfl rfl Tryd.underlying9 (by kernel_rfl) (by kernel_rfl)
  obtain ⟨q2, q3, s2, s3, _, _, _, _, hv2, hv3, hc2, hs2, _, hc3, hs3, _, _, hb2, hb3⟩ := laid_sentinels2 h0.tail.tail g2 g2t g3 g3t Tryd.underlying45 row1 Tryd.underlying83 Tryd.underlying110 rfl rfl Tryd.underlying9 (by kernel_rfl) (by kernel_rfl)
  obtain ⟨_, q4, _, s4, _, _, _, _, _, hv4, _, _, _, hc4, hs4, _, _, _, hb4⟩ := laid_sentinels2 h0.tail.tail.tail g3 g3t g4 g4t Tryd.underlying45 row1 Tryd.underlying83 Tryd.underlying110 rfl rfl Tryd.underlying9 (by kernel_rfl) (by kernel_rfl)
  refine ⟨q0, q1, q2, q3, q4, ?_, ?_, ?_, ?_, ?_, ⟨_, _, hb0⟩, ⟨_, _, hb1⟩, ⟨_, _, hb2⟩, ⟨_, _, hb3⟩, ⟨_, _, hb4⟩, ?_⟩
  · simpa [Is.ev] using World.var?_cell g0 hv0 0
  · simpa [Is.ev] using World.var?_cell g1 hv1 0
  · simpa [Is.ev] using World.var?_cell g2 hv2 0
  · simpa [Is.ev] using World.var?_cell g3 hv3 0
  · simpa [Is.ev] using World.var?_cell g4 hv4 0
  · simp only [List.pairwise_cons, List.mem_cons, List.not_mem_nil, or_false, forall_eq_or_imp, forall_eq, List.Pairwise.nil, and_true, false_implies, implies_true]
    exact ⟨⟨ne_text hc0 hc1 hs0 hs1 (by decide), ne_text hc0 hc2 hs0 hs2 (by decide), ne_text hc0 hc3 hs0 hs3 (by decide), ne_text hc0 hc4 hs0 hs4 (by decide)⟩,
      ⟨ne_text hc1 hc2 hs1 hs2 (by decide), ne_text hc1 hc3 hs1 hs3 (by decide), ne_text hc1 hc4 hs1 hs4 (by decide)⟩,
      ⟨ne_text hc2 hc3 hs2 hs3 (by decide), ne_text hc2 hc4 hs2 hs4 (by decide)⟩, ne_text hc3 hc4 hs3 hs4 (by decide)⟩

theorem vars_len {H : Type} {enc : TypeId × Value → H} {P : Program} {w : World} {sp : Nat → Bool} : ∀ {ns : List String} {gs : List (DataW H)} {ps : List MemPlace}, DataW.TrodVars enc P w sp ns gs ps → gs.length = ns.length
  | [], [], _, _ => rfl
  | [], _ :: _, _, h => h.elim
  | _ :: _, [], _, h => h.elim
  | _ :: _, _ :: _, _, h => by
    obtain ⟨_, _, _, _, _, _, _, _, _, _, hr, _⟩ := h
    simp [vars_len hr]

set_option maxRecDepth 100000 in
theorem lifted (os : Os) (started : os.Started) (H : Type) (enc : TypeId × Value → H) :
    ReturnsInHanded {} Tryd.checked os 3 .any (fun w args => (Rows.fnExactFsReadSpec.pre enc Tryd.prog Tryd.f3 [] false w args ∧ laidMetH Tryd.prog Rows.fnExactFsReadRow.laid w) ∧ sizedMet enc Tryd.prog Tryd.f3 (OpenSpec.ofChange Rows.fnExactFsReadSpec) false w args)
      (Rows.fnExactFsReadSpec.post enc Tryd.prog Tryd.f3 false true false false) := by
  refine returnsInHanded_of_change_and (C := Tryd.checked) (X := fun w _ => laidMetH Tryd.prog Rows.fnExactFsReadRow.laid w) (fun _ _ _ hh h => h.of_heap hh) own started (by kernel_rfl) Tryd.func3
    (ChangeSpec.witness_at (enc := enc) (C := Tryd.checked) (os := os) (X := fun w _ => laidMetH Tryd.prog Rows.fnExactFsReadRow.laid w) false
      { World.holding Tryd.prog os ⟨#[.cells #[.string { data := #[97, 32, 116, 101, 120, 116, 32, 105, 115, 32, 116, 111, 111, 32, 108, 111, 110, 103] }] 110, .cells #[.string { data := #[116, 104, 101, 32, 102, 105, 108, 101, 115, 32, 111, 114, 32, 97, 32, 110, 97, 109, 101, 32, 97, 114, 101, 32, 110, 111, 116, 32, 114, 105, 103, 104, 116] }] 110, .cells #[.string { data := #[116, 104, 101, 114, 101, 32, 105, 115, 32, 110, 111, 32, 102, 105, 108, 101, 32, 111, 102, 32, 116, 104, 97, 116, 32, 110, 97, 109, 101] }] 110, .cells #[.string { data := #[116, 104, 101, 32, 102, 105, 108, 101, 32, 100, 111, 101, 115, 32, 110, 111, 116, 32, 104, 97, 118, 101, 32, 116, 104, 97, 116, 32, 115, 105, 122, 101] }] 110, .cells #[.string { data := #[116, 104, 101, 114, 101, 32, 105, 115, 32, 110, 111, 32, 114, 111, 111, 109, 32, 102, 111, 114, 32, 105, 116] }] 110], #[], []⟩ with heap := ((((((World.holding Tryd.prog os ⟨#[.cells #[.string { data := #[97, 32, 116, 101, 120, 116, 32, 105, 115, 32, 116, 111, 111, 32, 108, 111, 110, 103] }] 110, .cells #[.string { data := #[116, 104, 101, 32, 102, 105, 108, 101, 115, 32, 111, 114, 32, 97, 32, 110, 97, 109, 101, 32, 97, 114, 101, 32, 110, 111, 116, 32, 114, 105, 103, 104, 116] }] 110, .cells #[.string { data := #[116, 104, 101, 114, 101, 32, 105, 115, 32, 110, 111, 32, 102, 105, 108, 101, 32, 111, 102, 32, 116, 104, 97, 116, 32, 110, 97, 109, 101] }] 110, .cells #[.string { data := #[116, 104, 101, 32, 102, 105, 108, 101, 32, 100, 111, 101, 115, 32, 110, 111, 116, 32, 104, 97, 118, 101, 32, 116, 104, 97, 116, 32, 115, 105, 122, 101] }] 110, .cells #[.string { data := #[116, 104, 101, 114, 101, 32, 105, 115, 32, 110, 111, 32, 114, 111, 111, 109, 32, 102, 111, 114, 32, 105, 116] }] 110], #[], []⟩).heap.modify 0 fun
        | .cells _ t frozen => .cells #[.iface 83 (.pointer (some ⟨10, 0, none⟩))] t frozen
        | o => o).modify 1 fun
        | .cells _ t frozen => .cells #[.iface 83 (.pointer (some ⟨11, 0, none⟩))] t frozen
        | o => o).modify 2 fun
        | .cells _ t frozen => .cells #[.iface 83 (.pointer (some ⟨12, 0, none⟩))] t frozen
        | o => o).modify 3 fun
        | .cells _ t frozen => .cells #[.iface 83 (.pointer (some ⟨13, 0, none⟩))] t frozen
        | o => o).modify 4 fun
        | .cells _ t frozen => .cells #[.iface 83 (.pointer (some ⟨14, 0, none⟩))] t frozen
        | o => o) }
      #[.agg #[.slice none 0 0], .string ByteArray.empty] 8 rfl (by kernel_rfl) (by kernel_rfl) (by kernel_rfl) (by kernel_rfl) (by kernel_rfl)
      (show laidMet Tryd.prog Rows.fnExactFsReadRow.laid _ from laidMet_of_run (ps := [.cell 0 0, .cell 10 0, .cell 1 0, .cell 11 0, .cell 2 0, .cell 12 0, .cell 3 0, .cell 13 0, .cell 4 0, .cell 14 0]) 8 (by kernel_rfl) (by kernel_rfl) (by kernel_rfl))) ?_
  intro W base args ds gs before hval0 hW _ _ hL _
  have hval : ∀ (j : Nat) t v, Tryd.f3.params[j]? = some t → args[j]? = some v → Value.okWide Tryd.prog W .any base t v := hval0
  have hW' := hW
  obtain ⟨p, q, hA0, hV0, rfl, hfz, hnd⟩ := hW
  have hA : DataW.TrodAll enc Tryd.prog W 0 (fun _ => true) true Tryd.f3.params.toList args.toList ds p := hA0
  have hV : DataW.TrodVars enc Tryd.prog W (fun _ => true) ["loop.example/g00446/impl.errTooLong", "loop.example/g00446/impl.errNotRight", "loop.example/g00446/impl.errNoFile", "loop.example/g00446/impl.errOutside", "loop.example/g00446/impl.errNoRoom"] gs q := hV0
  rw [Tryd.params3] at hA hval
  obtain ⟨v0, vs0, d0, ds0, p0, q0, hargs, rfl, rfl, h0, r0⟩ := trodAll_cons hA
  obtain ⟨v1, vs1, d1, ds1, p1, q1, rfl, rfl, rfl, h1, r1⟩ := trodAll_cons r0
  obtain ⟨rfl, rfl, rfl⟩ := trodAll_nil r1
  obtain rfl : args = #[v0, v1] := by cases args; simp_all
  have hlt : ∀ x ∈ p0 ++ (p1 ++ ([])), x.block < W.heap.size := fun x hx => hW'.lt x (by rw [List.mem_append]; exact .inl (by simpa using hx))
  have k0 := h0
  obtain ⟨a0, L0, rfl, x0, n0, g0⟩ := Fk.open_fs Tryd.underlying24 (by kernel_rfl) rfl rfl (by kernel_rfl) Tryd.underlying22 Tryd.underlying54 (by kernel_rfl) rfl rfl rfl rfl rfl rfl (by kernel_rfl) (by kernel_rfl) Tryd.underlying9 Tryd.underlying2 (hval 0 24 v0 rfl rfl) h0
  have k1 := h1
  obtain ⟨a1, rfl, rfl, rfl, w1⟩ := open_string Tryd.underlying9 (hval 1 9 v1 rfl rfl) h1
  clear hA0 hval0
  obtain ⟨b0, b1, b2, b3, b4, hE⟩ := errs_of_laid hL
  have hlen := vars_len hV
  obtain ⟨y1, y2, y3, y4, y5, rfl⟩ : ∃ y1 y2 y3 y4 y5, gs = [y1, y2, y3, y4, y5] := by
    match gs, hlen with
    | [y1, y2, y3, y4, y5], _ => exact ⟨_, _, _, _, _, rfl⟩
  have e1 : Rows.fnExactFsReadSpec.fn H ([d0, .lit (.string a1.data.toList)] ++ [y1, y2, y3, y4, y5]) = { results := [.lit (.bool true)], args := [d0, .lit (.string a1.data.toList)], vars := [y1, y2, y3, y4, y5] } := by simp [Rows.fnExactFsReadSpec]
  refine (walk a0 L0 x0 n0 a1 w1 W g0 b0 b1 b2 b3 b4 hE).mono fun e W' ⟨he, bel⟩ => ?_
  subst he
  refine ⟨_, rfl, _, _, _, [], p0 ++ ([] ++ ([])), q, hW', ?_, ?_, ?_, bel.frame _, fun h => by cases h⟩
  · rw [e1]; exact trodAll_mk1 (shut_bool Tryd.underlying4 true)
  · rw [e1]; exact (trodAll_cons_mk (Below.trod laidOut (by kernel_rfl) (of_decide_eq_true (by kernel_rfl)) k0 bel (fun x hx => hlt x (by simp [hx]))) (trodAll_cons_mk (shut_string Tryd.underlying9 w1) trodAll_mk0))
  · rw [e1]; exact Below.trodVars laidOut bel (by kernel_rfl) hV

theorem over : Rows.FnExactFsReadSaid :=
  OpenClaim.holds_of_wide 3 Tryd.f3 rfl rfl rfl rfl rfl rfl rfl ⟨rfl, rfl, rfl, rfl, rfl⟩ rfl rfl rfl rfl rfl (by kernel_rfl) Tryd.func3 (by kernel_rfl)
    (of_decide_eq_true (by kernel_rfl)) (by unfold Func.isWrapper; rw [if_neg (of_decide_eq_false (by kernel_rfl))]; exact ⟨rfl, rfl⟩)
    (fun os started H enc _ => lifted os started H enc)

/-- the tied card -/
theorem proved : Rows.FnExactFsReadCardSaid :=
  Claim7.holds_tied_plain_at .later [] [.sentinel, .sentinel, .sentinel, .sentinel, .sentinel] true (true, "7ee41d1b39036c6d3333a3b20998ec43f2850097a4669b03a4d197092e3ace9f") true
    over (fun _ h => by cases h) (by kernel_rfl) (fun _ h => by cases h) fnExactFsRead_row_tie rfl ⟨rfl, rfl⟩ (by kernel_rfl) rfl
    (fun f fn hf hfn => by
      obtain rfl : f = 3 := Option.some.inj ((show Tryd.prog.funcNamed "loop.example/g00446/laws.FnExactFsRead" = some 3 by kernel_rfl).symm.trans hf) |>.symm
      obtain rfl : fn = Tryd.f3 := (Option.some.inj (Tryd.func3.symm.trans hfn)).symm
      exact ⟨by kernel_rfl, fun j t ht => by
        rw [Tryd.params3] at ht
        rcases j with _ | j
        · obtain rfl : t = 24 := by simpa using ht.symm
          exact (show Tryd.prog.wantsStandIn 24 = false by kernel_rfl)
        ·
          rcases j with _ | j
          · obtain rfl : t = 9 := by simpa using ht.symm
            exact (show Tryd.prog.wantsStandIn 9 = false by kernel_rfl)
          ·
            simp at ht
      ⟩)
    (by kernel_rfl)
#print axioms proved
end Go.Proofs.YtmemlfpmmkdhmaaDoor.fnExactFsRead
