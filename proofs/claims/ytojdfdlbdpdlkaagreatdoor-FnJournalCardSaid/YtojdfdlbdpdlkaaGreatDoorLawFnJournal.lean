/- Proved: for every two codes the law of promise 16 returns true: what is added to a drawn clean journal is the last one of it; a crash leaves the first ones; of one that was synced all; cleaned, it has just these. The five errors that the program names are laid as its text lays them (the card ties that). -/
import Derived.Test.YtojdfdlbdpdlkaaGreatDoorRows
import Derived.Test.YtojdfdlbdpdlkaaGreatDoorCards
import Derived.Test.YtojdfdlbdpdlkaaGreatDoorTie
import Derived.Test.YtojdfdlbdpdlkaaGreatDoorFnJournalWalk
import Derived.WalkKit
import Derived.ProofKit
import Derived.OpenShut
import Derived.ShutString
import Derived.Below
import Derived.OpenVars
import Derived.Stop.LaidTwo
import Derived.SevenTiedAt
import Derived.Handed
import Derived.ChangeSame
import Derived.ChangeVars
import Derived.JoinedOf
import Derived.LaidLaws
import Derived.LaidHandle
import Derived.Stop.Joined
namespace Go.Proofs.YtojdfdlbdpdlkaaGreatDoor.fnJournal
open Go.ChangeShapes Go.WideShapes Go.ChangeAt Go.RowKit
open Go.ChangeMaps (open_string shut_string)
set_option linter.unusedVariables false

theorem own : ownKnob Tryz.prog.godebug = none := by kernel_rfl
theorem laidOut : laidOutB Tryz.prog = true := by kernel_rfl
theorem g0 : Tryz.prog.globalNamed "loop.example/g00446/impl.errTooLong" = some 0 := by kernel_rfl
theorem g0t : (Tryz.prog.globals[0]?).map (·.type) = some 50 := by kernel_rfl
theorem g1 : Tryz.prog.globalNamed "loop.example/g00446/impl.errNotRight" = some 1 := by kernel_rfl
theorem g1t : (Tryz.prog.globals[1]?).map (·.type) = some 50 := by kernel_rfl
theorem g2 : Tryz.prog.globalNamed "loop.example/g00446/impl.errNoFile" = some 2 := by kernel_rfl
theorem g2t : (Tryz.prog.globals[2]?).map (·.type) = some 50 := by kernel_rfl
theorem g3 : Tryz.prog.globalNamed "loop.example/g00446/impl.errOutside" = some 3 := by kernel_rfl
theorem g3t : (Tryz.prog.globals[3]?).map (·.type) = some 50 := by kernel_rfl
theorem g4 : Tryz.prog.globalNamed "loop.example/g00446/impl.errNoRoom" = some 4 := by kernel_rfl
theorem g4t : (Tryz.prog.globals[4]?).map (·.type) = some 50 := by kernel_rfl
theorem star : "*" ++ "errors.errorString" = "*errors.errorString" := by decide
theorem row1 (u : TypeId) (h : Tryz.prog.typeName? 3 u = some "*errors.errorString") : u = 168 :=
  typeName_ptr_named (nm := "errors.errorString") (by rw [star]; kernel_rfl) (by kernel_rfl) (by decide) u (by rw [star]; exact h)

theorem walk (a0 : Option Addr) (n0 c0 : Nat) (m0 : n0 ≤ maxLen) (a1 : Option Addr) (n1 c1 : Nat) (m1 : n1 ≤ maxLen) (w : World) (g0 : Dk.Bytes w.heap.size w a0 n0) (g1 : Dk.Bytes w.heap.size w a1 n1) (b0 b1 b2 b3 b4 : Addr) (hE : Is.Errs w b0 b1 b2 b3 b4) :
    Calls Tryz.prog 3 #[.slice a0 n0 c0, .slice a1 n1 c1] w fun e w' => e = .returned (.bool true) ∧ Below w.heap.size w w' :=
  fnJournal_walk a0 n0 c0 m0 a1 n1 c1 m1 w g0 g1 b0 b1 b2 b3 b4 hE

theorem ne_text {W : World} {a b : Addr} {s t : ByteArray} {x y : List UInt8} (h1 : W.cell? a = some (.string s)) (h2 : W.cell? b = some (.string t)) (e1 : s.data.toList = x) (e2 : t.data.toList = y) (hne : x ≠ y) : a ≠ b := by
  rintro rfl
  rw [h1] at h2
  simp only [Option.some.injEq, Value.string.injEq] at h2
  subst h2
  exact hne (e1.symm.trans e2)

/-- what the condition gives the walk: the five errors -/
theorem errs_of_laid {W : World} (h : laidMetH Tryz.prog Rows.fnJournalRow.laid W) : ∃ b0 b1 b2 b3 b4, Is.Errs W b0 b1 b2 b3 b4 := by
  have h0 : laidMet Tryz.prog Rows.fnJournalRow.laid W := h
  obtain ⟨q0, q1, s0, s1, _, _, _, _, hv0, hv1, hc0, hs0, _, hc1, hs1, _, _, hb0, hb1⟩ := laid_sentinels2 h0 g0 g0t g1 g1t Tryz.underlying50 row1 Tryz.underlying168 Tryz.underlying193 rfl rfl Tryz.underlying9 (by kernel_rfl) (by kernel_rfl)
  obtain ⟨q2, q3, s2, s3, _, _, _, _, hv2, hv3, hc2, hs2, _, hc3, hs3, _, _, hb2, hb3⟩ := laid_sentinels2 h0.tail.tail g2 g2t g3 g3t Tryz.underlying50 row1 Tryz.underlying168 Tryz.underlying193 rfl rfl Tryz.underlying9 (by kernel_rfl) (by kernel_rfl)
  obtain ⟨_, q4, _, s4, _, _, _, _, _, hv4, _, _, _, hc4, hs4, _, _, _, hb4⟩ := laid_sentinels2 h0.tail.tail.tail g3 g3t g4 g4t Tryz.underlying50 row1 Tryz.underlying168 Tryz.underlying193 rfl rfl Tryz.underlying9 (by kernel_rfl) (by kernel_rfl)
  refine ⟨q0, q1, q2, q3, q4, ?_, ?_, ?_, ?_, ?_, ⟨_, _, hb0⟩, ⟨_, _, hb1⟩, ⟨_, _, hb2⟩, ⟨_, _, hb3⟩, ⟨_, _, hb4⟩, ?_⟩
  · simpa [Is.ev] using World.var?_cell g0 hv0 0
  · simpa [Is.ev] using World.var?_cell g1 hv1 0
  · simpa [Is.ev] using World.var?_cell g2 hv2 0
  · simpa [Is.ev] using World.var?_cell g3 hv3 0
  · simpa [Is.ev] using World.var?_cell g4 hv4 0
  · simp only [List.pairwise_cons, List.mem_cons, List.not_mem_nil, or_false, forall_eq_or_imp, forall_eq, List.Pairwise.nil, and_true, false_implies, implies_true]
    exact ⟨⟨ne_text hc0 hc1 hs0 hs1 (by decide), ne_text hc0 hc2 hs0 hs2 (by decide), ne_text hc0 hc3 hs0 hs3 (by decide), ne_text hc0 hc4 hs0 hs4 (by decide)⟩,
      ⟨ne_text hc1 hc2 hs1 hs2 (by decide), ne_text hc1 hc3 hs1 hs3 (by decide), ne_text hc1 hc4 hs1 hs4 (by decide)⟩,
      ⟨ne_text hc2 hc3 hs2 hs3 (by decide), ne_text hc2 hc4 hs2 hs4 (by decide)⟩, ne_text hc3 hc4 hs3 hs4 (by decide)⟩

theorem vars_len {H : Type} {enc : TypeId × Value → H} {P : Program} {w : World} {sp : Nat → Bool} : ∀ {ns : List String} {gs : List (DataW H)} {ps : List MemPlace}, DataW.TrodVars enc P w sp ns gs ps → gs.length = ns.length
  | [], [], _, _ => rfl
  | [], _ :: _, _, h => h.elim
  | _ :: _, [], _, h => h.elim
  | _ :: _, _ :: _, _, h => by
    obtain ⟨_, _, _, _, _, _, _, _, _, _, hr, _⟩ := h
    simp [vars_len hr]

set_option maxRecDepth 100000 in
theorem lifted (os : Os) (started : os.Started) (H : Type) (enc : TypeId × Value → H) :
    ReturnsInHanded {} Tryz.checked os 3 .any (fun w args => (Rows.fnJournalSpec.pre enc Tryz.prog Tryz.f3 [] false w args ∧ laidMetH Tryz.prog Rows.fnJournalRow.laid w) ∧ sizedMet enc Tryz.prog Tryz.f3 (OpenSpec.ofChange Rows.fnJournalSpec) false w args)
      (Rows.fnJournalSpec.post enc Tryz.prog Tryz.f3 false true false false) := by
  refine returnsInHanded_of_change_and (C := Tryz.checked) (X := fun w _ => laidMetH Tryz.prog Rows.fnJournalRow.laid w) (fun _ _ _ hh h => h.of_heap hh) own started (by kernel_rfl) Tryz.func3
    (ChangeSpec.witness_at (enc := enc) (C := Tryz.checked) (os := os) (X := fun w _ => laidMetH Tryz.prog Rows.fnJournalRow.laid w) false
      { World.holding Tryz.prog os ⟨#[.cells #[.string { data := #[97, 32, 116, 101, 120, 116, 32, 105, 115, 32, 116, 111, 111, 32, 108, 111, 110, 103] }] 193, .cells #[.string { data := #[116, 104, 101, 32, 102, 105, 108, 101, 115, 32, 111, 114, 32, 97, 32, 110, 97, 109, 101, 32, 97, 114, 101, 32, 110, 111, 116, 32, 114, 105, 103, 104, 116] }] 193, .cells #[.string { data := #[116, 104, 101, 114, 101, 32, 105, 115, 32, 110, 111, 32, 102, 105, 108, 101, 32, 111, 102, 32, 116, 104, 97, 116, 32, 110, 97, 109, 101] }] 193, .cells #[.string { data := #[116, 104, 101, 32, 102, 105, 108, 101, 32, 100, 111, 101, 115, 32, 110, 111, 116, 32, 104, 97, 118, 101, 32, 116, 104, 97, 116, 32, 115, 105, 122, 101] }] 193, .cells #[.string { data := #[116, 104, 101, 114, 101, 32, 105, 115, 32, 110, 111, 32, 114, 111, 111, 109, 32, 102, 111, 114, 32, 105, 116] }] 193], #[], []⟩ with heap := ((((((World.holding Tryz.prog os ⟨#[.cells #[.string { data := #[97, 32, 116, 101, 120, 116, 32, 105, 115, 32, 116, 111, 111, 32, 108, 111, 110, 103] }] 193, .cells #[.string { data := #[116, 104, 101, 32, 102, 105, 108, 101, 115, 32, 111, 114, 32, 97, 32, 110, 97, 109, 101, 32, 97, 114, 101, 32, 110, 111, 116, 32, 114, 105, 103, 104, 116] }] 193, .cells #[.string { data := #[116, 104, 101, 114, 101, 32, 105, 115, 32, 110, 111, 32, 102, 105, 108, 101, 32, 111, 102, 32, 116, 104, 97, 116, 32, 110, 97, 109, 101] }] 193, .cells #[.string { data := #[116, 104, 101, 32, 102, 105, 108, 101, 32, 100, 111, 101, 115, 32, 110, 111, 116, 32, 104, 97, 118, 101, 32, 116, 104, 97, 116, 32, 115, 105, 122, 101] }] 193, .cells #[.string { data := #[116, 104, 101, 114, 101, 32, 105, 115, 32, 110, 111, 32, 114, 111, 111, 109, 32, 102, 111, 114, 32, 105, 116] }] 193], #[], []⟩).heap.modify 0 fun
        | .cells _ t frozen => .cells #[.iface 168 (.pointer (some ⟨10, 0, none⟩))] t frozen
        | o => o).modify 1 fun
        | .cells _ t frozen => .cells #[.iface 168 (.pointer (some ⟨11, 0, none⟩))] t frozen
        | o => o).modify 2 fun
        | .cells _ t frozen => .cells #[.iface 168 (.pointer (some ⟨12, 0, none⟩))] t frozen
        | o => o).modify 3 fun
        | .cells _ t frozen => .cells #[.iface 168 (.pointer (some ⟨13, 0, none⟩))] t frozen
        | o => o).modify 4 fun
        | .cells _ t frozen => .cells #[.iface 168 (.pointer (some ⟨14, 0, none⟩))] t frozen
        | o => o) }
      #[.slice none 0 0, .slice none 0 0] 8 rfl (by kernel_rfl) (by kernel_rfl) (by kernel_rfl) (by kernel_rfl) (by kernel_rfl)
      (show laidMet Tryz.prog Rows.fnJournalRow.laid _ from laidMet_of_run (ps := [.cell 0 0, .cell 10 0, .cell 1 0, .cell 11 0, .cell 2 0, .cell 12 0, .cell 3 0, .cell 13 0, .cell 4 0, .cell 14 0]) 8 (by kernel_rfl) (by kernel_rfl) (by kernel_rfl))) ?_
  intro W base args ds gs before hval0 hW _ _ hL _
  have hval : ∀ (j : Nat) t v, Tryz.f3.params[j]? = some t → args[j]? = some v → Value.okWide Tryz.prog W .any base t v := hval0
  have hW' := hW
  obtain ⟨p, q, hA0, hV0, rfl, hfz, hnd⟩ := hW
  have hA : DataW.TrodAll enc Tryz.prog W 0 (fun _ => true) true Tryz.f3.params.toList args.toList ds p := hA0
  have hV : DataW.TrodVars enc Tryz.prog W (fun _ => true) ["loop.example/g00446/impl.errTooLong", "loop.example/g00446/impl.errNotRight", "loop.example/g00446/impl.errNoFile", "loop.example/g00446/impl.errOutside", "loop.example/g00446/impl.errNoRoom"] gs q := hV0
  rw [Tryz.params3] at hA hval
  obtain ⟨v0, vs0, d0, ds0, p0, q0, hargs, rfl, rfl, h0, r0⟩ := trodAll_cons hA
  obtain ⟨v1, vs1, d1, ds1, p1, q1, rfl, rfl, rfl, h1, r1⟩ := trodAll_cons r0
  obtain ⟨rfl, rfl, rfl⟩ := trodAll_nil r1
  obtain rfl : args = #[v0, v1] := by cases args; simp_all
  have hlt : ∀ x ∈ p0 ++ (p1 ++ ([])), x.block < W.heap.size := fun x hx => hW'.lt x (by rw [List.mem_append]; exact .inl (by simpa using hx))
  have k0 := h0
  obtain ⟨a0, n0, c0, rfl, m0, g0⟩ := Dk.open_bytes Tryz.underlying22 Tryz.underlying5 (by kernel_rfl) (hval 0 22 v0 rfl rfl) h0
  have k1 := h1
  obtain ⟨a1, n1, c1, rfl, m1, g1⟩ := Dk.open_bytes Tryz.underlying22 Tryz.underlying5 (by kernel_rfl) (hval 1 22 v1 rfl rfl) h1
  clear hA0 hval0
  obtain ⟨b0, b1, b2, b3, b4, hE⟩ := errs_of_laid hL
  have hlen := vars_len hV
  obtain ⟨y1, y2, y3, y4, y5, rfl⟩ : ∃ y1 y2 y3 y4 y5, gs = [y1, y2, y3, y4, y5] := by
    match gs, hlen with
    | [y1, y2, y3, y4, y5], _ => exact ⟨_, _, _, _, _, rfl⟩
  have e1 : Rows.fnJournalSpec.fn H ([d0, d1] ++ [y1, y2, y3, y4, y5]) = { results := [.lit (.bool true)], args := [d0, d1], vars := [y1, y2, y3, y4, y5] } := by simp [Rows.fnJournalSpec]
  refine (walk a0 n0 c0 m0 a1 n1 c1 m1 W g0 g1 b0 b1 b2 b3 b4 hE).mono fun e W' ⟨he, bel⟩ => ?_
  subst he
  refine ⟨_, rfl, _, _, _, [], p0 ++ (p1 ++ ([])), q, hW', ?_, ?_, ?_, bel.frame _, fun h => by cases h⟩
  · rw [e1]; exact trodAll_mk1 (shut_bool Tryz.underlying4 true)
  · rw [e1]; exact (trodAll_cons_mk (Below.trod laidOut (by kernel_rfl) (of_decide_eq_true (by kernel_rfl)) k0 bel (fun x hx => hlt x (by simp [hx]))) (trodAll_cons_mk (Below.trod laidOut (by kernel_rfl) (of_decide_eq_true (by kernel_rfl)) k1 bel (fun x hx => hlt x (by simp [hx]))) trodAll_mk0))
  · rw [e1]; exact Below.trodVars laidOut bel (by kernel_rfl) hV

theorem over : Rows.FnJournalSaid :=
  OpenClaim.holds_of_wide 3 Tryz.f3 rfl rfl rfl rfl rfl rfl rfl ⟨rfl, rfl, rfl, rfl, rfl⟩ rfl rfl rfl rfl rfl (by kernel_rfl) Tryz.func3 (by kernel_rfl)
    (of_decide_eq_true (by kernel_rfl)) (by unfold Func.isWrapper; rw [if_neg (of_decide_eq_false (by kernel_rfl))]; exact ⟨rfl, rfl⟩)
    (fun os started H enc _ => lifted os started H enc)

/-- the tied card -/
theorem proved : Rows.FnJournalCardSaid :=
  Claim7.holds_tied_plain_at .later [] [.sentinel, .sentinel, .sentinel, .sentinel, .sentinel] true (true, "f4c90fefcccf055d904cdc3516d58e2399fcf60a45b79abe8a065afe8db37a38") true
    over (fun _ h => by cases h) (by kernel_rfl) (fun _ h => by cases h) fnJournal_row_tie rfl ⟨rfl, rfl⟩ (by kernel_rfl) rfl
    (fun f fn hf hfn => by
      obtain rfl : f = 3 := Option.some.inj ((show Tryz.prog.funcNamed "loop.example/g00446/laws.FnJournal" = some 3 by kernel_rfl).symm.trans hf) |>.symm
      obtain rfl : fn = Tryz.f3 := (Option.some.inj (Tryz.func3.symm.trans hfn)).symm
      exact ⟨by kernel_rfl, fun j t ht => by
        rw [Tryz.params3] at ht
        rcases j with _ | j
        · obtain rfl : t = 22 := by simpa using ht.symm
          exact (show Tryz.prog.wantsStandIn 22 = false by kernel_rfl)
        ·
          rcases j with _ | j
          · obtain rfl : t = 22 := by simpa using ht.symm
            exact (show Tryz.prog.wantsStandIn 22 = false by kernel_rfl)
          ·
            simp at ht
      ⟩)
    (by kernel_rfl)
#print axioms proved
end Go.Proofs.YtojdfdlbdpdlkaaGreatDoor.fnJournal
