/- The walks of the law's own look at sizes: a list of files that goes by has at most as many bytes as are let. -/
import Derived.Test.YtfefafmcaepoiaaGreatDoorProg
import Derived.Test.YtfefafmcaepoiaaGreatDoorFsKit
import Derived.WalkKit
import Derived.WalkSpells
import Derived.WalkLawsBesides
namespace Go.Proofs.YtfefafmcaepoiaaGreatDoor
open Go.RowKit
set_option linter.unusedVariables false

/-- how many bytes the first files have -/
def Fk.tot (L : List Fk.Fl) : Nat → Nat
  | 0 => 0
  | k + 1 => Fk.tot L k + ((Fk.nm L k).size + (Fk.dt L k).size)

set_option maxHeartbeats 400000 in
theorem szFile_any (a b : ByteArray) (s left : Int) (w : World) (ha : a.size ≤ maxLen) (hb : b.size ≤ maxLen) (h0 : 0 ≤ left) (h1 : left ≤ 1048576) :
    Calls Tryz.prog 39 #[.agg #[.string a, .string b, .int .i64 s], .int .i64 left] w fun e w' =>
      (∃ r, e = .returned (.int .i64 r) ∧ (r = -1 ∨ (0 ≤ r ∧ r = left - a.size - b.size))) ∧ Below w.heap.size w w' := by
  unfold maxLen at ha hb
  by_cases c1 : left < a.size
  · go_enter Tryz.func39, Tryz.ntmps39
    go_wp2
    go_ret
    refine ⟨⟨_, rfl, .inl rfl⟩, ?_⟩
    exact (Below.refl _ _).alloc (Nat.le_refl _) _
  by_cases c2 : left < a.size + b.size
  · go_enter Tryz.func39, Tryz.ntmps39
    go_wp2
    go_ret
    refine ⟨⟨_, rfl, .inl rfl⟩, ?_⟩
    exact (Below.refl _ _).alloc (Nat.le_refl _) _
  · go_enter Tryz.func39, Tryz.ntmps39
    go_wp2
    go_ret
    refine ⟨⟨_, rfl, .inr ⟨?_, ?_⟩⟩, ?_⟩
    · omega
    · omega
    · exact (Below.refl _ _).alloc (Nat.le_refl _) _

set_option maxHeartbeats 1000000 in
theorem szFileS_any (v : Value) (L : List Fk.Fl) (left : Int) (w : World) (hv : Fk.View w v L) (hL : Fk.Fits L) (hl : L.length ≤ maxLen) (h0 : 0 ≤ left) (h1 : left ≤ 1048576) :
    Calls Tryz.prog 16 #[v, .int .i64 left] w fun e w' =>
      (∃ r, e = .returned (.int .i64 r) ∧ (r = -1 ∨ (0 ≤ r ∧ r = left - L.length - Fk.tot L L.length))) ∧ Below w.heap.size w w' := by
  unfold maxLen at hl
  obtain ⟨a, cap, rfl, hs⟩ := hv
  by_cases c1 : left < L.length
  · go_enter Tryz.func16, Tryz.ntmps16
    go_wp2
    go_ret
    exact ⟨⟨_, rfl, .inl rfl⟩, Below.refl _ _⟩
  go_enter Tryz.func16, Tryz.ntmps16
  go_wp2
  go_loopw [1, 5] (fun l i wr => ∃ (k : Nat) (x : Int), k ≤ L.length ∧ l = .int .i64 x ∧ i = .int .i64 k ∧ 0 ≤ x ∧ x ≤ 1048576 ∧ Hid (x = left - L.length - Fk.tot L k) ∧ Below w.heap.size w wr) (fun _ i _ => L.length - (intOf i).toNat)
  case atStart => exact ⟨0, _, Nat.zero_le _, rfl, rfl, by omega, by omega, by show _ = _; simp [Fk.tot], Below.refl _ _⟩
  case round =>
    obtain ⟨k, x, hk, rfl, rfl, hx0, hx1, HX, bel⟩ := hrel
    by_cases hlt : k < L.length
    · obtain ⟨b, o, rfl, hb, hs1⟩ := hs (by omega)
      have hs' := hs1.below hb bel
      have q0 := hs'.c0 k hlt
      have q1 := hs'.c1 k hlt
      have q2 := hs'.c2 k hlt
      obtain ⟨z0, z1, z2⟩ := Fk.fits_get hL k
      go_wp2_with fail
      refine (szFile_any _ _ _ _ _ z0 z1 hx0 hx1).mono ?_
      rintro e w1 ⟨⟨r, rfl, hr⟩, bel1⟩
      have bel2 : Below w.heap.size w w1 := bel.trans (bel1.mono bel.size)
      clear q0 q1 q2 hs' bel1
      rcases hr with rfl | ⟨hr0, hr⟩
      · go_wp2
        go_ret
        exact ⟨⟨_, rfl, .inl rfl⟩, bel2⟩
      · have hr1 : r ≤ 1048576 := by omega
        have HR : Hid (r = left - L.length - Fk.tot L (k + 1)) := by
          show r = _
          have := HX.out
          simp only [Fk.tot]
          omega
        clear hr
        go_wp2_with fail
        go_roundw
        case rel => exact ⟨k + 1, r, by omega, rfl, by go_num, hr0, hr1, HR, bel2⟩
        case measure => simp [intOf]; omega
    · have e : k = L.length := by omega
      subst e
      go_wp2_with fail
      go_ret
      exact ⟨⟨_, rfl, .inr ⟨hx0, HX.out⟩⟩, bel⟩

set_option maxHeartbeats 1000000 in
theorem szFs_any (v : Value) (L : List Fk.Fl) (left : Int) (w : World) (hv : Fk.View w v L) (hL : Fk.Fits L) (hl : L.length ≤ maxLen) (h0 : 0 ≤ left) (h1 : left ≤ 1048576) :
    Calls Tryz.prog 5 #[.agg #[v], .int .i64 left] w fun e w' =>
      (∃ r, e = .returned (.int .i64 r) ∧ (r = -1 ∨ (0 ≤ r ∧ r = left - L.length - Fk.tot L L.length))) ∧ Below w.heap.size w w' := by
  have b0 : Below w.heap.size w (w.alloc (.cells #[v] 24)) := (Below.refl _ _).alloc (Nat.le_refl _) _
  have hv' := hv.below b0
  obtain ⟨a, cap, rfl, _⟩ := hv
  go_enter Tryz.func5, Tryz.ntmps5
  go_wp2_with fail
  refine (szFileS_any _ _ _ _ hv' hL hl h0 h1).mono ?_
  rintro e w1 ⟨⟨r, rfl, hr⟩, bel1⟩
  have bel2 : Below w.heap.size w w1 := b0.trans (bel1.mono b0.size)
  clear bel1
  rcases hr with rfl | ⟨hr0, hr⟩
  · go_wp2
    go_ret
    exact ⟨⟨_, rfl, .inl rfl⟩, bel2⟩
  · have HR : Hid (r = left - L.length - Fk.tot L L.length) := hr
    clear hr
    go_wp2
    go_ret
    exact ⟨⟨_, rfl, .inr ⟨hr0, HR.out⟩⟩, bel2⟩
end Go.Proofs.YtfefafmcaepoiaaGreatDoor
