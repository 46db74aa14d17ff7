/- The walk of the program's findEntry: the record at a place of the journal's bytes. -/
import Derived.Test.YtfefafmcaepoiaaGreatDoorJournalEnt
import Derived.Test.YtfefafmcaepoiaaGreatDoorReadNumWalks
import Derived.Test.YtfefafmcaepoiaaGreatDoorFsKit
import Derived.BigRegion
namespace Go.Proofs.YtfefafmcaepoiaaGreatDoor
set_option linter.unusedSimpArgs false
open Go.RowKit
set_option linter.unusedVariables false

set_option maxHeartbeats 2000000 in
theorem findEntry_any (s : ByteArray) (p : Int) (w : World) (hs : s.size ≤ maxLen) (h1 : p ≤ 9223372036854775807) :
    Calls Tryz.prog 86 #[.string s, .int .i64 p] w fun e w' =>
      ((Jn.one s p = none ∧ ∃ a b, e = .returned (.tuple #[.int .i64 a, .int .i64 b, .bool false])) ∨
       (∃ x q, Jn.one s p = some (s.extract x.toNat (q - 4).toNat, q) ∧ 0 < x ∧ x + 4 ≤ q ∧ q ≤ s.size ∧ p < q ∧ e = .returned (.tuple #[.int .i64 x, .int .i64 q, .bool true]))) ∧ Below w.heap.size w w' := by
  obtain ⟨⟨n, x, c⟩, hr⟩ : ∃ r, r = Dc.getNum s p := ⟨_, rfl⟩
  by_cases hc : c = 0
  · subst hc
    have hb := Dc.get_bd s p n x hr.symm
    have hon := Jn.get_on hr.symm
    have HR : Hid ((n, x, 0) = Dc.getNum s p) := hr
    clear hr
    by_cases hn : n < 0 ∨ 304 < n ∨ (s.size : Int) - x < n
    · have HE : Hid (Jn.one s p = none) := Jn.one_no_size HR.out.symm hn
      have hn3 : n < 0 ∨ (0 ≤ n ∧ 304 < n) ∨ (0 ≤ n ∧ n ≤ 304 ∧ (s.size : Int) - x < n) := by omega
      clear hn hon
      rcases hn3 with h | ⟨h, h'⟩ | ⟨h, h', h''⟩
      all_goals
        go_enter Tryz.func86, Tryz.ntmps86
        go_wp2_with fail
        refine (readNum_any s p _ hs h1).mono ?_
        rintro e w1 ⟨rfl, rfl⟩
        rw [← HR.out, show readRes (n, x, 0) = .tuple #[.int .i64 n, .int .i64 x, .nilIface] from rfl]
        go_wp2_with fail
        go_ret3
        exact ⟨.inl ⟨HE.out, _, _, rfl⟩, Below.refl _ _⟩
    · have hn0 : 0 ≤ n := by omega
      have hn1 : n ≤ 304 := by omega
      have hn2 : n ≤ (s.size : Int) - x := by omega
      have HN := Fk.hide hn
      obtain ⟨t, ht⟩ : ∃ t, t = s.extract x.toNat (x + n).toNat := ⟨_, rfl⟩
      have hts : t.size ≤ maxLen := by rw [ht, ByteArray.size_extract]; unfold maxLen at hs ⊢; omega
      have HT := Fk.hide ht
      have hsl : ∀ W, (Instr.slice 9 (.string s) (some (.int .i64 x)) (some (.int .i64 (x + n))) none).run Tryz.prog W = .ok (.string t) W := fun W => by
        rw [run_slice_string W 9 s .i64 .i64 x (x + n) Tryz.underlying9 (by omega) (by omega) (by omega), ht]
      clear ht hn
      go_enter Tryz.func86, Tryz.ntmps86
      go_wp2_with fail
      refine (readNum_any s p _ hs h1).mono ?_
      rintro e w1 ⟨rfl, rfl⟩
      rw [← HR.out, show readRes (n, x, 0) = .tuple #[.int .i64 n, .int .i64 x, .nilIface] from rfl]
      go_wp2_with fail
      refine (readSealed_any t _ hts).mono ?_
      rintro e w2 ⟨rfl, b2⟩
      have B2 := Fk.hide (Below.drew b2)
      obtain ⟨u, hu⟩ : ∃ u, u = (unsealed t).1 := ⟨_, rfl⟩
      rw [← hu]
      by_cases hz : (unsealed t).2.2 = 0
      · have hy := Jn.one_yes HR.out.symm HN.out HT.out hz
        have HY := Fk.hide hy.2
        have hn4 := hy.1
        have he : errv (unsealed t).2.2 = .nilIface := by rw [hz]; rfl
        rw [he]
        clear he hz hy hu b2 hsl
        go_wp2_with fail
        go_region
        all_goals
          go_wp2_with fail
          go_ret3
          exact ⟨.inr ⟨x, x + n, HY.out, by omega, by omega, by omega, by omega, rfl⟩, B2.out⟩
      · have HE : Hid (Jn.one s p = none) := Jn.one_no_seal HR.out.symm HN.out HT.out hz
        have he : errv (unsealed t).2.2 = .iface 156 (.agg #[.int .i64 (unsealed t).2.2]) := by unfold errv; rw [if_neg hz]
        rw [he]
        obtain ⟨cc, hcc⟩ : ∃ cc, cc = (unsealed t).2.2 := ⟨_, rfl⟩
        rw [← hcc]
        clear he hz hu b2 hcc hsl
        go_wp2_with fail
        go_region
        all_goals
          go_wp2_with fail
          go_ret3
          exact ⟨.inl ⟨HE.out, _, _, rfl⟩, B2.out⟩
  · have HE : Hid (Jn.one s p = none) := Jn.one_no_num hr.symm hc
    have HR : Hid ((n, x, c) = Dc.getNum s p) := hr
    clear hr
    have HV : Hid (readRes (n, x, c) = .tuple #[.int .i64 n, .int .i64 x, .iface 156 (.agg #[.int .i64 c])]) := by
      show readRes (n, x, c) = _
      unfold readRes; simp only [if_neg hc]
    go_enter Tryz.func86, Tryz.ntmps86
    go_wp2_with fail
    refine (readNum_any s p _ hs h1).mono ?_
    rintro e w1 ⟨rfl, rfl⟩
    rw [← HR.out, HV.out]
    go_wp2_with fail
    go_ret3
    exact ⟨.inl ⟨HE.out, _, _, rfl⟩, Below.refl _ _⟩
end Go.Proofs.YtfefafmcaepoiaaGreatDoor
