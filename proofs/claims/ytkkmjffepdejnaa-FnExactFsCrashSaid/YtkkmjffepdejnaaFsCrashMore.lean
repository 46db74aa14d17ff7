/- Bounds on files and on what a crash leaves. No function of the program here. -/
import Derived.Test.YtkkmjffepdejnaaFsSz
import Derived.Test.YtkkmjffepdejnaaFsCrashImpl
namespace Go.Proofs.Ytkkmjffepdejnaa
theorem Fk.tot_mono (L : List Fk.Fl) {i j : Nat} (h : i ≤ j) : Fk.tot L i ≤ Fk.tot L j := by
  induction h with
  | refl => exact Nat.le_refl _
  | step _ ih => exact Nat.le_trans ih (Nat.le_add_right _ _)
theorem Fk.part_small (L : List Fk.Fl) (i : Nat) (h : Fk.tot L L.length ≤ 1048576) : (Fk.nm L i).size ≤ 1048576 ∧ (Fk.dt L i).size ≤ 1048576 := by
  by_cases hi : i < L.length
  · have h1 := Fk.tot_mono L (Nat.succ_le_of_lt hi)
    have h2 : Fk.tot L (i + 1) = Fk.tot L i + ((Fk.nm L i).size + (Fk.dt L i).size) := rfl
    have h3 : Fk.tot L (i + 1) ≤ Fk.tot L L.length := h1
    omega
  · have e : L.getD i Fk.none_ = Fk.none_ := by rw [List.getD_eq_getElem?_getD, List.getElem?_eq_none (by omega)]; rfl
    have e1 : Fk.nm L i = ByteArray.empty := by unfold Fk.nm; rw [e]; rfl
    have e2 : Fk.dt L i = ByteArray.empty := by unfold Fk.dt; rw [e]; rfl
    rw [e1, e2]
    exact ⟨by decide, by decide⟩
theorem Ik.crash_length (L : List Fk.Fl) (T : List Int) : (Ik.crash L T).length ≤ L.length := by
  unfold Ik.crash
  split
  · simp
  · simp [Ik.crs]
end Go.Proofs.Ytkkmjffepdejnaa
