/- Plain mathematics of a crash: what is left of right files is right, each has its synced beginning. No function of the program here. Plain mathematics of the journal: what is left of it when the power has gone, and all that the law says of it. What JournalClean and JournalDrop answer is right, or nothing. -/
import Derived.Test.YtojdfdlbdpdlkaaGreatDoorJoined29
import Derived.Test.YtojdfdlbdpdlkaaGreatDoorJoined12
import Derived.Test.YtojdfdlbdpdlkaaGreatDoorJoined8
import Derived.Test.YtojdfdlbdpdlkaaGreatDoorJoined15
namespace Go.Proofs.YtojdfdlbdpdlkaaGreatDoor
open Go.RowKit
set_option linter.unusedVariables false
namespace Ik
open Fk
theorem view_nil (w : World) : View w (.slice none 0 0) [] := ⟨none, 0, rfl, fun h => absurd h (by simp)⟩
theorem crash_short {L : List Fl} {T : List Int} (h : T.length ≤ 400) : crash L T = crs L T L.length := by unfold crash; rw [if_neg (by omega)]
theorem crs_len (L : List Fl) (T : List Int) (k : Nat) : (crs L T k).length = k := by simp [crs]
theorem crs_get {L : List Fl} {T : List Int} {k i : Nat} (h : i < k) : nm (crs L T k) i = (cr L T i).1 ∧ dt (crs L T k) i = (cr L T i).2.1 ∧ sy (crs L T k) i = (cr L T i).2.2 := by
  have hl : i < (crs L T k).length := by rw [crs_len]; exact h
  simp [nm, dt, sy, List.getD, crs, List.getElem?_map, List.getElem?_range h]
theorem kept_in {L : List Fl} (hr : right L = true) {i : Nat} (hi : i < L.length) (T : List Int) : sy L i ≤ kept (dt L i) (sy L i) (more T i) ∧ kept (dt L i) (sy L i) (more T i) ≤ (dt L i).size ∧ 0 ≤ kept (dt L i) (sy L i) (more T i) := by
  obtain ⟨h0, h1, _⟩ := right_ok hr hi
  have h2 := more_pos T i
  unfold kept
  omega
theorem cr_right {L : List Fl} (hr : right L = true) (T : List Int) (i : Nat) : cr L T i = (nm L i, (dt L i).extract 0 (kept (dt L i) (sy L i) (more T i)).toNat, kept (dt L i) (sy L i) (more T i)) := by unfold cr; rw [if_pos hr]
theorem cr_size {L : List Fl} (hr : right L = true) {i : Nat} (hi : i < L.length) (T : List Int) : ((cr L T i).2.1.size : Int) = kept (dt L i) (sy L i) (more T i) := by
  obtain ⟨_, h1, h2⟩ := kept_in hr hi T
  rw [cr_right hr]
  simp [ByteArray.size_extract]
  omega
theorem crash_right {L : List Fl} (hr : right L = true) (T : List Int) : right (crs L T L.length) = true := by
  refine right_yes _ (by rw [crs_len]; exact (right_inv L hr).1) (fun k hk => ?_)
  rw [crs_len] at hk
  have hs := (right_inv L hr).2 k hk
  obtain ⟨e1, e2, e3⟩ := crs_get (L := L) (T := T) hk
  have hsz := cr_size hr hk T
  obtain ⟨k1, k2, k3⟩ := kept_in hr hk T
  simp only [Fk.step, Bool.and_eq_true] at hs
  have hok := fok_inv hs.1
  have hok2 : fok (nm (crs L T L.length) k) (dt (crs L T L.length) k) (sy (crs L T L.length) k) = true := by
    rw [e1, e2, e3]
    have hn : (cr L T k).1 = nm L k := by rw [cr_right hr]
    have hy : (cr L T k).2.2 = kept (dt L k) (sy L k) (more T k) := by rw [cr_right hr]
    rw [hn, hy]
    exact fok_yes hok.1 (by rw [hsz]; omega) ⟨by omega, by rw [hsz]; omega⟩
  cases k with
  | zero => exact step_first _ hok2
  | succ k =>
    refine step_later _ _ hok2 ?_
    have f1 : nm (crs L T L.length) (k + 1) = nm L (k + 1) := by rw [e1, cr_right hr]
    have f2 : nm (crs L T L.length) k = nm L k := by rw [(crs_get (L := L) (T := T) (k := L.length) (i := k) (by omega)).1, cr_right hr]
    rw [Nat.add_sub_cancel, f1, f2]
    have := hs.2
    simpa using this
theorem crs_fits {L : List Fl} (h : Fits L) (T : List Int) : Fits (crs L T L.length) := by
  intro f hf
  obtain ⟨i, hi, rfl⟩ := List.mem_map.1 hf
  have hi' : i < L.length := by simpa using hi
  have e : (nm L i, dt L i, sy L i) ∈ L := by
    have : L[i] = (nm L i, dt L i, sy L i) := by simp [nm, dt, sy, List.getD, List.getElem?_eq_getElem hi']
    rw [← this]; exact List.getElem_mem hi'
  have h1 := h _ e
  by_cases hr : right L = true
  · have hs := cr_size hr hi' T
    obtain ⟨k1, k2, k3⟩ := kept_in hr hi' T
    obtain ⟨_, _, h3⟩ := right_ok hr hi'
    have hn : (cr L T i).1 = nm L i := by rw [cr_right hr]
    have hy : (cr L T i).2.2 = kept (dt L i) (sy L i) (more T i) := by rw [cr_right hr]
    refine ⟨by rw [hn]; exact h1.1, ?_, ?_, ?_⟩
    · unfold maxLen; omega
    · rw [hy]; omega
    · rw [hy]; omega
  · have hc : cr L T i = (nm L i, dt L i, sy L i) := by unfold cr; rw [if_neg hr]
    rw [hc]; exact h1
theorem crash_at {L : List Fl} (hr : right L = true) {k : Nat} (hk : k < L.length) (T : List Int) (hT : T.length ≤ 400) : nm (crash L T) k = nm L k ∧ sy L k ≤ (dt (crash L T) k).size ∧ (dt (crash L T) k).size ≤ (dt L k).size ∧ (dt L k).extract 0 (dt (crash L T) k).size = dt (crash L T) k := by
  rw [crash_short hT]
  obtain ⟨e1, e2, _⟩ := crs_get (L := L) (T := T) hk
  have hs := cr_size hr hk T
  obtain ⟨k1, k2, k3⟩ := kept_in hr hk T
  rw [e1, e2]
  refine ⟨by rw [cr_right hr], by omega, by omega, ?_⟩
  have hn : (cr L T k).2.1.size = (kept (dt L k) (sy L k) (more T k)).toNat := by omega
  rw [hn, cr_right hr]
/-- the names behind a crash are those ahead of it -/
theorem get_crs {L : List Fl} (hr : right L = true) {name : ByteArray} {f : Fl} (hg : get L name = some f) (hs : f.2.2 = f.2.1.size) : ∃ s, get (crs L [] L.length) name = some (name, f.2.1, s) := by
  obtain ⟨hm, hn⟩ := get_some hg
  obtain ⟨i, hi, e⟩ := List.getElem_of_mem hm
  have e4 : nm L i = f.1 ∧ dt L i = f.2.1 ∧ sy L i = f.2.2 := by simp [nm, dt, sy, List.getD, List.getElem?_eq_getElem hi, e]
  have hc : cr L [] i = (name, f.2.1, kept f.2.1 f.2.2 (more [] i)) := by
    rw [cr_right hr, e4.1, e4.2.1, e4.2.2, hn]
    have hk : (kept f.2.1 f.2.2 (more [] i)).toNat = f.2.1.size := by unfold kept more; simp; omega
    rw [hk]
    have : f.2.1.extract 0 f.2.1.size = f.2.1 := by simp
    rw [this]
  have hmem : (name, f.2.1, kept f.2.1 f.2.2 (more [] i)) ∈ crs L [] L.length := by
    rw [← hc]
    unfold crs
    exact List.mem_map.2 ⟨i, by simpa using hi, rfl⟩
  exact ⟨_, get_mem (right_rises _ (crash_right hr [])).apart hmem⟩
end Ik
end Go.Proofs.YtojdfdlbdpdlkaaGreatDoor

namespace Go.Proofs.YtojdfdlbdpdlkaaGreatDoor
set_option linter.unusedSimpArgs false
set_option linter.unusedVariables false
namespace Jn
theorem crash_get {Z : List Fk.Fl} (hr : Fk.right Z = true) {f : Fk.Fl} (hg : Fk.get Z name = some f) : Fk.get (Ik.crash Z []) name = some (name, f.2.1.extract 0 f.2.2.toNat, f.2.2) := by
  rw [Ik.crash_short (by simp)]
  obtain ⟨hm, hn⟩ := Fk.get_some hg
  obtain ⟨i, hi, e⟩ := List.getElem_of_mem hm
  have e4 : Fk.nm Z i = f.1 ∧ Fk.dt Z i = f.2.1 ∧ Fk.sy Z i = f.2.2 := by simp [Fk.nm, Fk.dt, Fk.sy, List.getD, List.getElem?_eq_getElem hi, e]
  have hok := Fk.right_ok hr hi
  have hc : Ik.cr Z [] i = (name, f.2.1.extract 0 f.2.2.toNat, f.2.2) := by
    have hk : Ik.kept f.2.1 f.2.2 (Ik.more [] i) = f.2.2 := by
      rw [e4.2.1, e4.2.2] at hok
      unfold Ik.kept Ik.more; simp; omega
    rw [Ik.cr_right hr, e4.1, e4.2.1, e4.2.2, hn, hk]
  have hmem : (name, f.2.1.extract 0 f.2.2.toNat, f.2.2) ∈ Ik.crs Z [] Z.length := by
    rw [← hc]
    unfold Ik.crs
    exact List.mem_map.2 ⟨i, by simpa using hi, rfl⟩
  exact Fk.get_mem (Fk.right_rises _ (Ik.crash_right hr [])).apart hmem
theorem crash_ok {Z : List Fk.Fl} (hr : Fk.right Z = true) : Fk.right (Ik.crash Z []) = true := by
  rw [Ik.crash_short (by simp)]; exact Ik.crash_right hr []
theorem drop_texts {Z W : List Fk.Fl} {c : Int} (hr : Fk.right Z = true) (h : Fk.Ans (Fk.opn Z []) (resDrop Z) W c) : rdT W = [] := by
  rw [opn_yes hr] at h
  rcases h with ⟨h0, _⟩ | ⟨h0, _⟩ | ⟨_, ⟨k, hk, _, _⟩ | ⟨M, hM, hc, h1, h2⟩⟩
  · cases h0
  · cases h0
  · cases hk
  · obtain rfl := Sum.inr.inj hM
    have hn : Fk.get W name = none := get_not (fun f hf => without_not ((h2 f).1 hf))
    unfold rdT
    rw [dat_none hn, all_empty]
    simp
theorem whole (d : ByteArray) : d.extract 0 d.size = d := by
  apply ByteArray.ext
  rw [ByteArray.data_extract]
  have : d.size = d.data.size := rfl
  rw [this, Array.extract_size]
/-- all that the law says of a journal that was cleaned, and then added to -/
theorem law {L R Z : List Fk.Fl} {t : ByteArray} {sy : Bool} (hR : Fk.Ans (Fk.opn L []) (resClean L) R 0) (hZ : Fk.Ans (oAdd R t) (resAdd R t sy) Z 0) :
    rdT R = rdT L ∧ rdT Z = rdT L ++ [t] ∧ rdT (Ik.crash Z []) = (rdT L ++ [t]).take (rdT (Ik.crash Z [])).length ∧ (rdT L).length ≤ (rdT (Ik.crash Z [])).length ∧ (rdT (Ik.crash Z [])).length ≤ (rdT L).length + 1 ∧ (sy = true → (rdT (Ik.crash Z [])).length = (rdT L).length + 1) := by
  obtain ⟨hL, hd, hg⟩ := clean_read hR
  have hRr := clean_right hR
  have hT := clean_texts hR
  obtain ⟨ht, hZr, hdZ, x, hgZ, hx1, hx2⟩ := add_read hRr hg hZ
  have h3 := dat_fit hL
  have h4 := dat_fit hZr
  have hend : endOf (all (dat R)) = (dat R).size := by rw [hd]; exact end_kept _ (by omega)
  have hall : all (dat Z) = all (dat R) ++ [(t, ((dat R ++ record t).size : Int))] := by rw [hdZ]; exact all_record _ _ ht (by rw [← hdZ]; omega) hend
  have hTZ : rdT Z = rdT L ++ [t] := by
    rw [← hT, (rd_ok hZr).1, (rd_ok hRr).1, hall]
    simp
  have hC := crash_get hZr hgZ
  have hCr := crash_ok hZr
  have hdC : dat (Ik.crash Z []) = (dat Z).extract 0 x.toNat := dat_of hC
  refine ⟨hT, hTZ, ?_⟩
  cases sy with
  | true =>
    have hxe := hx1 rfl
    have hTC : rdT (Ik.crash Z []) = rdT L ++ [t] := by
      rw [(rd_ok hCr).1, hdC, hxe, Int.toNat_natCast, whole, ← (rd_ok hZr).1, hTZ]
    rw [hTC]
    exact ⟨(List.take_length).symm, by simp, by simp, fun _ => by simp⟩
  | false =>
    have hxe := hx2 rfl
    have hTC : rdT (Ik.crash Z []) = rdT L := by
      rw [(rd_ok hCr).1, hdC, hxe, Int.toNat_natCast, hdZ, ex_app _ _ _ _ (Nat.le_refl _), whole, ← (rd_ok hRr).1, hT]
    rw [hTC]
    exact ⟨by simp, Nat.le_refl _, by omega, fun h => by cases h⟩
end Jn
end Go.Proofs.YtojdfdlbdpdlkaaGreatDoor

namespace Go.Proofs.YtojdfdlbdpdlkaaGreatDoor
set_option linter.unusedSimpArgs false
set_option linter.unusedVariables false
namespace Jn
theorem ans_none {o : Nat} {res : Int ⊕ List Fk.Fl} {R : List Fk.Fl} {c : Int} (h : Fk.Ans o res R c) (hc : c ≠ 0) : R = [] := by
  rcases h with ⟨_, hR, _⟩ | ⟨_, hR, _⟩ | ⟨_, ⟨k, _, hR, _⟩ | ⟨M, _, h0, _⟩⟩
  · exact hR
  · exact hR
  · exact hR
  · exact absurd h0 hc
theorem clean_any {L R : List Fk.Fl} {c : Int} (h : Fk.Ans (Fk.opn L []) (resClean L) R c) : (c = 0 → Fk.right R = true) ∧ (c ≠ 0 → R = []) :=
  ⟨fun hc => by subst hc; exact clean_right h, ans_none h⟩
theorem drop_any {L R : List Fk.Fl} {c : Int} (h : Fk.Ans (Fk.opn L []) (resDrop L) R c) : (c = 0 → Fk.right R = true) ∧ (c ≠ 0 → R = []) := by
  refine Fk.ans_right h (fun k e => ?_) (fun h1 M e => ?_)
  · cases e
  · have hr := Fk.opn_right L _ h1
    have h12 := (Fk.right_inv L hr).1
    have hw := Fk.without_len L name
    obtain rfl := Sum.inr.inj e
    exact ⟨by omega, fun f hf => Fk.mem_ok hr (Fk.without_sub f hf)⟩
end Jn
end Go.Proofs.YtojdfdlbdpdlkaaGreatDoor
