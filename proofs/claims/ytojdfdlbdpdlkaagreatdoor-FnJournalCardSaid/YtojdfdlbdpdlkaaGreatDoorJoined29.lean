/- Plain mathematics of the journal's records: a text comes back from its record. The walks of what FsCrash of the program calls: crashFile. The walk of the program's FsCrash. Plain mathematics of the journal: what is read of it when it has been cleaned, added to, dropped, or has crashed. -/
import Derived.Test.YtojdfdlbdpdlkaaGreatDoorJoined28
import Derived.Test.YtojdfdlbdpdlkaaGreatDoorJoined1
import Derived.Test.YtojdfdlbdpdlkaaGreatDoorJoined5
import Derived.Test.YtojdfdlbdpdlkaaGreatDoorJoined7
import Derived.Test.YtojdfdlbdpdlkaaGreatDoorJoined4
namespace Go.Proofs.YtojdfdlbdpdlkaaGreatDoor
set_option linter.unusedSimpArgs false
set_option linter.unusedVariables false
namespace Jn
theorem ex_app_left (s r : ByteArray) : (s ++ r).extract 0 s.size = s := by
  rw [ex_app s r 0 s.size (Nat.le_refl _)]
  apply ByteArray.ext
  rw [ByteArray.data_extract]
  have : s.size = s.data.size := rfl
  rw [this, Array.extract_size]
theorem ex_app_right (s r : ByteArray) (n : Nat) (hn : n = s.size + r.size) : (s ++ r).extract s.size n = r := by
  subst hn
  apply ByteArray.ext
  rw [ByteArray.data_extract, ByteArray.data_append, Array.extract_append]
  have e1 : s.data.extract s.size (s.size + r.size) = #[] := by apply Array.extract_empty_of_size_le_start; exact Nat.le_refl _
  have e2 : r.data.extract (s.size - s.data.size) (s.size + r.size - s.data.size) = r.data := by
    have h1 : s.size - s.data.size = 0 := Nat.sub_self _
    have h2 : s.size + r.size - s.data.size = r.data.size := Nat.add_sub_cancel_left ..
    rw [h1, h2, Array.extract_size]
  rw [e1, e2, Array.empty_append]
theorem unsealed_sealed (t : ByteArray) (h : t.size ≤ 300) : unsealed (sealed t) = (t, 0, 0) := by
  have hf := four_size (crcMore 0 t)
  have he : sealed t = t ++ strOfNums (four (crcMore 0 t)) := by unfold sealed; rw [if_pos (by omega)]
  rw [he]
  have hz : (t ++ strOfNums (four (crcMore 0 t))).size = t.size + 4 := by rw [ByteArray.size_append, hf]
  have h4 : (t ++ strOfNums (four (crcMore 0 t))).size - 4 = t.size := by omega
  unfold unsealed
  rw [if_neg (by omega), if_neg (by omega), h4, ex_app_left, ex_app_right t _ _ (by rw [hz, hf])]
  simp
/-- a small number is read from its bytes, whatever comes behind -/
theorem dec_put (n : Nat) (hn : n ≤ 400) (r : List UInt8) : Dc.dec 10 0 0 ((Pn.putNum (n : Int)).data.toList ++ r) = (0, 2 * n, (Pn.putNum (n : Int)).size) := by
  have hf : (Pn.fold (n : Int)).toNat = 2 * n := by unfold Pn.fold; rw [if_neg (by omega)]; omega
  have hs : ∀ xs : List Int, (strOfNums xs).data.toList = xs.map (fun x => UInt8.ofNat x.toNat) := fun xs => by simp [strOfNums]
  by_cases h : 128 ≤ 2 * n
  · have he : Pn.putNum (n : Int) = strOfNums [((2 * n : Nat) : Int) % 128 + 128, ((2 * n / 128 : Nat) : Int)] := by
      unfold Pn.putNum
      rw [hf, Pn.encU, if_pos h, Pn.encU, if_neg (by omega)]
    rw [he, hs, strOfNums_size]
    have h1 : (UInt8.ofNat (((2 * n : Nat) : Int) % 128 + 128).toNat).toNat = 2 * n % 128 + 128 := by
      rw [UInt8.toNat_ofNat']; omega
    have h2 : (UInt8.ofNat (((2 * n / 128 : Nat) : Int)).toNat).toNat = 2 * n / 128 := by
      rw [UInt8.toNat_ofNat']; omega
    show Dc.dec 10 0 0 (UInt8.ofNat (((2 * n : Nat) : Int) % 128 + 128).toNat :: UInt8.ofNat (((2 * n / 128 : Nat) : Int)).toNat :: r) = _
    rw [Dc.dec_more 9 0 0 _ _ (by omega) (by omega), Dc.dec_last 8 1 _ _ _ (by omega) (by omega), if_neg (by omega), h1, h2]
    simp
    omega
  · have he : Pn.putNum (n : Int) = strOfNums [((2 * n : Nat) : Int)] := by
      unfold Pn.putNum
      rw [hf, Pn.encU, if_neg h]
    rw [he, hs, strOfNums_size]
    have h1 : (UInt8.ofNat (((2 * n : Nat) : Int)).toNat).toNat = 2 * n := by
      rw [UInt8.toNat_ofNat']; omega
    show Dc.dec 10 0 0 (UInt8.ofNat (((2 * n : Nat) : Int)).toNat :: r) = _
    rw [Dc.dec_last 9 0 0 _ _ (by omega) (by omega), if_neg (by omega), h1]
    simp
    omega
theorem num_put (s u : ByteArray) (hu : u.size ≤ 400) (hs : (s ++ (Pn.putNum (u.size : Int) ++ u)).size ≤ 8000) :
    Dc.getNum (s ++ (Pn.putNum (u.size : Int) ++ u)) s.size = ((u.size : Int), (s.size : Int) + (Pn.putNum (u.size : Int)).size, 0) := by
  have hd : (s ++ (Pn.putNum (u.size : Int) ++ u)).data.toList.drop ((s.size : Int)).toNat = (Pn.putNum (u.size : Int)).data.toList ++ u.data.toList := by
    have e1 : (s ++ (Pn.putNum (u.size : Int) ++ u)).data.toList = s.data.toList ++ ((Pn.putNum (u.size : Int)).data.toList ++ u.data.toList) := by simp [ByteArray.data_append]
    have e2 : ((s.size : Int)).toNat = s.data.toList.length := by simp
    rw [e1, e2, List.drop_left]
  have h := Dc.get_ok (s ++ (Pn.putNum (u.size : Int) ++ u)) s.size (2 * u.size) (Pn.putNum (u.size : Int)).size hs (by omega) (by rw [hd]; exact dec_put u.size hu _)
  rw [h]
  have : Dc.unfold (2 * u.size) = (u.size : Int) := by unfold Dc.unfold; rw [if_pos (by omega)]; omega
  rw [this]
theorem one_record (s t : ByteArray) (ht : t.size ≤ 300) (hs : (s ++ record t).size ≤ 8000) : one (s ++ record t) s.size = some (t, ((s ++ record t).size : Int)) := by
  have hu := sealed_size t ht
  have hu4 : 4 ≤ (sealed t).size := by unfold sealed; rw [if_pos (by omega), ByteArray.size_append, four_size]; omega
  have he : record t = Pn.putNum ((sealed t).size : Int) ++ sealed t := by unfold record putText; rw [if_pos (by omega)]
  rw [he] at hs ⊢
  have hn := num_put s (sealed t) (by omega) hs
  have hz : (s ++ (Pn.putNum ((sealed t).size : Int) ++ sealed t)).size = s.size + ((Pn.putNum ((sealed t).size : Int)).size + (sealed t).size) := by rw [ByteArray.size_append, ByteArray.size_append]
  have hx : (s ++ (Pn.putNum ((sealed t).size : Int) ++ sealed t)).extract ((s.size : Int) + (Pn.putNum ((sealed t).size : Int)).size).toNat (((s ++ (Pn.putNum ((sealed t).size : Int) ++ sealed t)).size : Nat) : Int).toNat = sealed t := by
    have e1 : s ++ (Pn.putNum ((sealed t).size : Int) ++ sealed t) = (s ++ Pn.putNum ((sealed t).size : Int)) ++ sealed t := by rw [ByteArray.append_assoc]
    have e2 : ((s.size : Int) + (Pn.putNum ((sealed t).size : Int)).size).toNat = (s ++ Pn.putNum ((sealed t).size : Int)).size := by rw [ByteArray.size_append]; omega
    rw [e2, e1, Int.toNat_natCast]
    exact ex_app_right _ _ _ (ByteArray.size_append)
  have hus := unsealed_sealed t ht
  have hg := Dc.get_bd _ _ _ _ hn
  exact one_of hs hn (by omega) (by omega) (by rw [hz]; push_cast; omega) (by omega) (by rw [hx, hus]) (by rw [hx, hus]) hg.2.2.1
/-- a record that is put behind is the last one -/
theorem all_record (s t : ByteArray) (ht : t.size ≤ 300) (hs : (s ++ record t).size ≤ 8000) (hc : endOf (all s) = s.size) : all (s ++ record t) = all s ++ [(t, ((s ++ record t).size : Int))] := by
  have hz : (s ++ record t).size = s.size + (record t).size := ByteArray.size_append
  obtain ⟨i, hi, e⟩ := ents_behind (r := record t) hs (s.size + 1) ((s ++ record t).size + 1) 0 (by omega) (by omega) (by omega) (by omega) (by rw [lst_zero]; exact hc)
  have h1 := one_record s t ht hs
  have hb := one_bd h1
  show ents (s ++ record t) ((s ++ record t).size + 1) 0 = ents s (s.size + 1) 0 ++ _
  rw [e]
  obtain ⟨j, rfl⟩ : ∃ j, i = j + 1 := ⟨i - 1, by omega⟩
  rw [ents_step h1, ents_end (one_end _ _ (by simp only; omega) (by simp only; omega) hs)]
theorem end_record (s t : ByteArray) (ht : t.size ≤ 300) (hs : (s ++ record t).size ≤ 8000) (hc : endOf (all s) = s.size) : endOf (all (s ++ record t)) = (s ++ record t).size := by
  rw [all_record s t ht hs hc, endOf_snoc]
end Jn
end Go.Proofs.YtojdfdlbdpdlkaaGreatDoor

namespace Go.Proofs.YtojdfdlbdpdlkaaGreatDoor
open Go.RowKit
set_option linter.unusedVariables false
set_option linter.unusedSimpArgs false
namespace Ik
/-- how much of a file is there behind a crash -/
def kept (b : ByteArray) (s more : Int) : Int := s + min more ((b.size : Int) - s)
end Ik

end Go.Proofs.YtojdfdlbdpdlkaaGreatDoor

namespace Go.Proofs.YtojdfdlbdpdlkaaGreatDoor
open Go.RowKit
set_option linter.unusedVariables false
set_option linter.unusedSimpArgs false

theorem Fk.view_oneC (w : World) (a b : ByteArray) (s : Int) (t : TypeId) : Fk.View (w.alloc (.cells #[.string a, .string b, .int .i64 s] t)) (.slice (some ⟨w.heap.size, 0, none⟩) 1 1) [(a, b, s)] := by
  refine ⟨_, 1, rfl, fun _ => ⟨w.heap.size, 0, rfl, by simp, ?_, ?_, ?_⟩⟩
  · intro i hi
    have e : i = 0 := by simpa using hi
    subst e
    rw [Fk.cellTop _ _ _ _ _ rfl]; rfl
  · intro i hi
    have e : i = 0 := by simpa using hi
    subst e
    rw [Fk.cellTop _ _ _ _ _ rfl]; rfl
  · intro i hi
    have e : i = 0 := by simpa using hi
    subst e
    rw [Fk.cellTop _ _ _ _ _ rfl]; rfl

theorem Fk.right_ok {L : List Fk.Fl} (h : Fk.right L = true) {k : Nat} (hk : k < L.length) : 0 ≤ Fk.sy L k ∧ Fk.sy L k ≤ (Fk.dt L k).size ∧ (Fk.dt L k).size ≤ 3000 := by
  have h2 := (Fk.right_inv L h).2 k hk
  simp only [Fk.step, Bool.and_eq_true] at h2
  have h3 := Fk.fok_inv h2.1
  exact ⟨h3.2.2.1, h3.2.2.2, h3.2.1⟩
namespace Ik
/-- how many bytes are kept besides -/
def more (T : List Int) (i : Nat) : Int := if i < T.length then max (at_ T i) 0 else 0
/-- a file behind a crash -/
def cr (L : List Fk.Fl) (T : List Int) (i : Nat) : Fk.Fl :=
  if Fk.right L then (Fk.nm L i, (Fk.dt L i).extract 0 (kept (Fk.dt L i) (Fk.sy L i) (more T i)).toNat, kept (Fk.dt L i) (Fk.sy L i) (more T i)) else (Fk.nm L i, Fk.dt L i, Fk.sy L i)
def crs (L : List Fk.Fl) (T : List Int) (k : Nat) : List Fk.Fl := (List.range k).map (cr L T)
theorem crs_next (L : List Fk.Fl) (T : List Int) (k : Nat) : crs L T k ++ [cr L T k] = crs L T (k + 1) := by simp [crs, List.range_succ]
/-- the files behind a crash, or none where the list is too long -/
def crash (L : List Fk.Fl) (T : List Int) : List Fk.Fl := if 400 < T.length then [] else crs L T L.length
theorem more_pos (T : List Int) (i : Nat) : 0 ≤ more T i := by unfold more; split <;> omega
end Ik

end Go.Proofs.YtojdfdlbdpdlkaaGreatDoor

namespace Go.Proofs.YtojdfdlbdpdlkaaGreatDoor
set_option linter.unusedSimpArgs false
set_option linter.unusedVariables false
namespace Jn
theorem ans_ok {o : Nat} {res : Int ⊕ List Fk.Fl} {R : List Fk.Fl} (h : Fk.Ans o res R 0) (hk : ∀ k, res = .inl k → k ≠ 0) : o = 0 ∧ ∃ M, res = .inr M ∧ Fk.Rises R ∧ ∀ g, g ∈ R ↔ g ∈ M := by
  rcases h with ⟨_, _, hc⟩ | ⟨_, _, hc⟩ | ⟨h0, ⟨k, e, _, hc⟩ | ⟨M, e, _, h1, h2⟩⟩
  · cases hc
  · cases hc
  · exact absurd hc.symm (hk k e)
  · exact ⟨h0, M, e, h1, h2⟩
theorem get_not {R : List Fk.Fl} {n : ByteArray} (h : ∀ f ∈ R, f.1 ≠ n) : Fk.get R n = none := by
  cases hg : Fk.get R n with
  | none => rfl
  | some g => exact absurd (Fk.get_some hg).2 (h g (Fk.get_some hg).1)
theorem dat_of {L : List Fk.Fl} {d : ByteArray} {s : Int} (h : Fk.get L name = some (name, d, s)) : dat L = d := by unfold dat; rw [h]
theorem dat_none {L : List Fk.Fl} (h : Fk.get L name = none) : dat L = ByteArray.empty := by unfold dat; rw [h]
theorem all_empty : all ByteArray.empty = [] := ents_end (one_end _ _ (by omega) (by simp) (by simp)) _
theorem kept_empty : kept ByteArray.empty = ByteArray.empty := by
  unfold kept
  rw [all_empty]
  rfl
/-- what was cleaned -/
theorem clean_read {L R : List Fk.Fl} (h : Fk.Ans (Fk.opn L []) (resClean L) R 0) : Fk.right L = true ∧ dat R = kept (dat L) ∧ (Fk.get R name = none ∨ Fk.get R name = some (name, dat R, ((dat R).size : Int))) := by
  obtain ⟨h0, M, e, h1, h2⟩ := ans_ok h (fun k e => by unfold resClean at e; split at e <;> cases e)
  have hr := Fk.opn_right L [] h0
  refine ⟨hr, ?_⟩
  unfold resClean at e
  cases hg : Fk.get L name with
  | none =>
    rw [hg] at e
    obtain rfl := Sum.inr.inj e
    have hR : Fk.get R name = none := get_not (fun f hf => Fk.get_none hg f ((h2 f).1 hf))
    exact ⟨by rw [dat_none hR, dat_none hg, kept_empty], .inl hR⟩
  | some f =>
    rw [hg] at e
    obtain rfl := Sum.inr.inj e
    have hR := get_one R h2
    exact ⟨by rw [dat_of hR, dat_some hg], .inr (by rw [dat_of hR]; exact hR)⟩
theorem clean_right {L R : List Fk.Fl} (h : Fk.Ans (Fk.opn L []) (resClean L) R 0) : Fk.right R = true := by
  obtain ⟨h0, M, e, h1, h2⟩ := ans_ok h (fun k e => by unfold resClean at e; split at e <;> cases e)
  have hr := Fk.opn_right L [] h0
  have h12 := (Fk.right_inv L hr).1
  unfold resClean at e
  cases hg : Fk.get L name with
  | none =>
    rw [hg] at e
    obtain rfl := Sum.inr.inj e
    have hl := Fk.len_of_subset h1 (fun g hg => (h2 g).1 hg)
    exact Fk.right_of h1 (by omega) (fun f hf => Fk.mem_ok hr ((h2 f).1 hf))
  | some f =>
    rw [hg] at e
    obtain rfl := Sum.inr.inj e
    have hl := Fk.len_of_subset h1 (fun g hg => (h2 g).1 hg)
    have hw := Fk.without_lt hg
    have hk : (kept f.2.1).size ≤ 3000 := by
      have h3 := (Fk.right_fit hr f (Fk.get_some hg).1).2
      unfold kept
      rw [ByteArray.size_extract]
      omega
    refine Fk.right_of h1 (by simp at hl; omega) (fun g hgm => ?_)
    rcases List.mem_append.1 ((h2 g).1 hgm) with h4 | h4
    · exact Fk.mem_ok hr (Fk.without_sub g h4)
    · rw [List.mem_singleton.1 h4]
      exact Fk.fok_yes name_right (by show ¬ (3000 : Int) < ((kept f.2.1).size : Int); omega) ⟨by show (0 : Int) ≤ ((kept f.2.1).size : Int); omega, Int.le_refl _⟩
/-- what was cleaned has just the texts that were there -/
theorem clean_texts {L R : List Fk.Fl} (h : Fk.Ans (Fk.opn L []) (resClean L) R 0) : rdT R = rdT L := by
  obtain ⟨hr, hd, _⟩ := clean_read h
  have h3 := dat_fit hr
  rw [(rd_ok hr).1, (rd_ok (clean_right h)).1, hd, all_kept _ (by omega)]
/-- what was added to -/
theorem add_read {R Z : List Fk.Fl} {t : ByteArray} {sy : Bool} (hr : Fk.right R = true) (hg : Fk.get R name = none ∨ Fk.get R name = some (name, dat R, ((dat R).size : Int))) (h : Fk.Ans (oAdd R t) (resAdd R t sy) Z 0) :
    t.size ≤ 300 ∧ Fk.right Z = true ∧ dat Z = dat R ++ record t ∧ ∃ x : Int, Fk.get Z name = some (name, dat Z, x) ∧ (sy = true → x = (dat Z).size) ∧ (sy = false → x = (dat R).size) := by
  obtain ⟨h0, M, e, h1, h2⟩ := ans_ok h (fun k e => by
    unfold resAdd at e
    split at e
    · rename_i j hj
      cases e
      unfold Fk.resAppend at hj
      split at hj
      · split at hj
        · cases hj; decide
        · split at hj
          · cases hj; decide
          · cases hj
      · split at hj
        · cases hj; decide
        · cases hj
    · split at e
      · unfold Fk.resSync at e
        split at e
        · cases e; decide
        · cases e
      · cases e)
  have h3 : ¬ 300 < t.size := by
    intro h3
    unfold oAdd at h0
    rw [if_neg (by simp [hr] : ¬ Fk.right R = false), if_pos h3] at h0
    split at h0 <;> cases h0
  have ha : ∃ N x, Fk.resAppend R name (record t) = .inr N ∧ N = Fk.without R name ++ [(name, dat R ++ record t, x)] ∧ x = ((dat R).size : Int) ∧ (dat R ++ record t).size ≤ 3000 ∧ (Fk.without R name).length + 1 ≤ 12 := by
    have h12 := (Fk.right_inv R hr).1
    unfold resAdd at e
    unfold Fk.resAppend at e ⊢
    rcases hg with hg | hg
    · rw [hg] at e ⊢
      have hw := Fk.without_len R name
      simp only at e ⊢
      by_cases c1 : 12 ≤ R.length
      · rw [if_pos c1] at e; cases e
      · rw [if_neg c1] at e ⊢
        by_cases c2 : 3000 < (record t).size
        · rw [if_pos c2] at e; cases e
        · rw [if_neg c2] at e ⊢
          rw [dat_none hg]
          exact ⟨_, _, rfl, rfl, by simp, by simp; omega, by omega⟩
    · rw [hg] at e ⊢
      have hw := Fk.without_lt hg
      simp only at e ⊢
      by_cases c1 : 3000 < (dat R).size + (record t).size
      · rw [if_pos c1] at e; cases e
      · rw [if_neg c1] at e ⊢
        exact ⟨_, _, rfl, rfl, rfl, by rw [ByteArray.size_append]; omega, by omega⟩
  obtain ⟨N, x, hN, hNe, hx, hsz, hlen⟩ := ha
  unfold resAdd at e
  rw [hN] at e
  simp only at e
  subst hNe
  have hmem : ∀ (y : Int) (K : List Fk.Fl), 0 ≤ y → y ≤ ((dat R ++ record t).size : Int) → (∀ g, g ∈ K ↔ g ∈ Fk.without R name ++ [(name, dat R ++ record t, y)]) → Fk.Rises K → Fk.right K = true := by
    intro y K hy0 hy1 hm hris
    have hl := Fk.len_of_subset hris (fun g hg => (hm g).1 hg)
    refine Fk.right_of hris (by simp at hl; omega) (fun g hgm => ?_)
    rcases List.mem_append.1 ((hm g).1 hgm) with h4 | h4
    · exact Fk.mem_ok hr (Fk.without_sub g h4)
    · rw [List.mem_singleton.1 h4]
      exact Fk.fok_yes name_right (by show ¬ (3000 : Int) < ((dat R ++ record t).size : Int); omega) ⟨hy0, hy1⟩
  have hz : (dat R ++ record t).size = (dat R).size + (record t).size := ByteArray.size_append
  cases sy with
  | false =>
    simp at e
    subst e
    have hZ := get_one Z h2
    have hd := dat_of hZ
    exact ⟨by omega, hmem x Z (by omega) (by omega) h2 h1, hd, x, by rw [hd]; exact hZ, by simp, fun _ => hx⟩
  | true =>
    simp only [if_true] at e
    obtain ⟨K, hK, hmK⟩ := sync_one (L := R) (d := dat R ++ record t) (s := x) _ (fun _ => Iff.rfl)
    rw [hK] at e
    obtain rfl := Sum.inr.inj e
    have h5 : ∀ g, g ∈ Z ↔ g ∈ Fk.without R name ++ [(name, dat R ++ record t, ((dat R ++ record t).size : Int))] := fun g => (h2 g).trans (hmK g)
    have hZ := get_one Z h5
    have hd := dat_of hZ
    exact ⟨by omega, hmem _ Z (by omega) (Int.le_refl _) h5 h1, hd, _, by rw [hd]; exact hZ, fun _ => by rw [hd], by simp⟩
end Jn
end Go.Proofs.YtojdfdlbdpdlkaaGreatDoor
