/- Files in a map by their names: what a map holds, as a list of files of different names; the map's operations on it. No function of the program here. -/
import Derived.Test.YtojdfdlbdpdlkaaGreatDoorJoined6
import Derived.Maps.OwnSet
import Derived.StringKeys
namespace Go.Proofs.YtojdfdlbdpdlkaaGreatDoor
open Go.RowKit Go.Maps
namespace Fk
theorem toList_data (s : ByteArray) : s.toList = s.data.toList := ByteArray.toList_eq s
theorem data_inj {a b : ByteArray} (h : a.data.toList = b.data.toList) : a = b := by
  cases a; cases b
  simp only [ByteArray.mk.injEq]
  exact Array.toList_inj.1 h
theorem list_eq (a b : ByteArray) : (a.toList == b.toList) = decide (a = b) := by
  rw [toList_data, toList_data]
  by_cases h : a = b
  · subst h; simp
  · have : ¬ a.data.toList = b.data.toList := fun e => h (data_inj e)
    rw [decide_eq_false h]
    simpa using this
/-- a name as a key -/
def kl (s : ByteArray) : Lit := .string s.data.toList
theorem kl_inj {a b : ByteArray} (h : kl a = kl b) : a = b := data_inj (by simpa [kl] using h)
theorem kl_ne {a b : ByteArray} (h : a ≠ b) : kl a ≠ kl b := fun e => h (kl_inj e)
theorem kl_key (s : ByteArray) : WideAt.IsKeyLit (kl s) := trivial
/-- a file as it is read -/
def fd (f : Fl) : DataW Unit := .agg [.lit (.string f.1.data.toList), .lit (.string f.2.1.data.toList), .lit (.int .i64 f.2.2)]
theorem fd_inj {f g : Fl} (h : fd f = fd g) : f = g := by
  obtain ⟨a, b, c⟩ := f
  obtain ⟨a', b', c'⟩ := g
  simp only [fd, DataW.agg.injEq, List.cons.injEq, DataW.lit.injEq, Lit.string.injEq, Lit.int.injEq, and_true, true_and] at h
  rw [data_inj h.1, data_inj h.2.1, h.2.2]
/-- how a map's element reads -/
def rdFile : Value → Option (DataW Unit × List MemPlace)
  | .agg ⟨[.string a, .string b, .int .i64 s]⟩ => some (fd (a, b, s), [])
  | _ => none
theorem rdFile_mk (f : Fl) : rdFile (.agg #[.string f.1, .string f.2.1, .int .i64 f.2.2]) = some (fd f, []) := rfl
theorem rdFile_inv {v : Value} {f : Fl} {ps : List MemPlace} (h : rdFile v = some (fd f, ps)) : v = .agg #[.string f.1, .string f.2.1, .int .i64 f.2.2] := by
  unfold rdFile at h
  split at h
  · rename_i a b s
    simp only [Option.some.injEq, Prod.mk.injEq] at h
    have e := fd_inj h.1
    subst e
    rfl
  · cases h

/-- the map holds just these files, of different names -/
structure Mp (D : DataW Unit) (M : List Fl) : Prop where
  tidy : Tidy D
  has : ∀ name, Maps.has D (kl name) = M.any (fun f => decide (f.1 = name))
  at_ : ∀ f ∈ M, ∀ z, D.atKey (kl f.1) z = fd f
  size : Maps.size D = M.length
  strs : ∀ es, D = .map es → ∀ p ∈ es, ∃ n : ByteArray, p.1 = kl n
  apart : M.Pairwise (fun f g => f.1 ≠ g.1)

theorem mp_empty : Mp (.map []) [] := ⟨tidy_empty, fun _ => rfl, (fun f hf => by cases hf), rfl, (fun es e p hp => by simp only [DataW.map.injEq] at e; rw [← e] at hp; cases hp), List.Pairwise.nil⟩

theorem mem_ins {H : Type} (x y : Lit × DataW H) : ∀ l : List (Lit × DataW H), y ∈ DataW.insert x l → y = x ∨ y ∈ l
  | [], h => by simp [DataW.insert] at h; exact .inl h
  | z :: r, h => by
    unfold DataW.insert at h
    split at h
    · rcases List.mem_cons.1 h with h | h
      · exact .inl h
      · exact .inr h
    · rcases List.mem_cons.1 h with h | h
      · exact .inr (by rw [h]; exact List.mem_cons_self ..)
      · rcases mem_ins x y r h with h | h
        · exact .inl h
        · exact .inr (List.mem_cons_of_mem _ h)

theorem any_false {M : List Fl} {name : ByteArray} (h : M.any (fun f => decide (f.1 = name)) = false) : ∀ f ∈ M, f.1 ≠ name := by
  intro f hf e
  rw [List.any_eq_false] at h
  exact h f hf (by simp [e])

/-- a new name -/
theorem Mp.add {D : DataW Unit} {M : List Fl} (h : Mp D M) (f : Fl) (hn : ∀ g ∈ M, g.1 ≠ f.1) : Mp (D.put (kl f.1) (fd f)) (M ++ [f]) := by
  have h0 : Maps.has D (kl f.1) = false := by
    rw [h.has, List.any_eq_false]
    intro g hg
    simpa using hn g hg
  refine ⟨h.tidy.put (kl_key _) _, fun name => ?_, fun g hg z => ?_, ?_, fun es e p hp => ?_, ?_⟩
  · rw [List.any_append]
    by_cases e : f.1 = name
    · subst e
      rw [has_put_same h.tidy.isMap (kl_key _)]
      simp
    · rw [has_put_other (kl_ne (fun x => e x.symm)), h.has]
      simp [e]
  · rw [List.mem_append] at hg
    rcases hg with hg | hg
    · rw [atKey_put_other (kl_ne (hn g hg))]
      exact h.at_ g hg z
    · have e : g = f := by simpa using hg
      subst e
      exact atKey_put_same h.tidy.isMap (kl_key _) _ _
  · rw [size_put h.tidy, h0, h.size]
    simp
  · obtain ⟨es0, rfl⟩ := h.tidy.isMap
    simp only [DataW.put, DataW.map.injEq] at e
    rw [← e] at hp
    rcases mem_ins _ _ _ hp with h1 | h1
    · exact ⟨f.1, by rw [h1]⟩
    · exact h.strs es0 rfl p (List.mem_filter.1 h1).1
  · rw [List.pairwise_append]
    refine ⟨h.apart, List.pairwise_singleton _ _, fun g hg x hx => ?_⟩
    have e : x = f := by simpa using hx
    subst e
    exact hn g hg

/-- a name goes -/
theorem Mp.drop {D : DataW Unit} {M : List Fl} (h : Mp D M) (name : ByteArray) : Mp (D.del (kl name)) (M.filter (fun f => !decide (f.1 = name))) := by
  have hsz : ∀ M : List Fl, M.Pairwise (fun f g => f.1 ≠ g.1) → (M.filter (fun f => !decide (f.1 = name))).length + (if M.any (fun f => decide (f.1 = name)) then 1 else 0) = M.length := by
    intro M hM
    induction M with
    | nil => rfl
    | cons f r ih =>
      have hr := ih (List.pairwise_cons.1 hM).2
      by_cases e : f.1 = name
      · have hno : r.any (fun f => decide (f.1 = name)) = false := by
          rw [List.any_eq_false]
          intro g hg
          have := (List.pairwise_cons.1 hM).1 g hg
          rw [e] at this
          simpa using fun x => this x.symm
        rw [hno] at hr
        simp [e] at hr ⊢
        omega
      · have hd : decide (f.1 = name) = false := decide_eq_false e
        rw [List.filter_cons_of_pos (by simp [hd]), List.any_cons, hd, Bool.false_or, List.length_cons, List.length_cons]
        omega
  refine ⟨h.tidy.del _, fun n => ?_, fun g hg z => ?_, ?_, fun es e p hp => ?_, h.apart.filter _⟩
  · by_cases e : name = n
    · subst e
      rw [has_del_same]
      symm
      rw [List.any_eq_false]
      intro g hg
      have := (List.mem_filter.1 hg).2
      simpa using this
    · rw [has_del_other (kl_ne (fun x => e x.symm)), h.has, List.any_filter]
      congr 1
      funext g
      by_cases eg : g.1 = n
      · have : ¬ g.1 = name := fun x => e (x.symm.trans eg)
        simp [eg, show ¬ n = name from fun x => e x.symm]
      · simp [eg]
  · obtain ⟨hg1, hg2⟩ := List.mem_filter.1 hg
    have : g.1 ≠ name := by simpa using hg2
    rw [atKey_del_other (kl_ne this)]
    exact h.at_ g hg1 z
  · have h1 := size_del (k := kl name) h.tidy
    have h2 := hsz M h.apart
    rw [h.has, h.size] at h1
    omega
  · obtain ⟨es0, rfl⟩ := h.tidy.isMap
    simp only [DataW.del, DataW.map.injEq] at e
    rw [← e] at hp
    exact h.strs es0 rfl p (List.mem_filter.1 hp).1

/-- the files but for one name -/
def without (M : List Fl) (name : ByteArray) : List Fl := M.filter (fun f => !decide (f.1 = name))

/-- a name laid anew -/
theorem Mp.set {D : DataW Unit} {M : List Fl} (h : Mp D M) (f : Fl) : Mp (D.put (kl f.1) (fd f)) (without M f.1 ++ [f]) := by
  have hd := h.drop f.1
  have e : D.put (kl f.1) (fd f) = (D.del (kl f.1)).put (kl f.1) (fd f) := by
    obtain ⟨es, rfl⟩ := h.tidy.isMap
    simp [DataW.put, DataW.del, List.filter_filter]
  rw [e]
  refine hd.add f (fun g hg => ?_)
  have := (List.mem_filter.1 hg).2
  simpa using this

/-- the file of a name -/
def get (M : List Fl) (name : ByteArray) : Option Fl := M.find? (fun f => decide (f.1 = name))
theorem get_some {M : List Fl} {name : ByteArray} {f : Fl} (h : get M name = some f) : f ∈ M ∧ f.1 = name := by
  unfold get at h
  exact ⟨List.mem_of_find?_eq_some h, by simpa using List.find?_some h⟩
theorem get_none {M : List Fl} {name : ByteArray} (h : get M name = none) : ∀ f ∈ M, f.1 ≠ name := by
  unfold get at h
  intro f hf
  simpa using List.find?_eq_none.1 h f hf
theorem Mp.has_some {D : DataW Unit} {M : List Fl} (h : Mp D M) {name : ByteArray} {f : Fl} (hf : get M name = some f) : Maps.has D (kl name) = true := by
  rw [h.has, List.any_eq_true]
  exact ⟨f, (get_some hf).1, by simp [(get_some hf).2]⟩
theorem Mp.has_none {D : DataW Unit} {M : List Fl} (h : Mp D M) {name : ByteArray} (hf : get M name = none) : Maps.has D (kl name) = false := by
  rw [h.has, List.any_eq_false]
  intro f hm
  simpa using get_none hf f hm
theorem Mp.at_some {D : DataW Unit} {M : List Fl} (h : Mp D M) {name : ByteArray} {f : Fl} (hf : get M name = some f) (z : DataW Unit) : D.atKey (kl name) z = fd f := by
  rw [← (get_some hf).2]
  exact h.at_ f (get_some hf).1 z
theorem Mp.at_none {D : DataW Unit} {M : List Fl} (h : Mp D M) {name : ByteArray} (hf : get M name = none) (z : DataW Unit) : D.atKey (kl name) z = z := atKey_of_not_has (h.has_none hf) z

section
variable {P : Program} (w : World) {ops : Array Oper} {rest : List Oper} {o : Oper} {a : Act} {Q : Exit → Act → World → Prop}
/-- a look-up with 'ok': there is a file of that name -/
theorem wpList_look_hit (hg : o.guard = none) (m x : Operand) (t : TypeId) (hop : o.op = Op.lookup t m x true)
    (k e : TypeId) (K : Keyed P k) (ht : P.underlying t = some (.map k e)) (hz : (zeroValue e).run P w = .ok (.agg #[.string ByteArray.empty, .string ByteArray.empty, .int .i64 0]) w) (b n : Nat) (D : DataW Unit) (M : List Fl) (name : ByteArray) (f : Fl)
    (hm : a.eval m = .map (some b)) (hown : w.ownsMap P k rdFile b n D) (hM : Mp D M) (hf : get M name = some f) (key : Value) (hx : a.eval x = key) (hkey : keyOf P k key = some (kl name))
    (hK : wpList P ops Q rest (a.put o.dst (.tuple #[.agg #[.string f.1, .string f.2.1, .int .i64 f.2.2], .bool true])) w) :
    wpList P ops Q (o :: rest) a w :=
  wpList_lookup_own_ok w hg m x t hop k e K ht rdFile hz (fd none_) [] (rdFile_mk none_) b n D hm hown key (kl name) hx hkey (fun v ps hv => by
    rw [hM.at_some hf] at hv
    rw [hM.has_some hf, rdFile_inv hv]
    exact hK)
/-- .. there is none -/
theorem wpList_look_miss (hg : o.guard = none) (m x : Operand) (t : TypeId) (hop : o.op = Op.lookup t m x true)
    (k e : TypeId) (K : Keyed P k) (ht : P.underlying t = some (.map k e)) (hz : (zeroValue e).run P w = .ok (.agg #[.string ByteArray.empty, .string ByteArray.empty, .int .i64 0]) w) (b n : Nat) (D : DataW Unit) (M : List Fl) (name : ByteArray)
    (hm : a.eval m = .map (some b)) (hown : w.ownsMap P k rdFile b n D) (hM : Mp D M) (hf : get M name = none) (key : Value) (hx : a.eval x = key) (hkey : keyOf P k key = some (kl name))
    (hK : wpList P ops Q rest (a.put o.dst (.tuple #[.agg #[.string ByteArray.empty, .string ByteArray.empty, .int .i64 0], .bool false])) w) :
    wpList P ops Q (o :: rest) a w :=
  wpList_lookup_own_ok w hg m x t hop k e K ht rdFile hz (fd none_) [] (rdFile_mk none_) b n D hm hown key (kl name) hx hkey (fun v ps hv => by
    rw [hM.at_none hf] at hv
    rw [hM.has_none hf, rdFile_inv hv]
    exact hK)
/-- a look-up without 'ok', of a name that is there -/
theorem wpList_look_bare (hg : o.guard = none) (m x : Operand) (t : TypeId) (hop : o.op = Op.lookup t m x false)
    (k e : TypeId) (K : Keyed P k) (ht : P.underlying t = some (.map k e)) (hz : (zeroValue e).run P w = .ok (.agg #[.string ByteArray.empty, .string ByteArray.empty, .int .i64 0]) w) (b n : Nat) (D : DataW Unit) (M : List Fl) (name : ByteArray) (f : Fl)
    (hm : a.eval m = .map (some b)) (hown : w.ownsMap P k rdFile b n D) (hM : Mp D M) (hf : get M name = some f) (key : Value) (hx : a.eval x = key) (hkey : keyOf P k key = some (kl name))
    (hK : wpList P ops Q rest (a.put o.dst (.agg #[.string f.1, .string f.2.1, .int .i64 f.2.2])) w) :
    wpList P ops Q (o :: rest) a w := by
  refine wpList_plain hg fun K' hK' => ?_
  obtain ⟨v, ps, hrun, hv⟩ := hown.lookup K ht hz (rdFile_mk none_) hkey
  rw [hM.at_some hf] at hv
  rw [rdFile_inv hv] at hrun
  unfold Oper.wp
  simp [execOp, hop, hm, hx, hrun, Result.andThen]
  exact hK' _ _ hK
end
end Fk
end Go.Proofs.YtojdfdlbdpdlkaaGreatDoor
