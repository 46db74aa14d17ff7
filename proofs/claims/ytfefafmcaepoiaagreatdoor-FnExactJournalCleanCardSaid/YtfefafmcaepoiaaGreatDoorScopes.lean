/- A scope in which the run jumps to several labels: what holds at each jump, and a measure that every pass from a label lowers. After the library's law for one label. -/
import Derived.Scope
import Derived.WalkMore
import Derived.WalkKit
namespace Go.Proofs.YtfefafmcaepoiaaGreatDoor
/-- a fact kept out of the walk's sight -/
theorem hide {p : Prop} (h : p) : RowKit.Hid p := h
/-- by a goto to a label: what is said of that label; else as Q -/
def jumps (J : Nat → Act → World → Prop) (Q : Exit → Act → World → Prop) : Exit → Act → World → Prop
  | .goto l, a, w => J l a w
  | e, a, w => Q e a w

section
variable {P : Program} {a : Act} {w : World} {Q : Exit → Act → World → Prop}

theorem wp_scope_labels {c : Code} (rest : Nat → Code) (J : Nat → Act → World → Prop) (μ : Nat → Act → World → Nat) (hf : ∀ l a w, J l a w → findLabel c l = some (rest l))
    (first : c.wp P (jumps J Q) a w)
    (pass : ∀ l a w, J l a w → (rest l).wp P (jumps (fun l' a' w' => J l' a' w' ∧ μ l' a' w' < μ l a w) Q) a w) : (Code.scope c).wp P Q a w := by
  intro b k cs
  have hg : ∀ l a w, J l a w → gotoIn l (.inScope c :: k) = some (.code (rest l) :: .inScope c :: k) := fun l a w h => by simp [gotoIn, hf l a w h]
  have key : ∀ n l a w, μ l a w = n → J l a w → ∃ e a' w', Q e a' w' ∧ Arrives P (lone (b.at a (.code (rest l) :: .inScope c :: k)) cs w) b k cs e a' w' := by
    intro n
    induction n using Nat.strongRecOn with
    | _ n ih =>
      intro l a w hn hJ
      obtain ⟨e, a₁, w₁, hq, harr⟩ := pass l a w hJ b (.inScope c :: k) cs
      cases e with
      | normal => exact ⟨.normal, a₁, w₁, hq, Steps.trans harr (.one step_inScope)⟩
      | exit id => exact ⟨.exit id, a₁, w₁, hq, fun k' hk => harr k' (by simp [exitTo, hk])⟩
      | goto l' =>
        obtain ⟨hJ', hlt⟩ := hq
        obtain ⟨e₂, a₂, w₂, hq₂, harr₂⟩ := ih _ (by omega) l' a₁ w₁ rfl hJ'
        exact ⟨e₂, a₂, w₂, hq₂, .of_steps (harr _ (hg l' a₁ w₁ hJ')) harr₂⟩
      | ret => exact ⟨_, a₁, w₁, hq, harr⟩
      | panic ch => exact ⟨_, a₁, w₁, hq, harr⟩
      | outgrown => exact ⟨_, a₁, w₁, hq, harr⟩
  obtain ⟨e, a₁, w₁, hq, harr⟩ := first b (.inScope c :: k) cs
  cases e with
  | normal => exact ⟨.normal, a₁, w₁, hq, .head step_scope (Steps.trans harr (.one step_inScope))⟩
  | exit id => exact ⟨.exit id, a₁, w₁, hq, fun k' hk => .head step_scope (harr k' (by simp [exitTo, hk]))⟩
  | goto l' =>
    obtain ⟨e₂, a₂, w₂, hq₂, harr₂⟩ := key _ l' a₁ w₁ rfl hq
    exact ⟨e₂, a₂, w₂, hq₂, .of_steps (.head step_scope (harr _ (hg l' a₁ w₁ hq))) harr₂⟩
  | ret => exact ⟨_, a₁, w₁, hq, .of_steps (.one step_scope) harr⟩
  | panic ch => exact ⟨_, a₁, w₁, hq, .of_steps (.one step_scope) harr⟩
  | outgrown => exact ⟨_, a₁, w₁, hq, .of_steps (.one step_scope) harr⟩

/-- three labels, 0, 1 and 2 -/
def three (J0 J1 J2 : Act → World → Prop) : Nat → Act → World → Prop
  | 0 => J0
  | 1 => J1
  | 2 => J2
  | _ => fun _ _ => False

theorem jumps_mono {c : Code} {J J' : Nat → Act → World → Prop} (h : ∀ l a w, J l a w → J' l a w) (hc : c.wp P (jumps J Q) a w) : c.wp P (jumps J' Q) a w := by
  intro b k cs
  obtain ⟨e, a', w', hq, harr⟩ := hc b k cs
  refine ⟨e, a', w', ?_, harr⟩
  cases e with
  | goto l => exact h l a' w' hq
  | normal => exact hq
  | exit id => exact hq
  | ret => exact hq
  | panic ch => exact hq
  | outgrown => exact hq

/-- label 1 is a loop's, from which label 2 and label 0 are met; from label 2 label 0; label 0 leaves -/
theorem wp_scope_three {c r0 r1 r2 : Code} (J0 J1 J2 : Act → World → Prop) (μ : Act → World → Nat) (h0 : findLabel c 0 = some r0) (h1 : findLabel c 1 = some r1) (h2 : findLabel c 2 = some r2)
    (first : c.wp P (jumps (three J0 J1 J2) Q) a w)
    (pass1 : ∀ a w, J1 a w → r1.wp P (jumps (three J0 (fun a' w' => J1 a' w' ∧ μ a' w' < μ a w) J2) Q) a w)
    (pass2 : ∀ a w, J2 a w → r2.wp P (jumps (three J0 (fun _ _ => False) (fun _ _ => False)) Q) a w)
    (pass0 : ∀ a w, J0 a w → r0.wp P (jumps (fun _ _ _ => False) Q) a w) : (Code.scope c).wp P Q a w := by
  refine wp_scope_labels (fun l => match l with | 0 => r0 | 1 => r1 | _ => r2) (three J0 J1 J2) (fun l a w => match l with | 0 => 0 | 1 => μ a w + 2 | _ => 1) ?_ first ?_
  · intro l a w h
    match l, h with
    | 0, _ => exact h0
    | 1, _ => exact h1
    | 2, _ => exact h2
  · intro l a w h
    match l, h with
    | 0, h => exact jumps_mono (fun _ _ _ h => h.elim) (pass0 a w h)
    | 1, h =>
      refine jumps_mono (fun l a' w' h' => ?_) (pass1 a w h)
      match l, h' with
      | 0, h' => exact ⟨h', by show 0 < μ a w + 2; omega⟩
      | 1, h' => exact ⟨h'.1, by have := h'.2; show μ a' w' + 2 < μ a w + 2; omega⟩
      | 2, h' => exact ⟨h', by show 1 < μ a w + 2; omega⟩
    | 2, h =>
      refine jumps_mono (fun l a' w' h' => ?_) (pass2 a w h)
      match l, h' with
      | 0, h' => exact ⟨h', by show 0 < 1; omega⟩
      | 1, h' => exact h'.elim
      | 2, h' => exact h'.elim
      | _ + 3, h' => exact h'.elim
end
end Go.Proofs.YtfefafmcaepoiaaGreatDoor
