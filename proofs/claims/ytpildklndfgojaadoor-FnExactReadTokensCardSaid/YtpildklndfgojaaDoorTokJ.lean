/- A scope with several labels: what holds at a jump to each, and a measure that every pass from a label on lowers; no Go text is spoken of here. -/
import Derived.Test.YtpildklndfgojaaDoorTokL
import Derived.WalkMore
import Derived.Scope
namespace Go.Proofs.YtpildklndfgojaaDoor.Tk
set_option linter.unusedVariables false
/-- A way out by a goto asks what stands for its label; each other one Q. -/
def jumps (J : Nat → Act → World → Prop) (Q : Exit → Act → World → Prop) : Exit → Act → World → Prop
  | .goto l, a, w => J l a w
  | e, a, w => Q e a w
theorem scope_many {P : Program} {a : Act} {w : World} {Q : Exit → Act → World → Prop} {c : Code} (J : Nat → Act → World → Prop) (μ : Nat → Act → World → Nat) (rest : Nat → Code)
    (hf : ∀ l a w, J l a w → findLabel c l = some (rest l)) (first : c.wp P (jumps J Q) a w)
    (pass : ∀ l a w, J l a w → (rest l).wp P (jumps (fun l' a' w' => J l' a' w' ∧ μ l' a' w' < μ l a w) Q) a w) : (Code.scope c).wp P Q a w := by
  intro b k cs
  have jump : ∀ l a w, J l a w → gotoIn l (.inScope c :: k) = some (.code (rest l) :: .inScope c :: k) := fun l a w h => by simp [gotoIn, hf l a w h]
  have runs : ∀ n l a w, μ l a w = n → J l a w → ∃ e a' w', Q e a' w' ∧ Arrives P (lone (b.at a (.code (rest l) :: .inScope c :: k)) cs w) b k cs e a' w' := by
    intro n
    induction n using Nat.strongRecOn with
    | _ n ih =>
      intro l a w hn hJ
      obtain ⟨e, a1, w1, hq, hr⟩ := pass l a w hJ b (.inScope c :: k) cs
      cases e with
      | goto l' =>
        obtain ⟨hJ', hlt⟩ := hq
        obtain ⟨e2, a2, w2, hq2, hr2⟩ := ih _ (by omega) l' a1 w1 rfl hJ'
        exact ⟨e2, a2, w2, hq2, .of_steps (hr _ (jump l' a1 w1 hJ')) hr2⟩
      | normal => exact ⟨.normal, a1, w1, hq, Steps.trans hr (.one step_inScope)⟩
      | exit id => exact ⟨.exit id, a1, w1, hq, fun k' hk => hr k' (by simp [exitTo, hk])⟩
      | ret => exact ⟨_, a1, w1, hq, hr⟩
      | panic ch => exact ⟨_, a1, w1, hq, hr⟩
      | outgrown => exact ⟨_, a1, w1, hq, hr⟩
  obtain ⟨e, a1, w1, hq, hr⟩ := first b (.inScope c :: k) cs
  cases e with
  | goto l =>
    obtain ⟨e2, a2, w2, hq2, hr2⟩ := runs _ l a1 w1 rfl hq
    exact ⟨e2, a2, w2, hq2, .of_steps (.head step_scope (hr _ (jump l a1 w1 hq))) hr2⟩
  | normal => exact ⟨.normal, a1, w1, hq, .head step_scope (Steps.trans hr (.one step_inScope))⟩
  | exit id => exact ⟨.exit id, a1, w1, hq, fun k' hk => .head step_scope (hr k' (by simp [exitTo, hk]))⟩
  | ret => exact ⟨_, a1, w1, hq, .of_steps (.one step_scope) hr⟩
  | panic ch => exact ⟨_, a1, w1, hq, .of_steps (.one step_scope) hr⟩
  | outgrown => exact ⟨_, a1, w1, hq, .of_steps (.one step_scope) hr⟩
/-- The code behind a label. -/
def behind (c : Code) (l : Nat) : Code := (findLabel c l).getD .skip
theorem scope_labels {P : Program} {a : Act} {w : World} {Q : Exit → Act → World → Prop} {c : Code} (J : Nat → Act → World → Prop) (μ : Nat → Act → World → Nat)
    (hf : ∀ l a w, J l a w → (findLabel c l).isSome = true) (first : c.wp P (jumps J Q) a w)
    (pass : ∀ l a w, J l a w → (behind c l).wp P (jumps (fun l' a' w' => J l' a' w' ∧ μ l' a' w' < μ l a w) Q) a w) : (Code.scope c).wp P Q a w :=
  scope_many J μ (behind c) (fun l a w h => by
    have := hf l a w h
    unfold behind
    cases e : findLabel c l with
    | none => rw [e] at this; cases this
    | some x => rfl) first pass
end Go.Proofs.YtpildklndfgojaaDoor.Tk
