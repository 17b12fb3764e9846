import Derived.WalkKit
import Derived.ScopeJumps
import Derived.WalkMore
/- A scope with labels that are jumped to: forward jumps walked on from where they land; jumps that come again, by what holds at each. -/
namespace Kn
open Go

/-- As Q; by a goto to a label of c: what stands behind the label, so many times. -/
def gotos (P : Program) (c : Code) (Q : Exit → Act → World → Prop) : Nat → Exit → Act → World → Prop
  | 0, .goto _, _, _ => False
  | n + 1, .goto l, a, w => ∃ rest, findLabel c l = some rest ∧ rest.wp P (gotos P c Q n) a w
  | _, e, a, w => Q e a w

theorem gotos_normal {P : Program} {c : Code} {Q : Exit → Act → World → Prop} {n : Nat} {a : Act} {w : World} : gotos P c Q n .normal a w = Q .normal a w := by cases n <;> rfl
theorem gotos_exit {P : Program} {c : Code} {Q : Exit → Act → World → Prop} {n i : Nat} {a : Act} {w : World} : gotos P c Q n (.exit i) a w = Q (.exit i) a w := by cases n <;> rfl
theorem gotos_ret {P : Program} {c : Code} {Q : Exit → Act → World → Prop} {n : Nat} {a : Act} {w : World} : gotos P c Q n .ret a w = Q .ret a w := by cases n <;> rfl
theorem gotos_panic {P : Program} {c : Code} {Q : Exit → Act → World → Prop} {n : Nat} {ch : List PanicEntry} {a : Act} {w : World} : gotos P c Q n (.panic ch) a w = Q (.panic ch) a w := by cases n <;> rfl
theorem gotos_outgrown {P : Program} {c : Code} {Q : Exit → Act → World → Prop} {n : Nat} {a : Act} {w : World} : gotos P c Q n .outgrown a w = Q .outgrown a w := by cases n <;> rfl
theorem gotos_goto {P : Program} {c : Code} {Q : Exit → Act → World → Prop} {n l : Nat} {a : Act} {w : World} {rest : Code} (hf : findLabel c l = some rest) (h : rest.wp P (gotos P c Q n) a w) : gotos P c Q (n + 1) (.goto l) a w := ⟨rest, hf, h⟩

/-- By a goto: J of its label; else Q. -/
def byLabel (J : Nat → Act → World → Prop) (Q : Exit → Act → World → Prop) : Exit → Act → World → Prop
  | .goto l, a, w => J l a w
  | e, a, w => Q e a w

/-- Jumps that come again: J n l: what holds at a jump to label l, with n to go. -/
theorem wp_scope_labels {P : Program} {a : Act} {w : World} {Q : Exit → Act → World → Prop} {c : Code} (J : Nat → Nat → Act → World → Prop)
    (first : c.wp P (byLabel (fun l a w => ∃ n, J n l a w) Q) a w)
    (pass : ∀ n l a w, J n l a w → ∃ rest, findLabel c l = some rest ∧ rest.wp P (byLabel (fun l' a' w' => ∃ n', n' < n ∧ J n' l' a' w') Q) a w) : (Code.scope c).wp P Q a w := by
  intro b k cs
  have key : ∀ n l a w, J n l a w → ∃ e a' w', Q e a' w' ∧ ∀ rest, findLabel c l = some rest → Arrives P (lone (b.at a (.code rest :: .inScope c :: k)) cs w) b k cs e a' w' := by
    intro n
    induction n using Nat.strongRecOn with
    | _ n ih =>
      intro l a w hJ
      obtain ⟨rest, hf, hw⟩ := pass n l a w hJ
      obtain ⟨e, a₁, w₁, hq, harr⟩ := hw b (.inScope c :: k) cs
      have one : ∀ {r}, findLabel c l = some r → r = rest := fun h => by rw [hf] at h; injection h with h; exact h.symm
      cases e with
      | normal => exact ⟨.normal, a₁, w₁, hq, fun r hr => by rw [one hr]; exact Steps.trans harr (.one step_inScope)⟩
      | exit id => exact ⟨.exit id, a₁, w₁, hq, fun r hr => by rw [one hr]; exact fun k' hk => harr k' (by simp [exitTo, hk])⟩
      | goto l' =>
        obtain ⟨n', hlt, hJ'⟩ := hq
        obtain ⟨rest', hf', _⟩ := pass n' l' a₁ w₁ hJ'
        have hg : gotoIn l' (.inScope c :: k) = some (.code rest' :: .inScope c :: k) := by simp [gotoIn, hf']
        obtain ⟨e₂, a₂, w₂, hq₂, harr₂⟩ := ih _ hlt l' a₁ w₁ hJ'
        exact ⟨e₂, a₂, w₂, hq₂, fun r hr => by rw [one hr]; exact .of_steps (harr _ hg) (harr₂ rest' hf')⟩
      | ret => exact ⟨_, a₁, w₁, hq, fun r hr => by rw [one hr]; exact harr⟩
      | panic ch => exact ⟨_, a₁, w₁, hq, fun r hr => by rw [one hr]; exact harr⟩
      | outgrown => exact ⟨_, a₁, w₁, hq, fun r hr => by rw [one hr]; exact harr⟩
  obtain ⟨e, a₁, w₁, hq, harr⟩ := first b (.inScope c :: k) cs
  cases e with
  | normal => exact ⟨.normal, a₁, w₁, hq, .head step_scope (Steps.trans harr (.one step_inScope))⟩
  | exit id => exact ⟨.exit id, a₁, w₁, hq, fun k' hk => .head step_scope (harr k' (by simp [exitTo, hk]))⟩
  | goto l' =>
    obtain ⟨n, hJ'⟩ := hq
    obtain ⟨rest', hf', _⟩ := pass n l' a₁ w₁ hJ'
    have hg : gotoIn l' (.inScope c :: k) = some (.code rest' :: .inScope c :: k) := by simp [gotoIn, hf']
    obtain ⟨e₂, a₂, w₂, hq₂, harr₂⟩ := key _ l' a₁ w₁ hJ'
    exact ⟨e₂, a₂, w₂, hq₂, .of_steps (.head step_scope (harr _ hg)) (harr₂ rest' hf')⟩
  | ret => exact ⟨_, a₁, w₁, hq, .of_steps (.one step_scope) harr⟩
  | panic ch => exact ⟨_, a₁, w₁, hq, .of_steps (.one step_scope) harr⟩
  | outgrown => exact ⟨_, a₁, w₁, hq, .of_steps (.one step_scope) harr⟩

theorem wp_mono' {P : Program} {c : Code} {Q Q' : Exit → Act → World → Prop} {a : Act} {w : World} (h : c.wp P Q a w) (hQ : ∀ e a w, Q e a w → Q' e a w) : c.wp P Q' a w := by
  intro b k cs
  obtain ⟨e, a₁, w₁, hq, harr⟩ := h b k cs
  exact ⟨e, a₁, w₁, hQ _ _ _ hq, harr⟩

/-- Forward jumps: so many of them at most, each walked on from where it lands. -/
theorem wp_scope_gotos {P : Program} {a : Act} {w : World} {Q : Exit → Act → World → Prop} {c : Code} (n : Nat) (h : c.wp P (gotos P c Q n) a w) : (Code.scope c).wp P Q a w := by
  refine wp_scope_labels (fun m l a w => gotos P c Q m (.goto l) a w) (wp_mono' h ?_) ?_
  · intro e a w he
    cases e with
    | goto l => exact ⟨n, he⟩
    | normal => rw [gotos_normal] at he; exact he
    | exit i => rw [gotos_exit] at he; exact he
    | ret => rw [gotos_ret] at he; exact he
    | panic ch => rw [gotos_panic] at he; exact he
    | outgrown => rw [gotos_outgrown] at he; exact he
  · intro m l a w hm
    cases m with
    | zero => exact hm.elim
    | succ m =>
      obtain ⟨rest, hf, hw⟩ := hm
      refine ⟨rest, hf, wp_mono' hw ?_⟩
      intro e a w he
      cases e with
      | goto l => exact ⟨m, Nat.lt_succ_self m, he⟩
      | normal => rw [gotos_normal] at he; exact he
      | exit i => rw [gotos_exit] at he; exact he
      | ret => rw [gotos_ret] at he; exact he
      | panic ch => rw [gotos_panic] at he; exact he
      | outgrown => rw [gotos_outgrown] at he; exact he

/-- The same, with the ways out behind a name. -/
theorem wp_scope_walk {P : Program} {a : Act} {w : World} {Q : Exit → Act → World → Prop} {c : Code} (n : Nat)
    (h : ∀ G : Nat → Exit → Act → World → Prop, RowKit.Hid (∀ m a w, Q .ret a w → G m .ret a w) → RowKit.Hid (∀ m l rest a w, findLabel c l = some rest → rest.wp P (G m) a w → G (m + 1) (.goto l) a w) → c.wp P (G n) a w) : (Code.scope c).wp P Q a w :=
  wp_scope_gotos n (h (gotos P c Q) (fun m a w hq => by show gotos P c Q m .ret a w; rw [gotos_ret]; exact hq) (fun m l rest a w hf hw => ⟨rest, hf, hw⟩))

end Kn

/- A scope with labels that are jumped to again and again. -/
namespace Kn
open Go
set_option linter.unusedVariables false

/-- Jumps that come again, the ways out behind a name. -/
theorem wp_scope_again {P : Program} {a : Act} {w : World} {Q : Exit → Act → World → Prop} {c : Code} (J : Nat → Nat → Act → World → Prop) (N : Nat)
    (first : ∀ G : Exit → Act → World → Prop, RowKit.Hid (∀ a w, Q .ret a w → G .ret a w) → RowKit.Hid (∀ n l a w, n < N → J n l a w → G (.goto l) a w) → c.wp P G a w)
    (pass : ∀ n l a w, J n l a w → ∀ G : Exit → Act → World → Prop, RowKit.Hid (∀ a w, Q .ret a w → G .ret a w) → RowKit.Hid (∀ n' l' a' w', n' < n → J n' l' a' w' → G (.goto l') a' w') → ∃ rest, findLabel c l = some rest ∧ rest.wp P G a w) : (Code.scope c).wp P Q a w :=
  wp_scope_labels J (first _ (fun a w h => h) (fun n l a w _ h => ⟨n, h⟩)) (fun n l a w h => pass n l a w h _ (fun a w h => h) (fun n' l' a' w' hlt h => ⟨n', hlt, h⟩))

/-- The same, where the first way comes to a label by itself. -/
theorem wp_scope_from {P : Program} {a : Act} {w : World} {Q : Exit → Act → World → Prop} {c : Code} (J : Nat → Nat → Act → World → Prop)
    (pass : ∀ n l a w, J n l a w → ∀ G : Exit → Act → World → Prop, RowKit.Hid (∀ a w, Q .ret a w → G .ret a w) → RowKit.Hid (∀ n' l' a' w', n' < n → J n' l' a' w' → G (.goto l') a' w') → ∃ rest, findLabel c l = some (.seq .skip rest) ∧ rest.wp P G a w)
    (first : ∀ G : Exit → Act → World → Prop, RowKit.Hid (∀ n l rest a w, J n l a w → findLabel c l = some (.seq .skip rest) → rest.wp P G a w) → c.wp P G a w) : (Code.scope c).wp P Q a w :=
  wp_scope_labels J (first _ (fun n l rest a w h hf => by
    obtain ⟨rest', hf', hw⟩ := pass n l a w h (byLabel (fun l a w => ∃ n, J n l a w) Q) (fun a w h => h) (fun n' l' a' w' _ h => ⟨n', h⟩)
    rw [hf] at hf'
    injection hf' with e
    injection e with _ e
    rw [e]; exact hw)) (fun n l a w h => by
      obtain ⟨rest, hf, hw⟩ := pass n l a w h (byLabel (fun l' a' w' => ∃ n', n' < n ∧ J n' l' a' w') Q) (fun a w h => h) (fun n' l' a' w' hlt h => ⟨n', hlt, h⟩)
      exact ⟨_, hf, wp_seq (wp_skip hw)⟩)

end Kn
