/-
  A scope in which the run jumps, so many times at most: behind each jump it goes on at the label. No condition.
-/
import Derived.Scope
import Derived.Tactics2
namespace Go.Proofs.Ytfahhjgpgccdhad

/-- What is asked at an exit where a jump goes on at its label; n jumps at most. -/
def jumps (P : Program) (c : Code) (Q : Exit → Act → World → Prop) : Nat → Exit → Act → World → Prop
  | 0, .goto _, _, _ => False
  | n + 1, .goto l, a, w => ∃ rest, findLabel c l = some rest ∧ rest.wp P (jumps P c Q n) a w
  | _, .normal, a, w => Q .normal a w
  | _, .exit i, a, w => Q (.exit i) a w
  | _, .ret, a, w => Q .ret a w
  | _, .panic ch, a, w => Q (.panic ch) a w
  | _, .outgrown, a, w => Q .outgrown a w

section
variable {P : Program} {a : Act} {w : World} {Q : Exit → Act → World → Prop}

theorem wp_jumps_key {c : Code} (b : Frame) (k : List Item) (cs : List Frame) : ∀ (n : Nat) (c' : Code) (a : Act) (w : World), c'.wp P (jumps P c Q n) a w →
    ∃ e a' w', Q e a' w' ∧ Arrives P (lone (b.at a (.code c' :: .inScope c :: k)) cs w) b k cs e a' w' := by
  intro n
  induction n with
  | zero =>
    intro c' a w h
    obtain ⟨e, a₁, w₁, hq, harr⟩ := h b (.inScope c :: k) cs
    cases e with
    | normal => exact ⟨.normal, a₁, w₁, hq, Steps.trans harr (.one step_inScope)⟩
    | exit id => exact ⟨.exit id, a₁, w₁, hq, fun k' hk => harr k' (by simp [exitTo, hk])⟩
    | goto l => exact hq.elim
    | ret => exact ⟨_, a₁, w₁, hq, harr⟩
    | panic ch => exact ⟨_, a₁, w₁, hq, harr⟩
    | outgrown => exact ⟨_, a₁, w₁, hq, harr⟩
  | succ n ih =>
    intro c' a w h
    obtain ⟨e, a₁, w₁, hq, harr⟩ := h b (.inScope c :: k) cs
    cases e with
    | normal => exact ⟨.normal, a₁, w₁, hq, Steps.trans harr (.one step_inScope)⟩
    | exit id => exact ⟨.exit id, a₁, w₁, hq, fun k' hk => harr k' (by simp [exitTo, hk])⟩
    | goto l =>
      obtain ⟨rest, hf, hr⟩ := hq
      have hg : gotoIn l (.inScope c :: k) = some (.code rest :: .inScope c :: k) := by simp [gotoIn, hf]
      obtain ⟨e₂, a₂, w₂, hq₂, harr₂⟩ := ih rest a₁ w₁ hr
      exact ⟨e₂, a₂, w₂, hq₂, .of_steps (harr _ hg) harr₂⟩
    | ret => exact ⟨_, a₁, w₁, hq, harr⟩
    | panic ch => exact ⟨_, a₁, w₁, hq, harr⟩
    | outgrown => exact ⟨_, a₁, w₁, hq, harr⟩

theorem wp_scope_n {c : Code} (n : Nat) (h : ∀ Q', Q' = jumps P c Q n → c.wp P Q' a w) : (Code.scope c).wp P Q a w := by
  intro b k cs
  obtain ⟨e, a₁, w₁, hq, harr⟩ := wp_jumps_key b k cs n c a w (h _ rfl)
  exact ⟨e, a₁, w₁, hq, .of_steps (.one step_scope) harr⟩
theorem jumps_ret {c : Code} {n : Nat} {Q' : Exit → Act → World → Prop} (h : Q' = jumps P c Q n) (hq : Q .ret a w) : Q' .ret a w := by
  subst h; cases n <;> exact hq
theorem jumps_goto {c rest : Code} {n l : Nat} {Q' : Exit → Act → World → Prop} (h : Q' = jumps P c Q (n + 1)) (hf : findLabel c l = some rest) (hr : ∀ Q2, Q2 = jumps P c Q n → rest.wp P Q2 a w) : Q' (.goto l) a w := by
  subst h; exact ⟨rest, hf, hr _ rfl⟩
end

end Go.Proofs.Ytfahhjgpgccdhad
