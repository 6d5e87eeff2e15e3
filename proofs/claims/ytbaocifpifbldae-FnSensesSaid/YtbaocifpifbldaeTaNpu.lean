/-
  The nearest threat in plain numbers. No program here.
-/
import Derived.Test.YtbaocifpifbldaeTaPure
import Derived.Test.YtbaocifpifbldaeToTc
namespace Go.Proofs.Ytbaocifpifbldae
open Go

def nrT (oi oh oc os near wi : Int) (ps : List Tc) (k : Nat) : Bool := thB oi oh oc os (elAt ps k).a0 (elAt ps k).a1 (elAt ps k).a2 (elAt ps k).a3 (elAt ps k).a4 (elAt ps k).a5 near wi
def nrN (ps : List Tc) (k : Nat) : Int := tiN (elAt ps k).a0 (elAt ps k).a1 (elAt ps k).a2 (elAt ps k).a3 (elAt ps k).a4 (elAt ps k).a5
/-- The best place so far, and its ticks. -/
def nrS (oi oh oc os near wi : Int) (ps : List Tc) : Nat → Int × Int
  | 0 => (-1, 301)
  | k + 1 => if nrT oi oh oc os near wi ps k = true ∧ nrN ps k < (nrS oi oh oc os near wi ps k).2 then ((k : Int), nrN ps k) else nrS oi oh oc os near wi ps k
def nrI (oi oh oc os near wi : Int) (ps : List Tc) : Int := if ps.length ≤ 20 then (nrS oi oh oc os near wi ps ps.length).1 else -1
def nrB (oi oh oc os near wi : Int) (ps : List Tc) : Bool := decide (0 ≤ nrI oi oh oc os near wi ps)
theorem nrS_yes {oi oh oc os near wi : Int} {ps : List Tc} {k : Nat} (h1 : nrT oi oh oc os near wi ps k = true) (h2 : nrN ps k < (nrS oi oh oc os near wi ps k).2) : nrS oi oh oc os near wi ps (k + 1) = ((k : Int), nrN ps k) := by
  rw [nrS, if_pos ⟨h1, h2⟩]
theorem nrS_no {oi oh oc os near wi : Int} {ps : List Tc} {k : Nat} (h : nrT oi oh oc os near wi ps k = false ∨ ¬ nrN ps k < (nrS oi oh oc os near wi ps k).2) : nrS oi oh oc os near wi ps (k + 1) = nrS oi oh oc os near wi ps k := by
  rw [nrS, if_neg (by rcases h with h | h; rw [h]; simp; exact fun e => h e.2)]
theorem nrT_le {oi oh oc os near wi : Int} {ps : List Tc} {k : Nat} (h : nrT oi oh oc os near wi ps k = true) : 0 ≤ nrN ps k ∧ nrN ps k ≤ 300 := by
  have h1 := thB_facts h
  have h2 := tiN_bd (elAt ps k).a0 (elAt ps k).a1 (elAt ps k).a2 (elAt ps k).a3 (elAt ps k).a4 (elAt ps k).a5
  unfold nrN
  omega
theorem nrS_bd (oi oh oc os near wi : Int) (ps : List Tc) : ∀ k : Nat, (-1 ≤ (nrS oi oh oc os near wi ps k).1 ∧ (nrS oi oh oc os near wi ps k).1 < k) ∧ ((nrS oi oh oc os near wi ps k).1 < 0 → (nrS oi oh oc os near wi ps k).2 = 301) ∧ (0 ≤ (nrS oi oh oc os near wi ps k).1 → 0 ≤ (nrS oi oh oc os near wi ps k).2 ∧ (nrS oi oh oc os near wi ps k).2 ≤ 300)
  | 0 => by simp [nrS]
  | k + 1 => by
    have ih := nrS_bd oi oh oc os near wi ps k
    by_cases h : nrT oi oh oc os near wi ps k = true ∧ nrN ps k < (nrS oi oh oc os near wi ps k).2
    · rw [nrS_yes h.1 h.2]
      have := nrT_le h.1
      simp only
      omega
    · have : nrT oi oh oc os near wi ps k = false ∨ ¬ nrN ps k < (nrS oi oh oc os near wi ps k).2 := by
        cases e : nrT oi oh oc os near wi ps k
        · exact .inl rfl
        · exact .inr (fun g => h ⟨e, g⟩)
      rw [nrS_no this]
      omega

end Go.Proofs.Ytbaocifpifbldae
