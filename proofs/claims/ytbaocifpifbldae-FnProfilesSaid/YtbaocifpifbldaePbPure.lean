/-
  The best first height, in plain numbers.
-/
import Derived.Test.YtbaocifpifbldaePfPrOn

namespace Go.Proofs.Ytbaocifpifbldae
open Go.RowKit

/-- How far a way rises and falls in all, over its first k + 1 heights. -/
def wsm (zs : List Int) : Nat → Int
  | 0 => 0
  | k + 1 => wsm zs k + ((nth zs (k + 1) - nth zs k).natAbs : Int)
/-- The whole way's. -/
def wsA (ps : List Po) (up down first : Int) : Int := wsm (pfL ps up down first) ((pfL ps up down first).length - 1)
/-- The best of the first n heights, and its sum. -/
def bsS (ps : List Po) (up down : Int) : Nat → Int × Int
  | 0 => (0, -1)
  | n + 1 => if (pfB ps up down ((elAt ps 0).a1 + n) && (decide ((bsS ps up down n).2 < 0) || decide (wsA ps up down ((elAt ps 0).a1 + n) < (bsS ps up down n).2))) = true then ((elAt ps 0).a1 + n, wsA ps up down ((elAt ps 0).a1 + n)) else bsS ps up down n
def bsK (ps : List Po) : Bool := poB ps && decide ((elAt ps 0).a2 ≤ 300)
def bsR (ps : List Po) (up down : Int) : Int × Int := if bsK ps = true then bsS ps up down ((elAt ps 0).a2 - (elAt ps 0).a1 + 1).toNat else (0, -1)
def bsI (ps : List Po) (up down : Int) : Int := (bsR ps up down).1
def bsB (ps : List Po) (up down : Int) : Bool := decide (0 ≤ (bsR ps up down).2)
theorem pfL_bd (ps : List Po) (up down first : Int) : ∀ i, i < (pfL ps up down first).length → 0 ≤ nth (pfL ps up down first) i ∧ nth (pfL ps up down first) i ≤ 100000 := by
  intro i hi
  by_cases h : pfB ps up down first = true
  · have e : pfL ps up down first = prL ps up down first ps.length := by simp [pfL, h]
    rw [e, prL_len] at hi
    rw [e, prL_at hi]
    unfold pfB at h
    simp only [Bool.and_eq_true] at h
    exact prA_bd h.1.1.1 h.1.1.2 h.1.2 h.2 i hi
  · have e : pfL ps up down first = [] := by simp [pfL, h]
    rw [e] at hi
    simp at hi
theorem wsm_bd {zs : List Int} (h : ∀ i, i < zs.length → 0 ≤ nth zs i ∧ nth zs i ≤ 100000) : ∀ k : Nat, k < zs.length → 0 ≤ wsm zs k ∧ wsm zs k ≤ 100000 * (k : Int)
  | 0, _ => by simp [wsm]
  | k + 1, hk => by
    have ih := wsm_bd h k (by omega)
    have h1 := h (k + 1) hk
    have h2 := h k (by omega)
    show 0 ≤ wsm zs k + _ ∧ wsm zs k + _ ≤ _
    omega
theorem bsS_no {ps : List Po} {up down : Int} {n : Nat} (h : pfB ps up down ((elAt ps 0).a1 + n) = false) : bsS ps up down (n + 1) = bsS ps up down n := by simp [bsS, h]
theorem bsS_keep {ps : List Po} {up down : Int} {n : Nat} (h1 : ¬ (bsS ps up down n).2 < 0) (h2 : ¬ wsA ps up down ((elAt ps 0).a1 + n) < (bsS ps up down n).2) : bsS ps up down (n + 1) = bsS ps up down n := by
  show (if _ then _ else _) = _
  rw [if_neg]
  simp [h1, h2]
theorem bsS_take {ps : List Po} {up down : Int} {n : Nat} (h : pfB ps up down ((elAt ps 0).a1 + n) = true) (h1 : (bsS ps up down n).2 < 0 ∨ wsA ps up down ((elAt ps 0).a1 + n) < (bsS ps up down n).2) : bsS ps up down (n + 1) = ((elAt ps 0).a1 + n, wsA ps up down ((elAt ps 0).a1 + n)) := by
  show (if _ then _ else _) = _
  rw [if_pos]
  simp only [h, Bool.true_and, Bool.or_eq_true, decide_eq_true_eq]
  exact h1

end Go.Proofs.Ytbaocifpifbldae
