/-
  Buses that point towards the least one of their island: roots, and what a new pointer between two roots does. No program here.
-/
import Derived.Test.YtfahhjgpgccdhacIslePure
namespace Go.Proofs.Ytfahhjgpgccdhac
open Go

/-- Where the pointers lead to. -/
def rootOf (par : Nat → Nat) (i : Nat) : Nat := if par i < i then rootOf par (par i) else i
termination_by i

theorem rootOf_stop {par : Nat → Nat} {i : Nat} (h : ¬ par i < i) : rootOf par i = i := by rw [rootOf, if_neg h]
theorem rootOf_go {par : Nat → Nat} {i : Nat} (h : par i < i) : rootOf par i = rootOf par (par i) := by rw [rootOf, if_pos h]
theorem rootOf_le (par : Nat → Nat) (i : Nat) : rootOf par i ≤ i := by
  induction i using Nat.strongRecOn with
  | ind i ih =>
    by_cases h : par i < i
    · rw [rootOf_go h]; have := ih _ h; omega
    · rw [rootOf_stop h]; exact Nat.le_refl _
theorem rootOf_root (par : Nat → Nat) (i : Nat) : ¬ par (rootOf par i) < rootOf par i := by
  induction i using Nat.strongRecOn with
  | ind i ih =>
    by_cases h : par i < i
    · rw [rootOf_go h]; exact ih _ h
    · rw [rootOf_stop h]; exact h
/-- Pointers that join what is joined. -/
structure Forest (N : Nat) (ts : List Ti) (par : Nat → Nat) : Prop where
  le : ∀ i, i < N → par i ≤ i
  conn : ∀ i : Nat, i < N → Conn ts i (par i : Nat)
theorem Forest.root {N : Nat} {ts : List Ti} {par : Nat → Nat} (h : Forest N ts par) : ∀ i : Nat, i < N → Conn ts i (rootOf par i : Nat) := by
  intro i
  induction i using Nat.strongRecOn with
  | ind i ih =>
    intro hi
    by_cases g : par i < i
    · rw [rootOf_go g]; exact (h.conn i hi).trans (ih _ g (by omega))
    · rw [rootOf_stop g]; exact .refl _
def pointTo (par : Nat → Nat) (r t : Nat) : Nat → Nat := fun j => if j = r then t else par j
theorem rootOf_point {par : Nat → Nat} {r t : Nat} (hr : ¬ par r < r) (ht : ¬ par t < t) (htr : t < r) (i : Nat) : rootOf (pointTo par r t) i = if rootOf par i = r then t else rootOf par i := by
  induction i using Nat.strongRecOn with
  | ind i ih =>
    by_cases e : i = r
    · subst e
      have h1 : pointTo par i t i = t := by simp [pointTo]
      have h2 : pointTo par i t t = par t := by unfold pointTo; rw [if_neg (by omega)]
      rw [rootOf_go (by rw [h1]; exact htr), h1, rootOf_stop (by rw [h2]; exact ht), rootOf_stop hr, if_pos rfl]
    · have h1 : pointTo par r t i = par i := by simp [pointTo, e]
      by_cases g : par i < i
      · rw [rootOf_go (by rw [h1]; exact g), h1, ih _ g, rootOf_go g]
      · rw [rootOf_stop (by rw [h1]; exact g), rootOf_stop g, if_neg e]

/-- Two roots joined: the greater one points to the lesser one. -/
def joinP (par : Nat → Nat) (a b : Nat) : Nat → Nat := if a < b then pointTo par b a else pointTo par a b
theorem joinP_forest {N : Nat} {ts : List Ti} {par : Nat → Nat} (h : Forest N ts par) {a b : Nat} (c : Conn ts (a : Nat) (b : Nat)) : Forest N ts (joinP par a b) := by
  unfold joinP
  split
  · refine ⟨fun i hi => ?_, fun i hi => ?_⟩ <;> unfold pointTo <;> split
    · omega
    · exact h.le i hi
    · rename_i e; subst e; exact c.symm
    · exact h.conn i hi
  · refine ⟨fun i hi => ?_, fun i hi => ?_⟩ <;> unfold pointTo <;> split
    · omega
    · exact h.le i hi
    · rename_i e; subst e; exact c
    · exact h.conn i hi
/-- What was alike stays alike, and both are now. -/
theorem joinP_same {par : Nat → Nat} {x y : Nat} : (∀ i j, rootOf par i = rootOf par j → rootOf (joinP par (rootOf par x) (rootOf par y)) i = rootOf (joinP par (rootOf par x) (rootOf par y)) j) ∧
    rootOf (joinP par (rootOf par x) (rootOf par y)) x = rootOf (joinP par (rootOf par x) (rootOf par y)) y := by
  have hx := rootOf_root par x
  have hy := rootOf_root par y
  by_cases g : rootOf par x < rootOf par y
  · have e : joinP par (rootOf par x) (rootOf par y) = pointTo par (rootOf par y) (rootOf par x) := by unfold joinP; rw [if_pos g]
    rw [e]
    refine ⟨fun i j h => ?_, ?_⟩
    · rw [rootOf_point hy hx g, rootOf_point hy hx g, h]
    · rw [rootOf_point hy hx g, rootOf_point hy hx g, if_neg (by omega), if_pos rfl]
  · have e : joinP par (rootOf par x) (rootOf par y) = pointTo par (rootOf par x) (rootOf par y) := by unfold joinP; rw [if_neg g]
    rw [e]
    by_cases g2 : rootOf par y < rootOf par x
    · refine ⟨fun i j h => ?_, ?_⟩
      · rw [rootOf_point hx hy g2, rootOf_point hx hy g2, h]
      · rw [rootOf_point hx hy g2, rootOf_point hx hy g2, if_pos rfl, if_neg (by omega)]
    · have e2 : rootOf par x = rootOf par y := by omega
      have e3 : ∀ i, rootOf (pointTo par (rootOf par x) (rootOf par y)) i = rootOf par i := by
        intro i
        induction i using Nat.strongRecOn with
        | ind i ih =>
          by_cases e4 : i = rootOf par x
          · have h1 : pointTo par (rootOf par x) (rootOf par y) i = i := by unfold pointTo; rw [if_pos e4, ← e2, ← e4]
            have h2 : ¬ par i < i := by rw [e4]; exact hx
            rw [rootOf_stop (by rw [h1]; omega), rootOf_stop h2]
          · have h1 : pointTo par (rootOf par x) (rootOf par y) i = par i := by unfold pointTo; rw [if_neg e4]
            by_cases g3 : par i < i
            · rw [rootOf_go (by rw [h1]; exact g3), h1, ih _ g3, rootOf_go g3]
            · rw [rootOf_stop (by rw [h1]; exact g3), rootOf_stop g3]
      exact ⟨fun i j h => by rw [e3, e3, h], by rw [e3, e3, e2]⟩

/-- The roots are the islands. -/
def rootsL (par : Nat → Nat) (n : Nat) : List Int := (List.range n).map fun i => ((rootOf par i : Nat) : Int)
theorem rootsL_at (par : Nat → Nat) {n i : Nat} (h : i < n) : nth (rootsL par n) i = ((rootOf par i : Nat) : Int) := by
  simp [rootsL, nth, h]
theorem roots_isle {N : Nat} {ts : List Ti} {par : Nat → Nat} (h : Forest N ts par)
    (hs : ∀ k, k < ts.length → (elAt ts k).a2 = true → rootOf par (elAt ts k).a0.toNat = rootOf par (elAt ts k).a1.toNat)
    (hr : ∀ k, k < ts.length → (elAt ts k).a0.toNat < N ∧ (elAt ts k).a1.toNat < N) : IsIsle N ts (rootsL par N) := by
  refine ⟨⟨by simp [rootsL], fun i hi => ?_, fun i hi => ?_⟩, fun k hk hc => ?_⟩
  · rw [rootsL_at par hi]; have := rootOf_le par i; omega
  · rw [rootsL_at par hi]; exact h.root i hi
  · rw [rootsL_at par (hr k hk).1, rootsL_at par (hr k hk).2, hs k hk hc]

end Go.Proofs.Ytfahhjgpgccdhac
