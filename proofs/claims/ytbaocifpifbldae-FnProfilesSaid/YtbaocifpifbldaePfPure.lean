/-
  Points along a way in plain numbers: whether they are so, what heights can be had, a descent. No program here.
-/
import Derived.Test.YtbaocifpifbldaeLowPure
import Derived.Test.YtbaocifpifbldaeToPo
namespace Go.Proofs.Ytbaocifpifbldae
open Go

/-- Whether the point at a place is so, and behind the one ahead. -/
def poAt (ps : List Po) (i : Nat) : Bool := inB (elAt ps i).a0 0 100000 && inB (elAt ps i).a1 0 (elAt ps i).a2 && decide ((elAt ps i).a2 ≤ 100000) && decide (i = 0 ∨ (elAt ps (i - 1)).a0 < (elAt ps i).a0)
/-- Whether points are so. -/
def poB (ps : List Po) : Bool := decide (∀ i, i < ps.length → poAt ps i = true) && inB ps.length 1 30
theorem poB_not {ps : List Po} {i : Nat} (hi : i < ps.length) (h : poAt ps i = false) : poB ps = false := by
  have : ¬ ∀ i, i < ps.length → poAt ps i = true := fun k => by have := k i hi; rw [h] at this; cases this
  simp [poB, this]
theorem poB_all {ps : List Po} (h : ∀ i, i < ps.length → poAt ps i = true) : poB ps = inB ps.length 1 30 := by
  have e : decide (∀ i, i < ps.length → poAt ps i = true) = true := decide_eq_true h
  unfold poB; rw [e, Bool.true_and]
theorem poB_facts {ps : List Po} (h : poB ps = true) : (∀ i, i < ps.length → poAt ps i = true) ∧ 1 ≤ ps.length ∧ ps.length ≤ 30 := by
  simp only [poB, Bool.and_eq_true, decide_eq_true_eq] at h
  have := in_facts h.2
  exact ⟨h.1, by omega, by omega⟩
theorem poAt_facts {ps : List Po} {i : Nat} (h : poAt ps i = true) : (0 ≤ (elAt ps i).a0 ∧ (elAt ps i).a0 ≤ 100000) ∧ (0 ≤ (elAt ps i).a1 ∧ (elAt ps i).a1 ≤ (elAt ps i).a2) ∧ (elAt ps i).a2 ≤ 100000 ∧ (i = 0 ∨ (elAt ps (i - 1)).a0 < (elAt ps i).a0) := by
  simp only [poAt, Bool.and_eq_true, decide_eq_true_eq] at h
  exact ⟨in_facts h.1.1.1, in_facts h.1.1.2, h.1.2, h.2⟩

/-- Whether slopes are so. -/
def slB (up down : Int) : Bool := inB up 0 1000 && inB down 0 1000
/-- What can be had at a place, were all ahead of it to be had. -/
def rcA (ps : List Po) (up down : Int) : Nat → Po
  | 0 => elAt ps 0
  | k + 1 => ⟨(elAt ps (k + 1)).a0, max (elAt ps (k + 1)).a1 ((rcA ps up down k).a1 - down * ((elAt ps (k + 1)).a0 - (elAt ps k).a0)), min (elAt ps (k + 1)).a2 ((rcA ps up down k).a2 + up * ((elAt ps (k + 1)).a0 - (elAt ps k).a0))⟩
def rcL (ps : List Po) (up down : Int) (k : Nat) : List Po := (List.range k).map (rcA ps up down)
/-- The first place at which there is none; as many as there are, where there is always one. -/
def rcK (ps : List Po) (up down : Int) : Nat := ((List.range ps.length).find? fun k => decide ((rcA ps up down k).a2 < (rcA ps up down k).a1)).getD ps.length
theorem rcL_len (ps : List Po) (up down : Int) (k : Nat) : (rcL ps up down k).length = k := by simp [rcL]
theorem rcL_next (ps : List Po) (up down : Int) (k : Nat) : rcL ps up down (k + 1) = rcL ps up down k ++ [rcA ps up down k] := by simp [rcL, List.range_succ]
theorem rcL_at {ps : List Po} {up down : Int} {k j : Nat} (h : j < k) : elAt (rcL ps up down k) j = rcA ps up down j := by simp [rcL, elAt, h]
theorem rcK_here {ps : List Po} {up down : Int} {k : Nat} (hk : k < ps.length) (h : (rcA ps up down k).a2 < (rcA ps up down k).a1) (hb : ∀ j, j < k → ¬ (rcA ps up down j).a2 < (rcA ps up down j).a1) : rcK ps up down = k := by
  unfold rcK
  have : (List.range ps.length).find? (fun k => decide ((rcA ps up down k).a2 < (rcA ps up down k).a1)) = some k := by
    rw [List.find?_range_eq_some]
    refine ⟨by simpa using h, by simpa using hk, fun j hj => ?_⟩
    have := hb j hj
    simpa using this
  rw [this]; rfl
theorem rcK_none {ps : List Po} {up down : Int} (hb : ∀ j, j < ps.length → ¬ (rcA ps up down j).a2 < (rcA ps up down j).a1) : rcK ps up down = ps.length := by
  unfold rcK
  have : (List.range ps.length).find? (fun k => decide ((rcA ps up down k).a2 < (rcA ps up down k).a1)) = none := by
    rw [List.find?_eq_none]
    intro j hj
    have := hb j (by simpa using hj)
    simpa using this
  rw [this]; rfl
/-- The answers of Reach. -/
def rchL (ps : List Po) (up down : Int) : List Po := if (poB ps && slB up down) = true then rcL ps up down (rcK ps up down) else []
def rchK (ps : List Po) (up down : Int) : Int := if (poB ps && slB up down) = true then (if rcK ps up down < ps.length then (rcK ps up down : Int) else -1) else -1
def rchB (ps : List Po) (up down : Int) : Bool := poB ps && slB up down

/-- A descent. -/
def dsOk (h s f : Int) : Bool := inB h 0 100000 && inB s 1 1000 && inB f 0 100000
def dsN (h s : Int) : Int := (h + s - 1).tdiv s
def dsB (h s f : Int) : Bool := dsOk h s f && decide (dsN h s ≤ f)
def dsR (h s f : Int) : Int := if dsB h s f = true then f - dsN h s else 0

end Go.Proofs.Ytbaocifpifbldae
