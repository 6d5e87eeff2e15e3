/-
  Where a window fits into a plan, in plain numbers and lists. No program here.
-/
import Derived.Test.YtndhiecakojjgbaPpPure
namespace Go.Proofs.Ytndhiecakojjgba
open Go

/-- Where the window at place k starts, the frame's end behind the last. -/
def ftN (fr : Int) (ws : List Wn) (k : Nat) : Int := if k < ws.length then (elAt ws k).a1 else fr
/-- Whether so long a window fits ahead of place k. -/
def ftG (fr : Int) (ws : List Wn) (lg : Int) (k : Nat) : Bool := decide (pwE ws k + lg ≤ ftN fr ws k)
/-- The first such place, or one more than there are. -/
def ftK (fr : Int) (ws : List Wn) (lg : Int) : Nat := ((List.range (ws.length + 1)).find? fun k => ftG fr ws lg k).getD (ws.length + 1)
def ftA (fr pa : Int) (ws : List Wn) (p lg : Int) : Bool := ppB fr pa ws && !decide (ws.length = 40) && inB p 0 (pa - 1) && inB lg 1 10000
def ftB (fr pa : Int) (ws : List Wn) (p lg : Int) : Bool := ftA fr pa ws p lg && decide (ftK fr ws lg ≤ ws.length)
def ftL (fr pa : Int) (ws : List Wn) (p lg : Int) : List Wn :=
  if ftB fr pa ws p lg = true then ws.take (ftK fr ws lg) ++ ([⟨p, pwE ws (ftK fr ws lg), lg⟩] ++ ws.drop (ftK fr ws lg)) else ws
theorem ftK_at {fr lg : Int} {ws : List Wn} {k : Nat} (hk : k ≤ ws.length) (h : ftG fr ws lg k = true) (hb : ∀ j, j < k → ftG fr ws lg j = false) : ftK fr ws lg = k := by
  have : (List.range (ws.length + 1)).find? (fun k => ftG fr ws lg k) = some k := by
    rw [List.find?_range_eq_some]
    exact ⟨h, by simp; omega, fun j hj => by simpa using hb j hj⟩
  unfold ftK; rw [this]; rfl
theorem ftK_none {fr lg : Int} {ws : List Wn} (hb : ∀ j, j ≤ ws.length → ftG fr ws lg j = false) : ftK fr ws lg = ws.length + 1 := by
  have : (List.range (ws.length + 1)).find? (fun k => ftG fr ws lg k) = none := by
    rw [List.find?_eq_none]
    intro i hi
    simpa using hb i (by have := List.mem_range.1 hi; omega)
  unfold ftK; rw [this]; rfl
theorem ft_no {fr pa p lg : Int} {ws : List Wn} (h : ftA fr pa ws p lg = false) : ftB fr pa ws p lg = false ∧ ftL fr pa ws p lg = ws := by
  have e : ftB fr pa ws p lg = false := by simp [ftB, h]
  exact ⟨e, by simp [ftL, e]⟩
theorem ft_at {fr pa p lg : Int} {ws : List Wn} {k : Nat} (h : ftA fr pa ws p lg = true) (hk : k ≤ ws.length) (e : ftK fr ws lg = k) : ftB fr pa ws p lg = true ∧ ftL fr pa ws p lg = ws.take k ++ ([⟨p, pwE ws k, lg⟩] ++ ws.drop k) := by
  have e1 : ftB fr pa ws p lg = true := by simp [ftB, h, e, hk]
  exact ⟨e1, by simp [ftL, e1, e]⟩
theorem ft_none {fr pa p lg : Int} {ws : List Wn} (e : ftK fr ws lg = ws.length + 1) : ftB fr pa ws p lg = false ∧ ftL fr pa ws p lg = ws := by
  have e1 : ftB fr pa ws p lg = false := by simp [ftB, e]
  exact ⟨e1, by simp [ftL, e1]⟩
theorem ftA_facts {fr pa p lg : Int} {ws : List Wn} (h : ftA fr pa ws p lg = true) : ppB fr pa ws = true ∧ ws.length ≠ 40 ∧ inB p 0 (pa - 1) = true ∧ inB lg 1 10000 = true := by
  simp only [ftA, Bool.and_eq_true, Bool.not_eq_true', decide_eq_false_iff_not] at h
  exact ⟨h.1.1.1, h.1.1.2, h.1.2, h.2⟩
/-- The ends lie in the frame. -/
theorem pwE_in {fr pa : Int} {ws : List Wn} (h : ppB fr pa ws = true) : ∀ k, k ≤ ws.length → 0 ≤ pwE ws k ∧ pwE ws k ≤ 100000
  | 0, _ => by simp [pwE]
  | k + 1, hk => by
    have q := ppB_all h (show k < ws.length by omega)
    have f := (ppB_facts h).1
    show 0 ≤ (elAt ws k).a1 + (elAt ws k).a2 ∧ (elAt ws k).a1 + (elAt ws k).a2 ≤ 100000
    omega

end Go.Proofs.Ytndhiecakojjgba
