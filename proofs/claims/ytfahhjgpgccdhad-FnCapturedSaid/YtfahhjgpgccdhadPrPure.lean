/-
  What a key makes of a pilot: the plain answer. No condition.
-/
import Derived.Test.YtfahhjgpgccdhadApPure
namespace Go.Proofs.Ytfahhjgpgccdhad
open Go.RowKit

/-- Held at its height. -/
def holdP (p : Pl) : Pl := ⟨1, p.a1, p.a2, p.a2, 0, p.a5, p.a6, p.a7, p.a8⟩
/-- Whether a key is taken. -/
def prB (p : Pl) (k n : Int) : Bool :=
  if apOk p = false then false
  else if k = 1 then true
  else if k = 2 then leadB p.a2 p.a3 p.a4
  else if k = 3 then inB n 0 60000
  else if k = 4 then inB n 0 359
  else if k = 5 then !(decide (p.a1 = 3) || decide (p.a1 = 2))
  else if k = 6 then true
  else if k = 7 then inB n (-100) 100 && !(decide (p.a0 = 1) || decide (p.a0 = 3))
  else false
/-- The pilot behind a key that is taken. -/
def prY (p : Pl) (k n : Int) : Pl :=
  if k = 1 then holdP p
  else if k = 2 then { p with a0 := 2 }
  else if k = 3 then (if (p.a0 = 2 ∨ p.a0 = 3) ∧ leadB p.a2 n p.a4 = false then holdP p else { p with a3 := n })
  else if k = 4 then { p with a1 := 1, a6 := n, a8 := false }
  else if k = 5 then { p with a8 := true }
  else if k = 6 then { p with a0 := 0, a1 := 0, a4 := 0, a8 := false }
  else { p with a4 := n }
/-- The pilot behind a key. -/
def prP (p : Pl) (k n : Int) : Pl := if prB p k n = true then prY p k n else p
theorem prP_no {p : Pl} {k n : Int} (h : prB p k n = false) : prP p k n = p := by simp [prP, h]
theorem prP_yes {p : Pl} {k n : Int} (h : prB p k n = true) : prP p k n = prY p k n := by simp [prP, h]

end Go.Proofs.Ytfahhjgpgccdhad
