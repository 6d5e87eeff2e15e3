/-
  The autopilot's plain answers: the test of a pilot, a tick of its height, a tick of its course. No condition.
-/
import Derived.Test.YtglefolkecimabdToPl
import Derived.Test.YtglefolkecimabdLowPure
namespace Go.Proofs.Ytglefolkecimabd
open Go.RowKit

/-- The test of a pilot. -/
def apOk (p : Pl) : Bool := inB p.a0 0 4 && inB p.a1 0 3 && inB p.a2 0 60000 && inB p.a3 0 60000 && inB p.a4 (-100) 100 && inB p.a5 0 359 && inB p.a6 0 359 && inB p.a7 (-10000) 10000
/-- Whether a rate leads from a height to a target. -/
def leadB (h t r : Int) : Bool := decide ((0 < r ∧ h < t) ∨ (r < 0 ∧ t < h))
/-- From a number toward another one, by at most n. -/
def tow (x y n : Int) : Int := if x < y then min y (x + n) else max y (x - n)
/-- A step of a heading. -/
def turnR (a b : Int) : Int :=
  if 180 < (b - a) % 360 then (a - min 3 (360 - (b - a) % 360)) % 360 else (a + min 3 ((b - a) % 360)) % 360
/-- The mode, the height and the rate behind a tick. -/
def vtT (v h t r : Int) : Int × Int × Int :=
  if v = 0 then (0, max 0 (min 60000 (h + r)), r)
  else if v = 2 then (if r = 0 then (2, h, r) else if leadB (h + r) t r = true then (if (t - (h + r)).natAbs ≤ 10 * (r.natAbs : Int) then (3, h + r, r) else (2, h + r, r)) else (1, t, 0))
  else if v = 3 then (if tow h t (max 1 (((r.natAbs : Int) + 1).tdiv 2)) = t then (1, t, 0) else (3, tow h t (max 1 (((r.natAbs : Int) + 1).tdiv 2)), r))
  else (v, h, r)
/-- The mode, the heading, what lies beside and what is armed behind a tick. -/
def ltT (l a b o : Int) (m : Bool) : Int × Int × Int × Bool :=
  if l = 1 then (if m = true ∧ (o.natAbs : Int) ≤ 50 then (3, turnR a b, o, false) else (1, turnR a b, o, m))
  else if l = 3 then (if tow o 0 10 = 0 then (2, a, 0, m) else (3, a, tow o 0 10, m))
  else if l = 2 then (if (o.natAbs : Int) ≤ 20 then (2, a, 0, m) else (3, a, o, m))
  else (l, a, o, m)
/-- What lies beside, with a drift, held. -/
def offR (o d : Int) : Int := max (-10000) (min 10000 (o + d))
def okT (p : Pl) (d : Int) : Bool := apOk p && inB d (-100) 100
/-- The pilot behind a tick; the zero value where it is not so. -/
def tickP (p : Pl) (d : Int) : Pl :=
  if okT p d = true then
    ⟨(vtT p.a0 p.a2 p.a3 p.a4).1, (ltT p.a1 p.a5 p.a6 (offR p.a7 d) p.a8).1, (vtT p.a0 p.a2 p.a3 p.a4).2.1, p.a3, (vtT p.a0 p.a2 p.a3 p.a4).2.2, (ltT p.a1 p.a5 p.a6 (offR p.a7 d) p.a8).2.1, p.a6, (ltT p.a1 p.a5 p.a6 (offR p.a7 d) p.a8).2.2.1, (ltT p.a1 p.a5 p.a6 (offR p.a7 d) p.a8).2.2.2⟩
  else ⟨0, 0, 0, 0, 0, 0, 0, 0, false⟩

/-- A pilot as a value. -/
abbrev plV (p : Pl) : Value := .agg #[.int .i64 p.a0, .int .i64 p.a1, .int .i64 p.a2, .int .i64 p.a3, .int .i64 p.a4, .int .i64 p.a5, .int .i64 p.a6, .int .i64 p.a7, .bool p.a8]
theorem ret_pl {p q : Pl} (h : p = q) : Ending.returned (plV p) = .returned (plV q) := by rw [h]
theorem ret_plb {p q : Pl} {b c : Bool} (h : p = q) (h2 : b = c) : Ending.returned (.tuple #[plV p, .bool b]) = .returned (.tuple #[plV q, .bool c]) := by rw [h, h2]
theorem apOk_facts {v l h t r a b o : Int} {m : Bool} (hk : apOk ⟨v, l, h, t, r, a, b, o, m⟩ = true) : (0 ≤ v ∧ v ≤ 4) ∧ (0 ≤ l ∧ l ≤ 3) ∧ (0 ≤ h ∧ h ≤ 60000) ∧ (0 ≤ t ∧ t ≤ 60000) ∧ (-100 ≤ r ∧ r ≤ 100) ∧ (0 ≤ a ∧ a ≤ 359) ∧ (0 ≤ b ∧ b ≤ 359) ∧ (-10000 ≤ o ∧ o ≤ 10000) := by
  simp only [apOk, Bool.and_eq_true] at hk
  obtain ⟨⟨⟨⟨⟨⟨⟨h0, h1⟩, h2⟩, h3⟩, h4⟩, h5⟩, h6⟩, h7⟩ := hk
  exact ⟨in_facts h0, in_facts h1, in_facts h2, in_facts h3, in_facts h4, in_facts h5, in_facts h6, in_facts h7⟩

end Go.Proofs.Ytglefolkecimabd
