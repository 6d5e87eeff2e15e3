/-
  A drift behind so many pushes, in plain numbers. No program here.
-/
import Derived.Test.YtidgkkldhnckeaeToDt
import Derived.Test.YtidgkkldhnckeaeToPu
import Derived.Test.YtidgkkldhnckeaeNavPure
namespace Go.Proofs.Ytidgkkldhnckeae
open Go

/-- A drift behind one push; behind the first k. -/
def inSt (d : Dt) (p : Pu) : Dt := ⟨d.a0 + (d.a2 + p.a0), d.a1 + (d.a3 + p.a1), d.a2 + p.a0, d.a3 + p.a1⟩
def inAt (d : Dt) (ps : List Pu) : Nat → Dt
  | 0 => d
  | k + 1 => inSt (inAt d ps k) (elAt ps k)
def dtD (d : Dt) : Bool := dtB d.a0 d.a1 d.a2 d.a3
/-- Whether push k and the drift behind it are so. -/
def inOne (d : Dt) (ps : List Pu) (k : Nat) : Bool := puB (elAt ps k).a0 (elAt ps k).a1 && dtD (inAt d ps (k + 1))
def inOk (d : Dt) (ps : List Pu) : Bool := dtD d && decide (ps.length ≤ 300) && decide (∀ k, k < ps.length → inOne d ps k = true)
def inR (d : Dt) (ps : List Pu) : Dt := if inOk d ps = true then inAt d ps ps.length else ⟨0, 0, 0, 0⟩
theorem inOk_first {d : Dt} {ps : List Pu} (h : dtD d = false) : inOk d ps = false := by simp [inOk, h]
theorem inOk_many {d : Dt} {ps : List Pu} (h : ¬ ps.length ≤ 300) : inOk d ps = false := by simp [inOk, h]
theorem inOk_at {d : Dt} {ps : List Pu} {k : Nat} (hk : k < ps.length) (h : inOne d ps k = false) : inOk d ps = false := by
  have : ¬ (∀ k, k < ps.length → inOne d ps k = true) := fun g => by have := g k hk; rw [h] at this; cases this
  simp only [inOk, this, decide_false, Bool.and_false]
theorem inOk_yes {d : Dt} {ps : List Pu} (h : dtD d = true) (hl : ps.length ≤ 300) (g : ∀ k, k < ps.length → inOne d ps k = true) : inOk d ps = true := by
  unfold inOk
  rw [h, decide_eq_true hl, decide_eq_true g]
  rfl
theorem inR_no {d : Dt} {ps : List Pu} (h : inOk d ps = false) : inR d ps = ⟨0, 0, 0, 0⟩ := by simp [inR, h]
theorem inR_yes {d : Dt} {ps : List Pu} (h : inOk d ps = true) : inR d ps = inAt d ps ps.length := by simp [inR, h]
theorem inOne_push {d : Dt} {ps : List Pu} {k : Nat} {a b : Int} (e : elAt ps k = ⟨a, b⟩) (h : puB a b = false) : inOne d ps k = false := by simp [inOne, e, h]
theorem inOne_is {d : Dt} {ps : List Pu} {k : Nat} {a b x y u v : Int} (e : elAt ps k = ⟨a, b⟩) (g : inAt d ps k = ⟨x, y, u, v⟩) (h : puB a b = true) (c : Bool) (hc : dtB (x + (u + a)) (y + (v + b)) (u + a) (v + b) = c) : inOne d ps k = c := by
  simp only [inOne, e, h, inAt, g, inSt, dtD, hc, Bool.true_and]
theorem inAt_next {d : Dt} {ps : List Pu} {k : Nat} {a b x y u v : Int} (e : elAt ps k = ⟨a, b⟩) (g : inAt d ps k = ⟨x, y, u, v⟩) : inAt d ps (k + 1) = ⟨x + (u + a), y + (v + b), u + a, v + b⟩ := by
  simp only [inAt, e, g, inSt]

end Go.Proofs.Ytidgkkldhnckeae
