/-
  Clocks, tasks, what is due, what may be carried, in plain numbers. No program here.
-/
import Derived.Test.YtglefolkecimabdNamePure
import Derived.Test.YtglefolkecimabdRowE
namespace Go.Proofs.Ytglefolkecimabd
open Go Go.RowKit

/-- Whether a clock is so. -/
def ckB (h c d : Int) : Bool := inB h 0 1000000 && inB c 0 1000000 && inB d 0 1000000
theorem ckB_facts {h c d : Int} (k : ckB h c d = true) : (0 ≤ h ∧ h ≤ 1000000) ∧ (0 ≤ c ∧ c ≤ 1000000) ∧ (0 ≤ d ∧ d ≤ 1000000) := by
  simp only [ckB, inB, Bool.and_eq_true, decide_eq_true_eq] at k
  exact ⟨k.1.1, k.1.2, k.2⟩
/-- What a task says: its name, three bounds, when it was done. -/
structure Ts where
  nm : ByteArray
  h : Int
  c : Int
  d : Int
  dh : Int
  dc : Int
  dd : Int
instance : Inhabited Ts := ⟨⟨⟨#[]⟩, 0, 0, 0, 0, 0, 0⟩⟩
def tsB (t : Ts) : Bool := nameB t.nm && inB t.h 0 100000 && inB t.c 0 100000 && inB t.d 0 100000 && decide (0 < t.h + t.c + t.d) && ckB t.dh t.dc t.dd
theorem tsB_facts {t : Ts} (k : tsB t = true) : nameB t.nm = true ∧ (0 ≤ t.h ∧ t.h ≤ 100000) ∧ (0 ≤ t.c ∧ t.c ≤ 100000) ∧ (0 ≤ t.d ∧ t.d ≤ 100000) ∧ 0 < t.h + t.c + t.d ∧ ckB t.dh t.dc t.dd = true := by
  simp only [tsB, inB, Bool.and_eq_true, decide_eq_true_eq] at k
  obtain ⟨⟨⟨⟨⟨k1, k2⟩, k3⟩, k4⟩, k5⟩, k6⟩ := k
  exact ⟨k1, k2, k3, k4, k5, k6⟩
/-- Whether one clock is not beyond another. -/
def bhB (ah ac ad bh bc bd : Int) : Bool := decide (ah ≤ bh) && decide (ac ≤ bc) && decide (ad ≤ bd)
/-- What is left of a bound. -/
def lfI (b p : Int) : Int := if b = 0 then 0 else max 0 (b - p)
/-- Whether a task can be asked, whether it is due, what is left. -/
def d9B (t : Ts) (nh nc nd : Int) : Bool := tsB t && ckB nh nc nd && bhB t.dh t.dc t.dd nh nc nd
def d9D (t : Ts) (nh nc nd : Int) : Bool := d9B t nh nc nd && (decide (0 < t.h ∧ t.h ≤ nh - t.dh) || decide (0 < t.c ∧ t.c ≤ nc - t.dc) || decide (0 < t.d ∧ t.d ≤ nd - t.dd))
def d9H (t : Ts) (nh nc nd : Int) : Int := if d9B t nh nc nd = true then lfI t.h (nh - t.dh) else 0
def d9C (t : Ts) (nh nc nd : Int) : Int := if d9B t nh nc nd = true then lfI t.c (nc - t.dc) else 0
def d9E (t : Ts) (nh nc nd : Int) : Int := if d9B t nh nc nd = true then lfI t.d (nd - t.dd) else 0

end Go.Proofs.Ytglefolkecimabd
