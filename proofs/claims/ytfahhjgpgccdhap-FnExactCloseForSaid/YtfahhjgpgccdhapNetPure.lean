/-
  Whether a net is so, in plain numbers. No program here.
-/
import Derived.Test.YtfahhjgpgccdhapLowPure
import Derived.Test.YtfahhjgpgccdhapLists
namespace Go.Proofs.Ytfahhjgpgccdhap
open Go

/-- Whether all of a list are so. -/
def everyB {α : Type} [Inhabited α] (P : α → Bool) (ps : List α) : Bool := decide (∀ i, i < ps.length → P (elAt ps i) = true)
theorem everyB_true {α : Type} [Inhabited α] {P : α → Bool} {ps : List α} (h : ∀ i, i < ps.length → P (elAt ps i) = true) : everyB P ps = true := decide_eq_true h
theorem everyB_at {α : Type} [Inhabited α] {P : α → Bool} {ps : List α} (h : everyB P ps = true) {i : Nat} (hi : i < ps.length) : P (elAt ps i) = true := of_decide_eq_true h i hi
theorem everyB_false {α : Type} [Inhabited α] {P : α → Bool} {ps : List α} {i : Nat} (hi : i < ps.length) (h : P (elAt ps i) = false) : everyB P ps = false := by
  cases e : everyB P ps with
  | false => rfl
  | true => rw [everyB_at e hi] at h; cases h

def srB (n : Int) (s : Sr) : Bool := inB s.a0 0 (n - 1) && inB s.a1 0 100000
def tiB (n : Int) (t : Ti) : Bool := inB t.a0 0 (n - 1) && inB t.a1 0 (n - 1) && !(t.a0 == t.a1)
def usB (n : Int) (u : Us) : Bool := inB u.a0 0 (n - 1) && inB u.a1 1 100000 && inB u.a2 0 9
def ssB (n : Int) (ss : List Sr) : Bool := decide (ss.length ≤ 6) && everyB (srB n) ss
def tsB (n : Int) (ts : List Ti) : Bool := decide (ts.length ≤ 16) && everyB (tiB n) ts
def unB (n : Int) (us : List Us) : Bool := decide (us.length ≤ 40) && everyB (usB n) us
/-- Whether a net is so. -/
def netB (n : Int) (ss : List Sr) (ts : List Ti) (us : List Us) : Bool := inB n 1 8 && ssB n ss && tsB n ts && unB n us

theorem netB_no {n : Int} {ss : List Sr} {ts : List Ti} {us : List Us} (h : inB n 1 8 = false ∨ ssB n ss = false ∨ tsB n ts = false ∨ unB n us = false) : netB n ss ts us = false := by
  rcases h with h | h | h | h <;> simp [netB, h]
theorem netB_yes {n : Int} {ss : List Sr} {ts : List Ti} {us : List Us} (h0 : inB n 1 8 = true) (h1 : ssB n ss = true) (h2 : tsB n ts = true) (h3 : unB n us = true) : netB n ss ts us = true := by
  simp [netB, h0, h1, h2, h3]
theorem netB_parts {n : Int} {ss : List Sr} {ts : List Ti} {us : List Us} (h : netB n ss ts us = true) : inB n 1 8 = true ∧ ssB n ss = true ∧ tsB n ts = true ∧ unB n us = true := by
  simp only [netB, Bool.and_eq_true] at h
  exact ⟨h.1.1.1, h.1.1.2, h.1.2, h.2⟩
theorem ssB_long {n : Int} {ss : List Sr} (h : 6 < ss.length) : ssB n ss = false := by simp [ssB]; omega
theorem tsB_long {n : Int} {ts : List Ti} (h : 16 < ts.length) : tsB n ts = false := by simp [tsB]; omega
theorem unB_long {n : Int} {us : List Us} (h : 40 < us.length) : unB n us = false := by simp [unB]; omega
theorem ssB_at {n : Int} {ss : List Sr} {i : Nat} (hi : i < ss.length) (h : srB n (elAt ss i) = false) : ssB n ss = false := by simp [ssB, everyB_false hi h]
theorem tsB_at {n : Int} {ts : List Ti} {i : Nat} (hi : i < ts.length) (h : tiB n (elAt ts i) = false) : tsB n ts = false := by simp [tsB, everyB_false hi h]
theorem unB_at {n : Int} {us : List Us} {i : Nat} (hi : i < us.length) (h : usB n (elAt us i) = false) : unB n us = false := by simp [unB, everyB_false hi h]
theorem ssB_yes {n : Int} {ss : List Sr} (h : ss.length ≤ 6) (h2 : ∀ i, i < ss.length → srB n (elAt ss i) = true) : ssB n ss = true := by simp [ssB, h, everyB_true h2]
theorem tsB_yes {n : Int} {ts : List Ti} (h : ts.length ≤ 16) (h2 : ∀ i, i < ts.length → tiB n (elAt ts i) = true) : tsB n ts = true := by simp [tsB, h, everyB_true h2]
theorem unB_yes {n : Int} {us : List Us} (h : us.length ≤ 40) (h2 : ∀ i, i < us.length → usB n (elAt us i) = true) : unB n us = true := by simp [unB, h, everyB_true h2]

end Go.Proofs.Ytfahhjgpgccdhap
