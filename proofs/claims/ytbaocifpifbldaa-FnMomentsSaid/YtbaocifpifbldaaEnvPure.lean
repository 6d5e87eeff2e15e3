/-
  Plain mathematics of an envelope: its test, in the order of the model and in that of the program. No program here.
-/
import Derived.Test.YtbaocifpifbldaaLowPure
namespace Go.Proofs.Ytbaocifpifbldaa

def leB (fs gs : List Int) : Bool := decide (∀ i, i < fs.length → nth fs i ≤ nth gs i)
theorem leB_true {fs gs : List Int} (h : ∀ j, j < fs.length → nth fs j ≤ nth gs j) : leB fs gs = true := by
  simp only [leB, decide_eq_true_eq]; exact h
theorem leB_false {fs gs : List Int} {j : Nat} (hj : j < fs.length) (h : ¬ nth fs j ≤ nth gs j) : leB fs gs = false := by
  simp only [leB, decide_eq_false_iff_not]; intro k; exact h (k j hj)

def envSeven (ms fs gs : List Int) : Bool := inB ms.length 2 10 && ((fs.length : Int) == (ms.length : Int)) && ((gs.length : Int) == (ms.length : Int)) && riseB ms && allB ms 0 400000 && allB fs (-1000) 1000 && allB gs (-1000) 1000
def envHead (ms fs gs : List Int) : Bool := inB ms.length 2 10 && ((fs.length : Int) == (ms.length : Int)) && ((gs.length : Int) == (ms.length : Int))
def envTail (ms fs gs : List Int) : Bool := riseB ms && allB ms 0 400000 && allB fs (-1000) 1000 && allB gs (-1000) 1000
def envB (ms fs gs : List Int) : Bool := envSeven ms fs gs && leB fs gs

theorem envB_impl (ms fs gs : List Int) : envB ms fs gs = (envHead ms fs gs && leB fs gs && envTail ms fs gs) := by
  unfold envB envSeven envHead envTail
  generalize inB ms.length 2 10 = a
  generalize ((fs.length : Int) == (ms.length : Int)) = b
  generalize ((gs.length : Int) == (ms.length : Int)) = c
  generalize riseB ms = d
  generalize allB ms _ _ = e
  generalize allB fs _ _ = f
  generalize allB gs _ _ = g
  generalize leB fs gs = h
  cases a <;> cases b <;> cases c <;> cases d <;> cases e <;> cases f <;> cases g <;> cases h <;> rfl
theorem env_seven {ms fs gs : List Int} (h : envSeven ms fs gs = false) : envB ms fs gs = false := by simp [envB, h]
theorem env_last {ms fs gs : List Int} (h : envSeven ms fs gs = true) : envB ms fs gs = leB fs gs := by simp [envB, h]
theorem env_head {ms fs gs : List Int} (h : envHead ms fs gs = false) : envB ms fs gs = false := by simp [envB_impl, h]
theorem env_le {ms fs gs : List Int} (h : leB fs gs = false) : envB ms fs gs = false := by simp [envB_impl, h]
theorem env_tail {ms fs gs : List Int} (h : envHead ms fs gs = true) (h' : leB fs gs = true) : envB ms fs gs = envTail ms fs gs := by simp [envB_impl, h, h']

structure EnvFacts (ms fs gs : List Int) : Prop where
  many : 2 ≤ ms.length ∧ ms.length ≤ 10
  lf : fs.length = ms.length
  la : gs.length = ms.length
  rise : ∀ i, i + 1 < ms.length → nth ms i < nth ms (i + 1)
  mb : ∀ i, i < ms.length → 0 ≤ nth ms i ∧ nth ms i ≤ 400000
  fb : ∀ i, i < ms.length → -1000 ≤ nth fs i ∧ nth fs i ≤ 1000
  ab : ∀ i, i < ms.length → -1000 ≤ nth gs i ∧ nth gs i ≤ 1000

theorem envB_facts {ms fs gs : List Int} (h : envB ms fs gs = true) : EnvFacts ms fs gs := by
  simp only [envB, envSeven, Bool.and_eq_true] at h
  obtain ⟨⟨⟨⟨⟨⟨⟨h1, h2⟩, h3⟩, h4⟩, h5⟩, h6⟩, h7⟩, _⟩ := h
  have h1 := in_facts h1
  simp only [riseB, allB, decide_eq_true_eq] at h4 h5 h6 h7
  simp at h2 h3
  refine ⟨by omega, by omega, by omega, fun i hi => h4 i (by omega), fun i hi => in_facts (h5 i hi), fun i hi => in_facts (h6 i (by omega)), fun i hi => in_facts (h7 i (by omega))⟩

end Go.Proofs.Ytbaocifpifbldaa
