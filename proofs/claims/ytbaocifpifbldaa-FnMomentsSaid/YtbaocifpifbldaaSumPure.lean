/-
  Plain mathematics of SumOf: masses and moments of the first items, and their bounds. No program here.
-/
import Derived.Test.YtbaocifpifbldaaRow2
import Derived.Test.YtbaocifpifbldaaLowPure
namespace Go.Proofs.Ytbaocifpifbldaa

def itemB (m a : Int) : Bool := inB m 0 10000 && inB a (-1000) 1000
def itemsB (ps : List (Int × Int)) : Bool := decide (∀ i, i < ps.length → itemB (fstAt ps i) (sndAt ps i) = true)
def sumM (ps : List (Int × Int)) : Nat → Int
  | 0 => 0
  | k + 1 => sumM ps k + fstAt ps k
def sumQ (ps : List (Int × Int)) : Nat → Int
  | 0 => 0
  | k + 1 => sumQ ps k + fstAt ps k * sndAt ps k
theorem sumM_succ (ps : List (Int × Int)) (k : Nat) : sumM ps (k + 1) = sumM ps k + fstAt ps k := rfl
theorem sumQ_succ (ps : List (Int × Int)) (k : Nat) : sumQ ps (k + 1) = sumQ ps k + fstAt ps k * sndAt ps k := rfl

theorem item_facts {m a : Int} (h : itemB m a = true) : (0 ≤ m ∧ m ≤ 10000) ∧ (-1000 ≤ a ∧ a ≤ 1000) ∧ (-10000000 ≤ m * a ∧ m * a ≤ 10000000) := by
  simp only [itemB, Bool.and_eq_true, inB, decide_eq_true_eq] at h
  have := mulBd (A := 10000) (B := 1000) (s := m) (d := a) (by omega) (by omega) (by omega) (by omega) (by omega) (by omega)
  omega
theorem sum_bd {ps : List (Int × Int)} : ∀ k, (∀ j, j < k → itemB (fstAt ps j) (sndAt ps j) = true) → (0 ≤ sumM ps k ∧ sumM ps k ≤ 10000 * (k : Int)) ∧ (-(10000000 * (k : Int)) ≤ sumQ ps k ∧ sumQ ps k ≤ 10000000 * (k : Int)) := by
  intro k
  induction k with
  | zero => intro _; simp [sumM, sumQ]
  | succ k ih =>
    intro h
    have ih := ih (fun j hj => h j (by omega))
    have f := item_facts (h k (by omega))
    rw [sumM_succ, sumQ_succ]
    omega

def sumFlag (ps : List (Int × Int)) : Bool := decide (ps.length ≤ 40) && itemsB ps
def sumA (ps : List (Int × Int)) : Int := if sumFlag ps then sumM ps ps.length else 0
def sumB (ps : List (Int × Int)) : Int := if sumFlag ps then sumQ ps ps.length else 0
theorem sum_many {ps : List (Int × Int)} (h : ¬ ps.length ≤ 40) : sumFlag ps = false ∧ sumA ps = 0 ∧ sumB ps = 0 := by
  have e : sumFlag ps = false := by simp [sumFlag, h]
  exact ⟨e, by simp [sumA, e], by simp [sumB, e]⟩
theorem sum_bad {ps : List (Int × Int)} {j : Nat} (hj : j < ps.length) (h : itemB (fstAt ps j) (sndAt ps j) = false) : sumFlag ps = false ∧ sumA ps = 0 ∧ sumB ps = 0 := by
  have e : sumFlag ps = false := by
    have : itemsB ps = false := by simp only [itemsB, decide_eq_false_iff_not]; intro k; have := k j hj; rw [h] at this; cases this
    simp [sumFlag, this]
  exact ⟨e, by simp [sumA, e], by simp [sumB, e]⟩
theorem sum_good {ps : List (Int × Int)} (h : ps.length ≤ 40) (hall : ∀ j, j < ps.length → itemB (fstAt ps j) (sndAt ps j) = true) : sumFlag ps = true ∧ sumA ps = sumM ps ps.length ∧ sumB ps = sumQ ps ps.length := by
  have e : sumFlag ps = true := by
    have : itemsB ps = true := by simp only [itemsB, decide_eq_true_eq]; exact hall
    simp [sumFlag, this, h]
  exact ⟨e, by simp [sumA, e], by simp [sumB, e]⟩

end Go.Proofs.Ytbaocifpifbldaa
