/-
  Plain mathematics of phases and peaks: heights at the phases' ends and at a tick, the first peak that is not cleared. No program here.
-/
import Derived.Test.YtkebjipmbgjilabRow2
import Derived.Test.YtkebjipmbgjilabLowPure
namespace Go.Proofs.Ytkebjipmbgjilab

def phase1 (a b : Int) : Bool := inB a (-100) 100 && inB b 1 1000
def phaseB (start : Int) (ps : List (Int × Int)) : Bool := inB start 0 100000 && decide (ps.length ≤ 12) && decide (∀ i, i < ps.length → phase1 (fstAt ps i) (sndAt ps i) = true)
theorem phase_facts {start : Int} {ps : List (Int × Int)} (h : phaseB start ps = true) : (0 ≤ start ∧ start ≤ 100000) ∧ ps.length ≤ 12 ∧ ∀ i, i < ps.length → (-100 ≤ fstAt ps i ∧ fstAt ps i ≤ 100) ∧ (1 ≤ sndAt ps i ∧ sndAt ps i ≤ 1000) := by
  simp only [phaseB, phase1, inB, Bool.and_eq_true, decide_eq_true_eq] at h
  exact ⟨h.1.1, h.1.2, h.2⟩
theorem phase_good {start : Int} {ps : List (Int × Int)} (h1 : inB start 0 100000 = true) (h2 : ps.length ≤ 12) (h3 : ∀ i, i < ps.length → phase1 (fstAt ps i) (sndAt ps i) = true) : phaseB start ps = true := by
  simp only [phaseB, Bool.and_eq_true, decide_eq_true_eq]; exact ⟨⟨h1, h2⟩, h3⟩
theorem phase_start {start : Int} {ps : List (Int × Int)} (h : inB start 0 100000 = false) : phaseB start ps = false := by simp [phaseB, h]
theorem phase_many {start : Int} {ps : List (Int × Int)} (h : ¬ ps.length ≤ 12) : phaseB start ps = false := by simp [phaseB, h]
theorem phase_bad {start : Int} {ps : List (Int × Int)} {i : Nat} (hi : i < ps.length) (h : phase1 (fstAt ps i) (sndAt ps i) = false) : phaseB start ps = false := by
  cases hp : phaseB start ps with
  | false => rfl
  | true =>
    simp only [phaseB, Bool.and_eq_true, decide_eq_true_eq] at hp
    have := hp.2 i hi
    rw [h] at this; cases this

/-- The height at the end of the first k phases. -/
def endAt (start : Int) (ps : List (Int × Int)) : Nat → Int
  | 0 => start
  | k + 1 => endAt start ps k + fstAt ps k * sndAt ps k
def endsL (start : Int) (ps : List (Int × Int)) : Nat → List Int
  | 0 => []
  | k + 1 => endsL start ps k ++ [endAt start ps (k + 1)]
theorem endAt_succ (start : Int) (ps : List (Int × Int)) (k : Nat) : endAt start ps (k + 1) = endAt start ps k + fstAt ps k * sndAt ps k := rfl
theorem endsL_len (start : Int) (ps : List (Int × Int)) (k : Nat) : (endsL start ps k).length = k := by
  induction k with
  | zero => rfl
  | succ k ih => simp [endsL, ih]
theorem prod_bd {a b : Int} (ha : -200 ≤ a ∧ a ≤ 200) (hb : 0 ≤ b ∧ b ≤ 2000) : -400000 ≤ a * b ∧ a * b ≤ 400000 := by
  have := mulBd (A := 200) (B := 2000) (s := a) (d := b) (by omega) (by omega) (by omega) (by omega) (by omega) (by omega)
  omega
/-- Loose bounds, which drawn phases keep too. -/
def LooseP (ps : List (Int × Int)) : Prop := ps.length ≤ 20 ∧ ∀ i, i < ps.length → (-200 ≤ fstAt ps i ∧ fstAt ps i ≤ 200) ∧ (0 ≤ sndAt ps i ∧ sndAt ps i ≤ 2000)
theorem phase_loose {start : Int} {ps : List (Int × Int)} (h : phaseB start ps = true) : LooseP ps := by
  obtain ⟨_, h2, h3⟩ := phase_facts h
  exact ⟨by omega, fun i hi => by have := h3 i hi; omega⟩
theorem endAt_bd {start : Int} {ps : List (Int × Int)} (hs : -200000 ≤ start ∧ start ≤ 200000) (h : LooseP ps) (k : Nat) (hk : k ≤ ps.length) : -200000 - 400000 * k ≤ endAt start ps k ∧ endAt start ps k ≤ 200000 + 400000 * k := by
  induction k with
  | zero => simp only [endAt]; omega
  | succ k ih =>
    have h1 := ih (by omega)
    have h2 := h.2 k (by omega)
    have h3 := prod_bd h2.1 h2.2
    simp only [endAt]
    omega

def climbL (start : Int) (ps : List (Int × Int)) : List Int := if phaseB start ps then endsL start ps ps.length else []
theorem climbL_yes {start : Int} {ps : List (Int × Int)} (h : phaseB start ps = true) : climbL start ps = endsL start ps ps.length := by unfold climbL; rw [h]; rfl
theorem climbL_no {start : Int} {ps : List (Int × Int)} (h : phaseB start ps = false) : climbL start ps = [] := by unfold climbL; rw [h]; rfl

def least (a b : Int) : Int := if a < b then a else b
theorem least_bd (a b : Int) : least a b ≤ a ∧ least a b ≤ b ∧ (least a b = a ∨ least a b = b) := by unfold least; split <;> omega
theorem least_comm (a b : Int) : least a b = least b a := by unfold least; split <;> split <;> omega
theorem least_yes {a b : Int} (h : a < b) : least a b = a := by unfold least; rw [if_pos h]
theorem least_no {a b : Int} (h : ¬ a < b) : least a b = b := by unfold least; rw [if_neg h]
/-- Of the first k phases: the ticks that are left, and the height. -/
def leftT (ps : List (Int × Int)) (tick : Int) : Nat → Int
  | 0 => tick
  | k + 1 => leftT ps tick k - least (leftT ps tick k) (sndAt ps k)
def highT (start : Int) (ps : List (Int × Int)) (tick : Int) : Nat → Int
  | 0 => start
  | k + 1 => highT start ps tick k + fstAt ps k * least (leftT ps tick k) (sndAt ps k)
theorem leftT_succ (ps : List (Int × Int)) (tick : Int) (k : Nat) : leftT ps tick (k + 1) = leftT ps tick k - least (leftT ps tick k) (sndAt ps k) := rfl
theorem highT_succ (start : Int) (ps : List (Int × Int)) (tick : Int) (k : Nat) : highT start ps tick (k + 1) = highT start ps tick k + fstAt ps k * least (leftT ps tick k) (sndAt ps k) := rfl
theorem leftT_bd {ps : List (Int × Int)} {tick : Int} (ht : 0 ≤ tick ∧ tick ≤ 12000) (h : LooseP ps) (k : Nat) (hk : k ≤ ps.length) : 0 ≤ leftT ps tick k ∧ leftT ps tick k ≤ 12000 := by
  induction k with
  | zero => exact ht
  | succ k ih =>
    have h1 := ih (by omega)
    have h2 := h.2 k (by omega)
    have h3 := least_bd (leftT ps tick k) (sndAt ps k)
    rw [leftT_succ]
    omega
theorem least_in {ps : List (Int × Int)} {tick : Int} (ht : 0 ≤ tick ∧ tick ≤ 12000) (h : LooseP ps) (k : Nat) (hk : k < ps.length) : 0 ≤ least (leftT ps tick k) (sndAt ps k) ∧ least (leftT ps tick k) (sndAt ps k) ≤ 2000 := by
  have h1 := leftT_bd ht h k (by omega)
  have h2 := h.2 k hk
  have h3 := least_bd (leftT ps tick k) (sndAt ps k)
  omega
theorem step_bd {ps : List (Int × Int)} {tick : Int} (ht : 0 ≤ tick ∧ tick ≤ 12000) (h : LooseP ps) (k : Nat) (hk : k < ps.length) : -400000 ≤ fstAt ps k * least (leftT ps tick k) (sndAt ps k) ∧ fstAt ps k * least (leftT ps tick k) (sndAt ps k) ≤ 400000 :=
  prod_bd (h.2 k hk).1 (least_in ht h k hk)
theorem highT_bd {start : Int} {ps : List (Int × Int)} {tick : Int} (hs : -200000 ≤ start ∧ start ≤ 200000) (ht : 0 ≤ tick ∧ tick ≤ 12000) (h : LooseP ps) (k : Nat) (hk : k ≤ ps.length) : -200000 - 400000 * k ≤ highT start ps tick k ∧ highT start ps tick k ≤ 200000 + 400000 * k := by
  induction k with
  | zero => simp only [highT]; omega
  | succ k ih =>
    have h1 := ih (by omega)
    have h3 := step_bd ht h k (by omega)
    rw [highT_succ]
    omega

def peak1 (a b : Int) : Bool := inB a 0 12000 && inB b 0 1000000
def peakB (qs : List (Int × Int)) : Bool := decide (qs.length ≤ 20) && decide (∀ i, i < qs.length → peak1 (fstAt qs i) (sndAt qs i) = true)
theorem peak_facts {qs : List (Int × Int)} (h : peakB qs = true) : qs.length ≤ 20 ∧ ∀ i, i < qs.length → (0 ≤ fstAt qs i ∧ fstAt qs i ≤ 12000) ∧ (0 ≤ sndAt qs i ∧ sndAt qs i ≤ 1000000) := by
  simp only [peakB, peak1, inB, Bool.and_eq_true, decide_eq_true_eq] at h
  exact ⟨h.1, h.2⟩
theorem peak_good {qs : List (Int × Int)} (h2 : qs.length ≤ 20) (h3 : ∀ i, i < qs.length → peak1 (fstAt qs i) (sndAt qs i) = true) : peakB qs = true := by
  simp only [peakB, Bool.and_eq_true, decide_eq_true_eq]; exact ⟨h2, h3⟩
theorem peak_many {qs : List (Int × Int)} (h : ¬ qs.length ≤ 20) : peakB qs = false := by simp [peakB, h]
theorem peak_bad {qs : List (Int × Int)} {i : Nat} (hi : i < qs.length) (h : peak1 (fstAt qs i) (sndAt qs i) = false) : peakB qs = false := by
  cases hp : peakB qs with
  | false => rfl
  | true =>
    simp only [peakB, Bool.and_eq_true, decide_eq_true_eq] at hp
    have := hp.2 i hi
    rw [h] at this; cases this

/-- Whether the aircraft is too low above peak i. -/
def lowPk (start : Int) (ps qs : List (Int × Int)) (m : Int) (i : Nat) : Bool := decide (highT start ps (fstAt qs i) ps.length - sndAt qs i < m)
def clearAt (start : Int) (ps qs : List (Int × Int)) (m : Int) : Int := match (List.range qs.length).find? fun i => lowPk start ps qs m i with
  | some i => (i : Int)
  | none => -1
theorem clear_at {start : Int} {ps qs : List (Int × Int)} {m : Int} {i : Nat} (hi : i < qs.length) (h : lowPk start ps qs m i = true) (hb : ∀ j, j < i → lowPk start ps qs m j = false) : clearAt start ps qs m = i := by
  unfold clearAt
  have : (List.range qs.length).find? (fun i => lowPk start ps qs m i) = some i := by
    rw [List.find?_range_eq_some]
    exact ⟨h, by simpa using hi, fun j hj => by simp [hb j hj]⟩
  rw [this]
theorem clear_none {start : Int} {ps qs : List (Int × Int)} {m : Int} (hb : ∀ j, j < qs.length → lowPk start ps qs m j = false) : clearAt start ps qs m = -1 := by
  unfold clearAt
  have : (List.range qs.length).find? (fun i => lowPk start ps qs m i) = none := by
    rw [List.find?_eq_none]
    intro j hj
    simp [hb j (by simpa using hj)]
  rw [this]
theorem clear_is (start : Int) (ps qs : List (Int × Int)) (m : Int) :
    (clearAt start ps qs m = -1 ∧ ∀ j, j < qs.length → lowPk start ps qs m j = false) ∨ ∃ i : Nat, i < qs.length ∧ clearAt start ps qs m = i ∧ lowPk start ps qs m i = true ∧ ∀ j, j < i → lowPk start ps qs m j = false := by
  cases hf : (List.range qs.length).find? (fun i => lowPk start ps qs m i) with
  | none =>
    refine .inl ⟨by unfold clearAt; rw [hf], fun j hj => ?_⟩
    rw [List.find?_eq_none] at hf
    simpa using hf j (by simpa using hj)
  | some i =>
    have h := hf
    rw [List.find?_range_eq_some] at h
    exact .inr ⟨i, by simpa using h.2.1, by unfold clearAt; rw [hf], h.1, fun j hj => by simpa using h.2.2 j hj⟩
def clearOk (start : Int) (ps qs : List (Int × Int)) (m : Int) : Bool := phaseB start ps && peakB qs && inB m 0 1000
def clearR (start : Int) (ps qs : List (Int × Int)) (m : Int) : Int × Bool := if clearOk start ps qs m then (clearAt start ps qs m, true) else (-2, false)
theorem clearR_no {start : Int} {ps qs : List (Int × Int)} {m : Int} (h : clearOk start ps qs m = false) : clearR start ps qs m = (-2, false) := by unfold clearR; rw [h]; rfl
theorem clearR_yes {start : Int} {ps qs : List (Int × Int)} {m : Int} (h : clearOk start ps qs m = true) : clearR start ps qs m = (clearAt start ps qs m, true) := by unfold clearR; rw [h]; rfl

end Go.Proofs.Ytkebjipmbgjilab
