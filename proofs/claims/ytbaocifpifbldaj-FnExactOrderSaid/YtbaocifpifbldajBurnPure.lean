/-
  Plain mathematics of Burnt: tanks after some burns, and the first burn that can't be done. No program here.
-/
import Derived.Test.YtbaocifpifbldajSumPure
import Derived.Test.YtbaocifpifbldajOwn2
namespace Go.Proofs.Ytbaocifpifbldaj

def tanksB (ts : List (Int × Int)) : Bool := decide (ts.length ≤ 8) && itemsB ts
theorem tanks_many {ts : List (Int × Int)} (h : ¬ ts.length ≤ 8) : tanksB ts = false := by simp [tanksB, h]
theorem tanks_bad {ts : List (Int × Int)} {j : Nat} (hj : j < ts.length) (h : itemB (fstAt ts j) (sndAt ts j) = false) : tanksB ts = false := by
  have : itemsB ts = false := by simp only [itemsB, decide_eq_false_iff_not]; intro k; have := k j hj; rw [h] at this; cases this
  simp [tanksB, this]
theorem tanks_good {ts : List (Int × Int)} (h : ts.length ≤ 8) (hall : ∀ j, j < ts.length → itemB (fstAt ts j) (sndAt ts j) = true) : tanksB ts = true := by
  have : itemsB ts = true := by simp only [itemsB, decide_eq_true_eq]; exact hall
  simp [tanksB, this, h]
theorem tanks_len {ts : List (Int × Int)} (hall : ∀ j, j < ts.length → itemB (fstAt ts j) (sndAt ts j) = true) : tanksB ts = decide (ts.length ≤ 8) := by
  have : itemsB ts = true := by simp only [itemsB, decide_eq_true_eq]; exact hall
  simp [tanksB, this]
theorem tanks_facts {ts : List (Int × Int)} (h : tanksB ts = true) : ts.length ≤ 8 ∧ ∀ j, j < ts.length → itemB (fstAt ts j) (sndAt ts j) = true := by
  simp only [tanksB, itemsB, Bool.and_eq_true, decide_eq_true_eq] at h
  exact h

def canB (ts : List (Int × Int)) (t n : Int) : Bool := inB t 0 ((ts.length : Int) - 1) && inB n 1 10000 && decide (n ≤ fstAt ts t.toNat)
theorem can_facts {ts : List (Int × Int)} {t n : Int} (h : canB ts t n = true) : (0 ≤ t ∧ t < ts.length) ∧ (1 ≤ n ∧ n ≤ 10000) ∧ n ≤ fstAt ts t.toNat := by
  simp only [canB, Bool.and_eq_true, inB, decide_eq_true_eq] at h
  omega
def take1 (ts : List (Int × Int)) (t n : Int) : List (Int × Int) := ts.set t.toNat (fstAt ts t.toNat - n, sndAt ts t.toNat)
theorem take1_len (ts : List (Int × Int)) (t n : Int) : (take1 ts t n).length = ts.length := by simp [take1]

/-- The tanks behind the first k burns. -/
def afterB (ts bs : List (Int × Int)) : Nat → List (Int × Int)
  | 0 => ts
  | k + 1 => take1 (afterB ts bs k) (fstAt bs k) (sndAt bs k)
theorem afterB_succ (ts bs : List (Int × Int)) (k : Nat) : afterB ts bs (k + 1) = take1 (afterB ts bs k) (fstAt bs k) (sndAt bs k) := rfl
theorem afterB_len (ts bs : List (Int × Int)) (k : Nat) : (afterB ts bs k).length = ts.length := by
  induction k with
  | zero => rfl
  | succ k ih => rw [afterB_succ, take1_len, ih]

def canAt (ts bs : List (Int × Int)) (k : Nat) : Bool := canB (afterB ts bs k) (fstAt bs k) (sndAt bs k)
def stopN (ts bs : List (Int × Int)) : Nat := ((List.range bs.length).find? fun k => !canAt ts bs k).getD bs.length
theorem stop_is {ts bs : List (Int × Int)} {k : Nat} (hk : k < bs.length) (h : canAt ts bs k = false) (hb : ∀ j, j < k → canAt ts bs j = true) : stopN ts bs = k := by
  unfold stopN
  have : (List.range bs.length).find? (fun i => !canAt ts bs i) = some k := by
    rw [List.find?_range_eq_some]
    refine ⟨by simp [h], by simpa using hk, fun j hj => ?_⟩
    simp [hb j hj]
  rw [this]; rfl
theorem stop_all {ts bs : List (Int × Int)} (hb : ∀ j, j < bs.length → canAt ts bs j = true) : stopN ts bs = bs.length := by
  unfold stopN
  have : (List.range bs.length).find? (fun i => !canAt ts bs i) = none := by
    rw [List.find?_eq_none]
    intro x hx
    simp [hb x (by simpa using hx)]
  rw [this]; rfl

def burntOk (ts bs : List (Int × Int)) : Bool := tanksB ts && decide (bs.length ≤ 60)
def burntT (ts bs : List (Int × Int)) : List (Int × Int) := if burntOk ts bs then afterB ts bs (stopN ts bs) else []
def burntC (ts bs : List (Int × Int)) : Int := if burntOk ts bs then (if stopN ts bs < bs.length then (stopN ts bs : Int) else -1) else -2
theorem burnt_bad {ts bs : List (Int × Int)} (h : burntOk ts bs = false) : burntT ts bs = [] ∧ burntC ts bs = -2 := by simp [burntT, burntC, h]
theorem burnt_stop {ts bs : List (Int × Int)} {k : Nat} (h0 : burntOk ts bs = true) (hk : k < bs.length) (h : canAt ts bs k = false) (hb : ∀ j, j < k → canAt ts bs j = true) : burntT ts bs = afterB ts bs k ∧ burntC ts bs = k := by
  have e := stop_is hk h hb
  simp [burntT, burntC, h0, e, hk]
theorem burnt_all {ts bs : List (Int × Int)} (h0 : burntOk ts bs = true) (hb : ∀ j, j < bs.length → canAt ts bs j = true) : burntT ts bs = afterB ts bs bs.length ∧ burntC ts bs = -1 := by
  have e := stop_all hb
  simp [burntT, burntC, h0, e]

/-- A list of pairs as cells. -/
def flat : List (Int × Int) → List Value
  | [] => []
  | p :: ps => .int .i64 p.1 :: .int .i64 p.2 :: flat ps
theorem flat_len (ps : List (Int × Int)) : (flat ps).length = ps.length * 2 := by
  induction ps with
  | nil => rfl
  | cons p ps ih => simp [flat, ih]; omega
theorem flat_at (ps : List (Int × Int)) : ∀ j, j < ps.length → (flat ps)[j * 2]? = some (.int .i64 (fstAt ps j)) ∧ (flat ps)[j * 2 + 1]? = some (.int .i64 (sndAt ps j)) := by
  induction ps with
  | nil => intro j hj; simp at hj
  | cons p ps ih =>
    intro j hj
    cases j with
    | zero => simp [flat, fstAt, sndAt]
    | succ j =>
      have := ih j (by simpa using hj)
      have e : (j + 1) * 2 = j * 2 + 1 + 1 := by omega
      rw [e]
      simpa [flat, fstAt, sndAt] using this
theorem flat_one (ps : List (Int × Int)) : ∀ u ∈ flat ps, u.oneCell' = true := by
  induction ps with
  | nil => intro u hu; simp [flat] at hu
  | cons p ps ih =>
    intro u hu
    simp only [flat, List.mem_cons] at hu
    rcases hu with rfl | rfl | hu
    · rfl
    · rfl
    · exact ih u hu
/-- The cells of a row of pairs are those of its list. -/
theorem flat_cells {w : World} {b off len : Nat} {ps : List (Int × Int)} (h : Row2 w (some ⟨b, off, none⟩) len ps) : ∀ j u, (flat ps)[j]? = some u → w.cell? ((⟨b, off, none⟩ : Addr).add j) = some u := by
  intro j u hu
  have hj := (List.getElem?_eq_some_iff.1 hu).1
  rw [flat_len, h.len_eq] at hj
  obtain ⟨b', off', ha, hc, hd⟩ := h.cells (j / 2) (by omega)
  simp only [Option.some.injEq, Addr.mk.injEq, and_true] at ha
  obtain ⟨rfl, rfl⟩ := ha
  have hf := flat_at ps (j / 2) (by rw [h.len_eq]; omega)
  have hadd : (⟨b, off, none⟩ : Addr).add j = ⟨b, off + j, none⟩ := by unfold Addr.add; split <;> simp_all
  rw [hadd]
  rcases Nat.mod_two_eq_zero_or_one j with e | e
  · have e2 : j / 2 * 2 = j := by omega
    rw [e2] at hc hf
    rw [hf.1] at hu
    simp only [Option.some.injEq] at hu
    rw [← hu]; exact hc
  · have e2 : j / 2 * 2 + 1 = j := by omega
    rw [Nat.add_assoc, e2] at hd
    rw [e2] at hf
    rw [hf.2] at hu
    simp only [Option.some.injEq] at hu
    rw [← hu]; exact hd
theorem own2_flat {w : World} {base : Nat} {T : TypeId} {v : Value} {ps : List (Int × Int)} (h : w.ownsRow base T 2 v ps.length (flat ps)) (hf : Fit2 ps) : Own2 w base T v ps :=
  ⟨⟨_, h, fun j hj => flat_at ps j hj⟩, hf⟩

end Go.Proofs.Ytbaocifpifbldaj
