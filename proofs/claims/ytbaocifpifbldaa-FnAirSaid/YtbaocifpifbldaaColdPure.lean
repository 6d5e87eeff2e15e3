/-
  Plain mathematics of the coldest height: how warm it is at each top, and the least of these. No program here.
-/
import Derived.Test.YtbaocifpifbldaaWarmImpl
namespace Go.Proofs.Ytbaocifpifbldaa

/-- Where piece k begins. -/
def cumF (ts : List Int) (k : Nat) : Int := if k = 0 then 0 else nth ts (k - 1)
/-- How warm it is where piece k begins. -/
def cumT (b : Int) (ss ts : List Int) : Nat → Int
  | 0 => b
  | k + 1 => cumT b ss ts k + nth ss k * (nth ts k - cumF ts k)

theorem cumT_succ (b : Int) (ss ts : List Int) (k : Nat) : cumT b ss ts (k + 1) = cumT b ss ts k + nth ss k * (nth ts k - cumF ts k) := rfl
theorem cumF_succ (ts : List Int) (k : Nat) : cumF ts (k + 1) = nth ts k := by simp [cumF]

def coldTo (b : Int) (ss ts : List Int) : Nat → Int × Int
  | 0 => (0, b)
  | k + 1 => if cumT b ss ts (k + 1) < (coldTo b ss ts k).2 then (nth ts k, cumT b ss ts (k + 1)) else coldTo b ss ts k
def coldH (b : Int) (ss ts : List Int) (k : Nat) : Int := (coldTo b ss ts k).1
def coldT (b : Int) (ss ts : List Int) (k : Nat) : Int := (coldTo b ss ts k).2

theorem cold_take {b : Int} {ss ts : List Int} {k : Nat} (h : cumT b ss ts (k + 1) < coldT b ss ts k) : coldH b ss ts (k + 1) = nth ts k ∧ coldT b ss ts (k + 1) = cumT b ss ts (k + 1) := by
  unfold coldH coldT at *
  rw [coldTo, if_pos h]; exact ⟨rfl, rfl⟩
theorem cold_pass {b : Int} {ss ts : List Int} {k : Nat} (h : ¬ cumT b ss ts (k + 1) < coldT b ss ts k) : coldH b ss ts (k + 1) = coldH b ss ts k ∧ coldT b ss ts (k + 1) = coldT b ss ts k := by
  unfold coldH coldT at *
  rw [coldTo, if_neg h]; exact ⟨rfl, rfl⟩

theorem rise_le {b : Int} {ss ts : List Int} (f : AirFacts b ss ts) : ∀ j i, i ≤ j → j < ts.length → nth ts i ≤ nth ts j := by
  intro j
  induction j with
  | zero => intro i hi _; have : i = 0 := by omega
            subst this; omega
  | succ j ih =>
    intro i hi hj
    by_cases e : i = j + 1
    · subst e; omega
    · have := ih i (by omega) (by omega)
      have := f.rise j (by omega)
      omega

theorem cumF_bd {b : Int} {ss ts : List Int} (f : AirFacts b ss ts) (k : Nat) (hk : k ≤ ts.length) : 0 ≤ cumF ts k ∧ cumF ts k ≤ 1000 := by
  unfold cumF
  split
  · omega
  · have := f.tops (k - 1) (by omega); omega

theorem cum_prod {b : Int} {ss ts : List Int} (f : AirFacts b ss ts) (k : Nat) (hk : k < ts.length) : -20000 ≤ nth ss k * (nth ts k - cumF ts k) ∧ nth ss k * (nth ts k - cumF ts k) ≤ 20000 := by
  have t := f.tops k hk
  have s := f.slopes k (by have := f.len; omega)
  have c := cumF_bd f k (by omega)
  have m := mul_bd (A := 20) (B := 1000) (s := nth ss k) (d := nth ts k - cumF ts k) s.1 s.2 (by omega) (by omega) (by omega) (by omega)
  omega

theorem cum_bd {b : Int} {ss ts : List Int} (f : AirFacts b ss ts) : ∀ k, k ≤ ts.length → -100 - 20000 * (k : Int) ≤ cumT b ss ts k ∧ cumT b ss ts k ≤ 100 + 20000 * (k : Int) := by
  intro k hk
  induction k with
  | zero => have := f.base; simp only [cumT]; omega
  | succ k ih =>
    have ih := ih (by omega)
    have := cum_prod f k (by omega)
    rw [cumT_succ]; omega

theorem warm_cum {b : Int} {ss ts : List Int} (f : AirFacts b ss ts) (i : Nat) (hi : i < ts.length) : ∀ j, j ≤ i + 1 → warmT b ss ts (nth ts i) j = cumT b ss ts j ∧ warmF b ss ts (nth ts i) j = cumF ts j := by
  intro j hj
  induction j with
  | zero => exact ⟨rfl, rfl⟩
  | succ j ih =>
    have ih := ih (by omega)
    have hlt : warmF b ss ts (nth ts i) j < nth ts i := by
      rw [ih.2]
      unfold cumF
      have ht := f.tops i hi
      split
      · omega
      · have := rise_le f i j (by omega) hi
        have := f.rise (j - 1) (by omega)
        have e : j - 1 + 1 = j := by omega
        rw [e] at this
        omega
    have g := warm_go hlt
    have hm : min (nth ts i) (nth ts j) = nth ts j := by have := rise_le f i j (by omega) hi; omega
    rw [g.1, g.2, ih.1, ih.2, hm, cumT_succ, cumF_succ]
    exact ⟨rfl, rfl⟩

theorem warm_at_top {b : Int} {ss ts : List Int} (ha : airB b ss ts = true) (i : Nat) (hi : i < ts.length) : warmAns b ss ts (nth ts i) = cumT b ss ts (i + 1) ∧ warmFlag b ss ts (nth ts i) = true := by
  have f := airB_facts ha
  have hin : inB (nth ts i) 0 (nth ts (ts.length - 1)) = true := by
    have := rise_le f (ts.length - 1) i (by omega) (by omega)
    have := f.tops i hi
    simp only [inB, decide_eq_true_eq]; omega
  have w := warm_cum f i hi (i + 1) (Nat.le_refl _)
  have e := warm_end (b := b) (ss := ss) (ts := ts) (h := nth ts i) (k := i + 1) (by rw [w.2, cumF_succ]; omega) ts.length (by omega)
  constructor
  · unfold warmAns; rw [ha, hin]; simp only [Bool.and_self, if_true]; rw [e.1, w.1]
  · unfold warmFlag; rw [ha, hin]; rfl

end Go.Proofs.Ytbaocifpifbldaa
