/-
  Plain mathematics of the air: how warm it is after k pieces, and bounds on it. No program here.
-/
import Derived.Test.YtbaocifpifbldaaAir
namespace Go.Proofs.Ytbaocifpifbldaa

/-- How warm it is and where the next piece begins, after k pieces. -/
def warmTo (b : Int) (ss ts : List Int) (h : Int) : Nat → Int × Int
  | 0 => (b, 0)
  | k + 1 => if (warmTo b ss ts h k).2 < h then ((warmTo b ss ts h k).1 + nth ss k * (min h (nth ts k) - (warmTo b ss ts h k).2), nth ts k) else warmTo b ss ts h k

def warmT (b : Int) (ss ts : List Int) (h : Int) (k : Nat) : Int := (warmTo b ss ts h k).1
def warmF (b : Int) (ss ts : List Int) (h : Int) (k : Nat) : Int := (warmTo b ss ts h k).2

theorem warm_zero (b : Int) (ss ts : List Int) (h : Int) : warmT b ss ts h 0 = b ∧ warmF b ss ts h 0 = 0 := ⟨rfl, rfl⟩
theorem warm_go {b : Int} {ss ts : List Int} {h : Int} {k : Nat} (hk : warmF b ss ts h k < h) :
    warmT b ss ts h (k + 1) = warmT b ss ts h k + nth ss k * (min h (nth ts k) - warmF b ss ts h k) ∧ warmF b ss ts h (k + 1) = nth ts k := by
  unfold warmT warmF at *
  rw [warmTo, if_pos hk]; exact ⟨rfl, rfl⟩
theorem warm_stay {b : Int} {ss ts : List Int} {h : Int} {k : Nat} (hk : h ≤ warmF b ss ts h k) :
    warmT b ss ts h (k + 1) = warmT b ss ts h k ∧ warmF b ss ts h (k + 1) = warmF b ss ts h k := by
  unfold warmT warmF at *
  rw [warmTo, if_neg (by omega)]; exact ⟨rfl, rfl⟩
theorem warm_end {b : Int} {ss ts : List Int} {h : Int} {k : Nat} (hk : h ≤ warmF b ss ts h k) : ∀ n, k ≤ n → warmT b ss ts h n = warmT b ss ts h k ∧ warmF b ss ts h n = warmF b ss ts h k := by
  intro n hn
  induction n with
  | zero => have : k = 0 := by omega
            subst this; exact ⟨rfl, rfl⟩
  | succ n ih =>
    by_cases e : k = n + 1
    · subst e; exact ⟨rfl, rfl⟩
    · have ih := ih (by omega)
      have := warm_stay (b := b) (ss := ss) (ts := ts) (h := h) (k := n) (by rw [ih.2]; exact hk)
      exact ⟨this.1.trans ih.1, this.2.trans ih.2⟩

structure AirFacts (b : Int) (ss ts : List Int) : Prop where
  base : -100 ≤ b ∧ b ≤ 100
  len : ss.length = ts.length
  many : 1 ≤ ts.length ∧ ts.length ≤ 6
  slopes : ∀ i, i < ss.length → -20 ≤ nth ss i ∧ nth ss i ≤ 20
  tops : ∀ i, i < ts.length → 1 ≤ nth ts i ∧ nth ts i ≤ 1000
  rise : ∀ i, i < ts.length - 1 → nth ts i < nth ts (i + 1)

theorem airB_facts {b : Int} {ss ts : List Int} (h : airB b ss ts = true) : AirFacts b ss ts := by
  simp only [airB, Bool.and_eq_true, inB, riseB, allB, decide_eq_true_eq, beq_iff_eq] at h
  obtain ⟨⟨⟨⟨⟨h1, h2⟩, h3⟩, h4⟩, h5⟩, h6⟩ := h
  exact ⟨h1, by omega, by omega, h6, h5, h4⟩

theorem mul_bd {s d A B : Int} (h1 : -A ≤ s) (h2 : s ≤ A) (h3 : -B ≤ d) (h4 : d ≤ B) (_hA : 0 ≤ A) (_hB : 0 ≤ B) : -(A * B) ≤ s * d ∧ s * d ≤ A * B := by
  have e1 : 0 ≤ (A - s) * (B - d) := Int.mul_nonneg (by omega) (by omega)
  have e2 : 0 ≤ (A + s) * (B + d) := Int.mul_nonneg (by omega) (by omega)
  have e3 : 0 ≤ (A - s) * (B + d) := Int.mul_nonneg (by omega) (by omega)
  have e4 : 0 ≤ (A + s) * (B - d) := Int.mul_nonneg (by omega) (by omega)
  simp only [Int.sub_mul, Int.add_mul, Int.mul_sub, Int.mul_add] at e1 e2 e3 e4
  constructor <;> omega

theorem warm_bd {b : Int} {ss ts : List Int} (f : AirFacts b ss ts) (h : Int) (h0 : 0 ≤ h) (h1 : h ≤ 1000) : ∀ k, k ≤ ts.length → (0 ≤ warmF b ss ts h k ∧ warmF b ss ts h k ≤ 1000) ∧ (-100 - 20000 * (k : Int) ≤ warmT b ss ts h k ∧ warmT b ss ts h k ≤ 100 + 20000 * (k : Int)) := by
  intro k hk
  induction k with
  | zero => rw [(warm_zero b ss ts h).1, (warm_zero b ss ts h).2]; have := f.base; omega
  | succ k ih =>
    have ih := ih (by omega)
    have t := f.tops k (by omega)
    have s := f.slopes k (by have := f.len; omega)
    by_cases e : warmF b ss ts h k < h
    · rw [(warm_go e).1, (warm_go e).2]
      have m := mul_bd (A := 20) (B := 1000) (s := nth ss k) (d := min h (nth ts k) - warmF b ss ts h k) s.1 s.2 (by omega) (by omega) (by omega) (by omega)
      omega
    · rw [(warm_stay (by omega)).1, (warm_stay (by omega)).2]; omega

theorem warm_prod {b : Int} {ss ts : List Int} (f : AirFacts b ss ts) (h : Int) (h0 : 0 ≤ h) (h1 : h ≤ 1000) (k : Nat) (hk : k < ts.length) : -20000 ≤ nth ss k * (min h (nth ts k) - warmF b ss ts h k) ∧ nth ss k * (min h (nth ts k) - warmF b ss ts h k) ≤ 20000 := by
  have w := warm_bd f h h0 h1 k (by omega)
  have t := f.tops k (by omega)
  have s := f.slopes k (by have := f.len; omega)
  have m := mul_bd (A := 20) (B := 1000) (s := nth ss k) (d := min h (nth ts k) - warmF b ss ts h k) s.1 s.2 (by omega) (by omega) (by omega) (by omega)
  omega

end Go.Proofs.Ytbaocifpifbldaa
