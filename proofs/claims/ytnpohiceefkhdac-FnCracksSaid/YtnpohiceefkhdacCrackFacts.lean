/-
  What the law on cracks asks, in plain numbers. No program here.
-/
import Derived.Test.YtnpohiceefkhdacCrackPure
namespace Go.Proofs.Ytnpohiceefkhdac
open Go

theorem look_law {n l g p : Int} (hc : crackB n l g = true) (h1 : 1 ≤ n) (hp : 1 ≤ p ∧ p ≤ 20) (hf : flB n l g = true) :
    (lookB n l g n p = false ∧ flN n l g - 1 < p) ∨ (lookB n l g n p = true ∧ 0 < lookN n l g n p ∧ lookN n l g n p ≤ 5000 ∧ lookN n l g n p * p < flN n l g) := by
  have f := crackB_facts hc
  have hb := fl_le (n := n) (l := l) (g := g)
  obtain ⟨k, _, hk, _⟩ := fl_facts hf
  have hi : inB n 1 l = true := by simp [inB]; omega
  have hq : inB p 1 20 = true := by simp [inB]; omega
  have hv : lookB n l g n p = decide (0 < (flN n l g - 1) / p) := by unfold lookB; rw [hc, hi, hq, hf]; rfl
  have hd2 : (flN n l g - 1) / p ≤ flN n l g - 1 := Int.ediv_le_self _ (by omega)
  by_cases h0 : 0 < (flN n l g - 1) / p
  · right
    have hy : lookB n l g n p = true := by rw [hv]; simpa using h0
    rw [look_yes hy]
    refine ⟨hy, h0, by omega, ?_⟩
    have := Int.ediv_mul_le (flN n l g - 1) (show p ≠ 0 by omega)
    omega
  · left
    refine ⟨by rw [hv]; simpa using h0, ?_⟩
    have hz : (flN n l g - 1) / p = 0 := by
      have : 0 ≤ (flN n l g - 1) / p := Int.ediv_nonneg (by omega) (by omega)
      omega
    have := Int.lt_ediv_add_one_mul_self (flN n l g - 1) (show 0 < p by omega)
    rw [hz] at this
    omega
theorem crack_drawn {x0 x1 x2 : Int} (_h0 : 0 ≤ x0 ∧ x0 ≤ 255) (h1 : 0 ≤ x1 ∧ x1 ≤ 255) (_h2 : 0 ≤ x2 ∧ x2 ≤ 255) :
    crackB (1 + x0 % 90) (90 + x1 * 4) (1 + x2 % 100) = true := by
  simp [crackB, inB]; omega

end Go.Proofs.Ytnpohiceefkhdac
