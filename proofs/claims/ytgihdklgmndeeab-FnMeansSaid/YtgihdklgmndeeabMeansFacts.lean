/-
  The mean of numbers that are alike, and what is smoothed wholly, in plain numbers. No program here.
-/
import Derived.Test.YtgihdklgmndeeabMeansPure
import Derived.Test.YtgihdklgmndeeabMeanPure
namespace Go.Proofs.Ytgihdklgmndeeab
open Go

/-- Every number is the one, or missing. -/
def AllX (X : Nat) (Z : List Nat) : Prop := ∀ j, j < Z.length → elAt Z j = X ∨ nanB .f64 (elAt Z j) = true
theorem AllX.push {X y : Nat} {Z : List Nat} (h : AllX X Z) (hy : y = X ∨ nanB .f64 y = true) : AllX X (Z ++ [y]) := by
  intro j hj
  obtain ⟨h1, h2⟩ := elAt_app Z y
  by_cases e : j < Z.length
  · rw [h1 j e]; exact h j e
  · obtain rfl : j = Z.length := by simp at hj; omega
    rw [h2]; exact hy
theorem mcnt_app (Z : List Nat) (y : Nat) : ∀ k, k ≤ Z.length → mcnt (Z ++ [y]) k = mcnt Z k := by
  intro k
  induction k with
  | zero => intro _; rfl
  | succ k ih =>
    intro hk
    unfold mcnt
    rw [(elAt_app Z y).1 k (by omega), ih (by omega)]
theorem mcnt_push_nan {Z : List Nat} {y : Nat} (h : nanB .f64 y = true) : mcnt (Z ++ [y]) (Z.length + 1) = mcnt Z Z.length := by
  rw [(msum_nan (ps := Z ++ [y]) (k := Z.length) (by rw [(elAt_app Z y).2]; exact h)).2, mcnt_app Z y _ (Nat.le_refl _)]
theorem mcnt_push_num {Z : List Nat} {y : Nat} (h : nanB .f64 y = false) : mcnt (Z ++ [y]) (Z.length + 1) = mcnt Z Z.length + 1 := by
  rw [(msum_num (ps := Z ++ [y]) (k := Z.length) (by rw [(elAt_app Z y).2]; exact h)).2, mcnt_app Z y _ (Nat.le_refl _)]

section
variable {x : Int} (h0 : -128 ≤ x) (h1 : x ≤ 127) {Z : List Nat} (hZ : AllX (fint x) Z) (hl : Z.length ≤ 20)
include h0 h1 hZ hl
theorem msum_all : ∀ k, k ≤ Z.length → msum Z k = fint ((mcnt Z k : Int) * x) := by
  intro k
  induction k with
  | zero =>
    intro _
    show 0 = fint ((0 : Nat) * x)
    rw [show ((0 : Nat) : Int) * x = 0 by simp]
    decide
  | succ k ih =>
    intro hk
    have hm := mcnt_le Z k
    cases na : nanB .f64 (elAt Z k) with
    | true => rw [(msum_nan na).1, (msum_nan na).2]; exact ih (by omega)
    | false =>
      have hx : elAt Z k = fint x := by
        rcases hZ k (by omega) with h | h
        · exact h
        · rw [na] at h; cases h
      rw [(msum_num na).1, (msum_num na).2, ih (by omega), hx, add_s h0 h1 (by omega)]
      simp
theorem mean_all (hc : 0 < mcnt Z Z.length) : meanB Z = true ∧ meanX Z = fint x ∧ meanN Z = mcnt Z Z.length := by
  have hb : meanB Z = true := by unfold meanB; simp [hc]; omega
  refine ⟨hb, ?_, if_pos hb⟩
  unfold meanX
  rw [if_pos hb, msum_all h0 h1 hZ hl _ (Nat.le_refl _)]
  have hm := mcnt_le Z Z.length
  obtain ⟨n, hn⟩ : ∃ n, mcnt Z Z.length = n + 1 := ⟨mcnt Z Z.length - 1, by omega⟩
  rw [hn]
  have h := quo_s h0 h1 (n := n) (by omega)
  simpa using h
omit hl in
theorem smY_all : ∀ k, k ≤ Z.length → smS Z k = true → smY Z 4607182418800017408 k = fint x := by
  intro k
  induction k with
  | zero => intro _ h; cases h
  | succ k ih =>
    intro hk hs
    cases na : nanB .f64 (elAt Z k) with
    | true =>
      rw [(sm_nan 0 na).1] at hs
      rw [(sm_nan _ na).2]
      exact ih (by omega) hs
    | false =>
      have hx : elAt Z k = fint x := by
        rcases hZ k (by omega) with h | h
        · exact h
        · rw [na] at h; cases h
      rw [(sm_num _ na).2, hx]
      by_cases hs' : smS Z k = true
      · rw [if_pos hs', ih (by omega) hs']; exact step_s h0 h1
      · rw [if_neg hs']; exact step_s h0 h1
end
theorem mean_none {Z : List Nat} (hc : mcnt Z Z.length = 0) : meanB Z = false ∧ meanN Z = 0 := by
  have hb : meanB Z = false := by unfold meanB; simp [hc]
  exact ⟨hb, if_neg (by rw [hb]; simp)⟩

end Go.Proofs.Ytgihdklgmndeeab
