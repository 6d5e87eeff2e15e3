/-
  What FnProfiles asks, in plain numbers: with greater slopes no less can be had; where all points can be had there is a best first height; its way keeps all bounds and slopes. No program here.
-/
import Derived.Test.YtbaocifpifbldaePbWay
import Derived.Test.YtbaocifpifbldaePdDraw
namespace Go.Proofs.Ytbaocifpifbldae
open Go.RowKit

theorem rcA_more {ps : List Po} {up down up' down' : Int} (q1 : poB ps = true) (h1 : up ≤ up') (h2 : down ≤ down') : ∀ k, k < ps.length → (rcA ps up' down' k).a1 ≤ (rcA ps up down k).a1 ∧ (rcA ps up down k).a2 ≤ (rcA ps up' down' k).a2
  | 0, _ => ⟨Int.le_refl _, Int.le_refl _⟩
  | k + 1, h => by
    have ih := rcA_more q1 h1 h2 k (by omega)
    have pa := poAt_facts ((poB_facts q1).1 (k + 1) h)
    have e : (elAt ps k).a0 < (elAt ps (k + 1)).a0 := by
      rcases pa.2.2.2 with h | h
      · omega
      · simpa using h
    have m1 : up * ((elAt ps (k + 1)).a0 - (elAt ps k).a0) ≤ up' * ((elAt ps (k + 1)).a0 - (elAt ps k).a0) := Int.mul_le_mul_of_nonneg_right h1 (by omega)
    have m2 : down * ((elAt ps (k + 1)).a0 - (elAt ps k).a0) ≤ down' * ((elAt ps (k + 1)).a0 - (elAt ps k).a0) := Int.mul_le_mul_of_nonneg_right h2 (by omega)
    rw [rcA_s1, rcA_s1, rcA_s2, rcA_s2]
    omega
theorem rcK_ge {ps : List Po} {up down : Int} {k : Nat} (hk : k ≤ ps.length) (h : ∀ j, j < k → ¬ (rcA ps up down j).a2 < (rcA ps up down j).a1) : k ≤ rcK ps up down := by
  unfold rcK
  cases e : (List.range ps.length).find? fun k => decide ((rcA ps up down k).a2 < (rcA ps up down k).a1) with
  | none => simp; omega
  | some j =>
    rw [List.find?_range_eq_some] at e
    simp only [Option.getD_some]
    rcases Nat.lt_or_ge j k with h2 | h2
    · exact absurd (of_decide_eq_true e.1) (h j h2)
    · exact h2
theorem rcK_more {ps : List Po} {up down up' down' : Int} (q1 : poB ps = true) (h1 : up ≤ up') (h2 : down ≤ down') : rcK ps up down ≤ rcK ps up' down' :=
  rcK_ge (rcK_le _ _ _) (fun j hj => by
    have hl := rcK_le ps up down
    have := rcK_ok hj
    have := rcA_more q1 h1 h2 j (by omega)
    omega)
theorem bsH_good {ps : List Po} {up down : Int} (q1 : poB ps = true) (q2 : slB up down = true) (q3 : bkB ps up down = true) : ∀ m : Nat, (bkI ps up down 0).a1 + 1 + m ≤ (bkI ps up down 0).a2 + 1 →
    pfB ps up down (bsH ps up down ((bkI ps up down 0).a1 + 1 + m)).1 = true ∧ 0 ≤ (bsH ps up down ((bkI ps up down 0).a1 + 1 + m)).2
  | 0, h => by
    have e : (bkI ps up down 0).a1 + 1 + ((0 : Nat) : Int) = (bkI ps up down 0).a1 + 1 := by omega
    rw [e, bsH_first q1 q2 q3]
    have hp := pfB_in q1 q2 q3 (Int.le_refl (bkI ps up down 0).a1) (by omega)
    exact ⟨hp, (wsA_bd hp (poB_facts q1).2.2).1⟩
  | m + 1, h => by
    have ih := bsH_good q1 q2 q3 m (by omega)
    have e : (bkI ps up down 0).a1 + 1 + ((m + 1 : Nat) : Int) = (bkI ps up down 0).a1 + 1 + (m : Int) + 1 := by omega
    rw [e, bsH_next q1 q2 q3 (by omega) (by omega) ih.2]
    have hp := pfB_in q1 q2 q3 (h := (bkI ps up down 0).a1 + 1 + (m : Int)) (by omega) (by omega)
    split
    · exact ⟨hp, (wsA_bd hp (poB_facts q1).2.2).1⟩
    · exact ih
theorem bs_yes {ps : List Po} {up down : Int} (q1 : poB ps = true) (q2 : slB up down = true) (q3 : rcK ps up down = ps.length) (q4 : (elAt ps 0).a2 ≤ 300) : bsB ps up down = true ∧ pfB ps up down (bsI ps up down) = true := by
  have qb : bkB ps up down = true := by rw [bkB_is q1 q2]; exact decide_eq_true q3
  have pf := poB_facts q1
  have hne := of_decide_eq_true qb 0 (by omega)
  have g := bsH_good q1 q2 qb ((bkI ps up down 0).a2 - (bkI ps up down 0).a1).toNat (by omega)
  have e : (bkI ps up down 0).a1 + 1 + ((((bkI ps up down 0).a2 - (bkI ps up down 0).a1).toNat : Nat) : Int) = (bkI ps up down 0).a2 + 1 := by omega
  rw [e, ← bsH_last q1 q2 qb q4] at g
  exact ⟨decide_eq_true g.2, g.1⟩
theorem bs_not {ps : List Po} {up down : Int} (q1 : poB ps = true) (q2 : slB up down = true) (q3 : rcK ps up down < ps.length) : bsB ps up down = false := by
  have qb : bkB ps up down = false := by rw [bkB_is q1 q2]; exact decide_eq_false (by omega)
  exact (bs_no (by simp [qb])).2
/-- What the way keeps. -/
theorem pr_facts {ps : List Po} {up down first : Int} (hp : pfB ps up down first = true) : (pfL ps up down first).length = ps.length ∧ nth (pfL ps up down first) 0 = first ∧ (∀ i, i < ps.length → (rcA ps up down i).a1 ≤ nth (pfL ps up down first) i ∧ nth (pfL ps up down first) i ≤ (rcA ps up down i).a2) ∧
    (∀ i, i + 1 < ps.length → nth (pfL ps up down first) (i + 1) - nth (pfL ps up down first) i ≤ up * ((elAt ps (i + 1)).a0 - (elAt ps i).a0) ∧ nth (pfL ps up down first) i - nth (pfL ps up down first) (i + 1) ≤ down * ((elAt ps (i + 1)).a0 - (elAt ps i).a0)) := by
  have e : pfL ps up down first = prL ps up down first ps.length := by simp [pfL, hp]
  have hq := hp
  unfold pfB at hq
  simp only [Bool.and_eq_true] at hq
  obtain ⟨⟨⟨q1, q2⟩, q3⟩, q4⟩ := hq
  have pf := poB_facts q1
  rw [e]
  refine ⟨prL_len _ _ _ _ _, ?_, fun i hi => ?_, fun i hi => ?_⟩
  · rw [prL_at (by omega)]; rfl
  · rw [prL_at hi]; exact (way_step q1 q2 q3 q4 i hi).1
  · rw [prL_at hi, prL_at (by omega)]
    have w1 := (way_step q1 q2 q3 q4 i (by omega)).2.1
    have b1 := bkI_s1 (up := up) (down := down) hi
    have su := step_up q1 q2 hi
    have e2 : prA ps up down first (i + 1) = max (max (bkI ps up down (i + 1)).a1 (prA ps up down first i - down * ((elAt ps (i + 1)).a0 - (elAt ps i).a0)))
      (min (min (bkI ps up down (i + 1)).a2 (prA ps up down first i + up * ((elAt ps (i + 1)).a0 - (elAt ps i).a0))) (prA ps up down first i)) := rfl
    generalize prA ps up down first (i + 1) = Y at *
    generalize prA ps up down first i = X at *
    generalize up * ((elAt ps (i + 1)).a0 - (elAt ps i).a0) = U at *
    generalize down * ((elAt ps (i + 1)).a0 - (elAt ps i).a0) = D at *
    omega
theorem ds_30 : dsR 30 4 20 = 12 ∧ dsB 30 4 20 = true := by decide

end Go.Proofs.Ytbaocifpifbldae
