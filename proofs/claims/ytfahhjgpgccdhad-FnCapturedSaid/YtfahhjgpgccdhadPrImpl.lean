/-
  What the program's Press answers: as the plain function. At every pilot, key and number; nothing that was there is written.
-/
import Derived.Test.YtfahhjgpgccdhadApKeys
import Derived.Test.YtfahhjgpgccdhadPrPure
namespace Go.Proofs.Ytfahhjgpgccdhad
open Go.RowKit

set_option maxHeartbeats 1000000 in
theorem implPress_any (v l g t r a b o : Int) (m : Bool) (k n : Int) (w : World) :
    Calls Try.prog 27 #[.agg #[.int .i64 v, .int .i64 l, .int .i64 g, .int .i64 t, .int .i64 r, .int .i64 a, .int .i64 b, .int .i64 o, .bool m], .int .i64 k, .int .i64 n] w fun e w' => e = .returned (.tuple #[.agg #[.int .i64 (prP ⟨v, l, g, t, r, a, b, o, m⟩ k n).a0, .int .i64 (prP ⟨v, l, g, t, r, a, b, o, m⟩ k n).a1, .int .i64 (prP ⟨v, l, g, t, r, a, b, o, m⟩ k n).a2, .int .i64 (prP ⟨v, l, g, t, r, a, b, o, m⟩ k n).a3, .int .i64 (prP ⟨v, l, g, t, r, a, b, o, m⟩ k n).a4, .int .i64 (prP ⟨v, l, g, t, r, a, b, o, m⟩ k n).a5, .int .i64 (prP ⟨v, l, g, t, r, a, b, o, m⟩ k n).a6, .int .i64 (prP ⟨v, l, g, t, r, a, b, o, m⟩ k n).a7, .bool (prP ⟨v, l, g, t, r, a, b, o, m⟩ k n).a8], .bool (prB ⟨v, l, g, t, r, a, b, o, m⟩ k n)]) ∧ Below w.heap.size w w' := by
  cases hk : apOk ⟨v, l, g, t, r, a, b, o, m⟩
  · have e : prB ⟨v, l, g, t, r, a, b, o, m⟩ k n = false := by simp [prB, hk]
    rw [prP_no e, e]
    exact implPress_not v l g t r a b o m k n w hk
  by_cases hn : ¬ (1 ≤ k ∧ k ≤ 7)
  · have e : prB ⟨v, l, g, t, r, a, b, o, m⟩ k n = false := by simp [prB, hk, show ¬ k = 1 by omega, show ¬ k = 2 by omega, show ¬ k = 3 by omega, show ¬ k = 4 by omega, show ¬ k = 5 by omega, show ¬ k = 6 by omega, show ¬ k = 7 by omega]
    rw [prP_no e, e]
    exact implPress_none v l g t r a b o m k n w hn
  have hn := Classical.not_not.1 hn
  rcases (by omega : k = 1 ∨ k = 2 ∨ k = 3 ∨ k = 4 ∨ k = 5 ∨ k = 6 ∨ k = 7) with rfl | rfl | rfl | rfl | rfl | rfl | rfl
  · have e : prB ⟨v, l, g, t, r, a, b, o, m⟩ 1 n = true := by simp [prB, hk]
    rw [prP_yes e, e]
    simp only [prY, holdP]
    exact implPress_1 _ _ _ _ _ _ _ _ _ n _ _ _ _ _ _ _ _ _ _ w hk (fun W => pressHold_yes v l g t r a b o m n W )
  · cases hl : leadB g t r
    · have e : prB ⟨v, l, g, t, r, a, b, o, m⟩ 2 n = false := by simp [prB, hk, hl]
      rw [prP_no e, e]
      exact implPress_2 _ _ _ _ _ _ _ _ _ n _ _ _ _ _ _ _ _ _ _ w hk (fun W => pressClimb_no v l g t r a b o m n W hl)
    · have e : prB ⟨v, l, g, t, r, a, b, o, m⟩ 2 n = true := by simp [prB, hk, hl]
      rw [prP_yes e, e]
      simp only [prY, holdP]
      exact implPress_2 _ _ _ _ _ _ _ _ _ n _ _ _ _ _ _ _ _ _ _ w hk (fun W => pressClimb_yes v l g t r a b o m n W hl)
  · cases hi : inB n 0 60000
    · have e : prB ⟨v, l, g, t, r, a, b, o, m⟩ 3 n = false := by simp [prB, hk, hi]
      rw [prP_no e, e]
      exact implPress_3 _ _ _ _ _ _ _ _ _ n _ _ _ _ _ _ _ _ _ _ w hk (fun W => pressTarget_out v l g t r a b o m n W hi)
    by_cases h2 : v = 2
    · subst h2
      cases hl : leadB g n r
      · have e : prB ⟨2, l, g, t, r, a, b, o, m⟩ 3 n = true := by simp [prB, hk, hi]
        rw [prP_yes e, e]
        simp only [prY, holdP]
        simp [hl]
        exact implPress_3 _ _ _ _ _ _ _ _ _ n _ _ _ _ _ _ _ _ _ _ w hk (fun W => pressTarget_h2 l g t r a b o m n W hi hl)
      · have e : prB ⟨2, l, g, t, r, a, b, o, m⟩ 3 n = true := by simp [prB, hk, hi]
        rw [prP_yes e, e]
        simp only [prY, holdP]
        simp [hl]
        exact implPress_3 _ _ _ _ _ _ _ _ _ n _ _ _ _ _ _ _ _ _ _ w hk (fun W => pressTarget_v2 l g t r a b o m n W hi hl)
    by_cases h3 : v = 3
    · subst h3
      cases hl : leadB g n r
      · have e : prB ⟨3, l, g, t, r, a, b, o, m⟩ 3 n = true := by simp [prB, hk, hi]
        rw [prP_yes e, e]
        simp only [prY, holdP]
        simp [hl]
        exact implPress_3 _ _ _ _ _ _ _ _ _ n _ _ _ _ _ _ _ _ _ _ w hk (fun W => pressTarget_h3 l g t r a b o m n W hi hl)
      · have e : prB ⟨3, l, g, t, r, a, b, o, m⟩ 3 n = true := by simp [prB, hk, hi]
        rw [prP_yes e, e]
        simp only [prY, holdP]
        simp [hl]
        exact implPress_3 _ _ _ _ _ _ _ _ _ n _ _ _ _ _ _ _ _ _ _ w hk (fun W => pressTarget_v3 l g t r a b o m n W hi hl)
    have e : prB ⟨v, l, g, t, r, a, b, o, m⟩ 3 n = true := by simp [prB, hk, hi]
    rw [prP_yes e, e]
    simp only [prY, holdP]
    simp [h2, h3]
    exact implPress_3 _ _ _ _ _ _ _ _ _ n _ _ _ _ _ _ _ _ _ _ w hk (fun W => pressTarget_plain v l g t r a b o m n W hi h2 h3)
  · cases hi : inB n 0 359
    · have e : prB ⟨v, l, g, t, r, a, b, o, m⟩ 4 n = false := by simp [prB, hk, hi]
      rw [prP_no e, e]
      exact implPress_4 _ _ _ _ _ _ _ _ _ n _ _ _ _ _ _ _ _ _ _ w hk (fun W => pressHeading_out v l g t r a b o m n W hi)
    · have e : prB ⟨v, l, g, t, r, a, b, o, m⟩ 4 n = true := by simp [prB, hk, hi]
      rw [prP_yes e, e]
      simp only [prY, holdP]
      exact implPress_4 _ _ _ _ _ _ _ _ _ n _ _ _ _ _ _ _ _ _ _ w hk (fun W => pressHeading_yes v l g t r a b o m n W hi)
  · by_cases h3 : l = 3
    · subst h3
      have e : prB ⟨v, 3, g, t, r, a, b, o, m⟩ 5 n = false := by simp [prB, hk]
      rw [prP_no e, e]
      exact implPress_5 _ _ _ _ _ _ _ _ _ n _ _ _ _ _ _ _ _ _ _ w hk (fun W => pressArm_l3 v g t r a b o m n W )
    by_cases h2 : l = 2
    · subst h2
      have e : prB ⟨v, 2, g, t, r, a, b, o, m⟩ 5 n = false := by simp [prB, hk]
      rw [prP_no e, e]
      exact implPress_5 _ _ _ _ _ _ _ _ _ n _ _ _ _ _ _ _ _ _ _ w hk (fun W => pressArm_l2 v g t r a b o m n W )
    have e : prB ⟨v, l, g, t, r, a, b, o, m⟩ 5 n = true := by simp [prB, hk, h2, h3]
    rw [prP_yes e, e]
    simp only [prY, holdP]
    exact implPress_5 _ _ _ _ _ _ _ _ _ n _ _ _ _ _ _ _ _ _ _ w hk (fun W => pressArm_yes v l g t r a b o m n W h3 h2)
  · have e : prB ⟨v, l, g, t, r, a, b, o, m⟩ 6 n = true := by simp [prB, hk]
    rw [prP_yes e, e]
    simp only [prY, holdP]
    exact implPress_6 _ _ _ _ _ _ _ _ _ n _ _ _ _ _ _ _ _ _ _ w hk (fun W => pressOff_yes v l g t r a b o m n W )
  · cases hi : inB n (-100) 100
    · have e : prB ⟨v, l, g, t, r, a, b, o, m⟩ 7 n = false := by simp [prB, hk, hi]
      rw [prP_no e, e]
      exact implPress_7 _ _ _ _ _ _ _ _ _ n _ _ _ _ _ _ _ _ _ _ w hk (fun W => pressRate_out v l g t r a b o m n W hi)
    by_cases h1 : v = 1
    · subst h1
      have e : prB ⟨1, l, g, t, r, a, b, o, m⟩ 7 n = false := by simp [prB, hk, hi]
      rw [prP_no e, e]
      exact implPress_7 _ _ _ _ _ _ _ _ _ n _ _ _ _ _ _ _ _ _ _ w hk (fun W => pressRate_v1 l g t r a b o m n W hi)
    by_cases h3 : v = 3
    · subst h3
      have e : prB ⟨3, l, g, t, r, a, b, o, m⟩ 7 n = false := by simp [prB, hk, hi]
      rw [prP_no e, e]
      exact implPress_7 _ _ _ _ _ _ _ _ _ n _ _ _ _ _ _ _ _ _ _ w hk (fun W => pressRate_v3 l g t r a b o m n W hi)
    have e : prB ⟨v, l, g, t, r, a, b, o, m⟩ 7 n = true := by simp [prB, hk, hi, h1, h3]
    rw [prP_yes e, e]
    simp only [prY, holdP]
    exact implPress_7 _ _ _ _ _ _ _ _ _ n _ _ _ _ _ _ _ _ _ _ w hk (fun W => pressRate_yes v l g t r a b o m n W hi h1 h3)

end Go.Proofs.Ytfahhjgpgccdhad
