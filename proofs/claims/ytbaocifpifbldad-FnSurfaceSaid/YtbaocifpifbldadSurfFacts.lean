/-
  What is plain of a surface that a law moves: it stays within its limits and its step, is held by load, and more asked in direct law tells no less; the gain at the first speed is the first one. No program here.
-/
import Derived.Test.YtbaocifpifbldadLwPure
namespace Go.Proofs.Ytbaocifpifbldad
open Go

theorem surf_in {m : Int} {xs ys : List Int} {k r l lo hi st now : Int} (v : Int) (h : lwOk m xs ys k r l lo hi st now = true) :
    (lo ≤ lwTold m xs ys k r v l lo hi st now ∧ lwTold m xs ys k r v l lo hi st now ≤ hi) ∧ (-st ≤ lwTold m xs ys k r v l lo hi st now - now ∧ lwTold m xs ys k r v l lo hi st now - now ≤ st) ∧ (lwCode m xs ys k r v l lo hi st now = 0 ∨ lwCode m xs ys k r v l lo hi st now = 2) := by
  have f := lwFit h
  obtain ⟨e1, e2⟩ := lw_yes v h
  have n0 := f.n0
  have n1 := f.n1
  have s0 := f.li.s0
  rw [e1, e2]
  refine ⟨?_, ?_, by split <;> simp⟩
  · unfold lwT holdI; omega
  · unfold lwT holdI; omega
theorem surf_load {xs ys : List Int} {k r l lo hi st now : Int} (v : Int) (h : lwOk 0 xs ys k r l lo hi st now = true) :
    (250 < l → lwTold 0 xs ys k r v l lo hi st now ≤ now) ∧ (l < -100 → now ≤ lwTold 0 xs ys k r v l lo hi st now) := by
  have f := lwFit h
  have n0 := f.n0
  have n1 := f.n1
  have s0 := f.li.s0
  rw [(lw_yes v h).1]
  generalize lwW 0 xs ys k r v = x
  unfold lwT holdI lwH
  constructor
  · intro hl
    by_cases hx : now < x
    · rw [if_pos ⟨rfl, .inl ⟨hl, hx⟩⟩]; omega
    · rw [if_neg (by omega)]; omega
  · intro hl
    by_cases hx : x < now
    · rw [if_pos ⟨rfl, .inr ⟨hl, hx⟩⟩]; omega
    · rw [if_neg (by omega)]; omega
theorem surf_more {xs ys : List Int} {k r l lo hi st now : Int} (v : Int) (h : lwOk 2 xs ys k r l lo hi st now = true) (h1 : lwOk 2 xs ys (k + 1) r l lo hi st now = true) :
    lwTold 2 xs ys k r v l lo hi st now ≤ lwTold 2 xs ys (k + 1) r v l lo hi st now ∧ (lwCode 2 xs ys k r v l lo hi st now = 0 → lwTold 2 xs ys k r v l lo hi st now = 10 * k) := by
  have e0 : lwW 2 xs ys k r v = 10 * k := by simp [lwW]
  have e1 : lwW 2 xs ys (k + 1) r v = 10 * (k + 1) := by simp [lwW]
  have t : ∀ x, lwH 2 l now x = x := fun x => by unfold lwH; rw [if_neg (fun h => absurd h.1 (by decide))]
  rw [(lw_yes v h).1, (lw_yes v h1).1, (lw_yes v h).2, e0, e1]
  unfold lwT
  rw [t, t]
  refine ⟨by unfold holdI; omega, fun hc => ?_⟩
  split at hc
  · assumption
  · cases hc
theorem gaAt_first {xs ys : List Int} (h : gaB xs ys = true) : gaAt xs ys (nth xs 0) = nth ys 0 := by
  have f := gaFit h
  have hl := gaRise f (xs.length - 1) (by have := f.n0; omega)
  have hx : gaX xs (nth xs 0) = nth xs 0 := by unfold gaX; omega
  have hb := lowAt_between f (gaX_in (nth xs 0) f)
  have hk := lowAt_lt (zs := xs) (x := gaX xs (nth xs 0)) f.n0
  rw [hx] at hb hk
  have hz : lowAt xs (nth xs 0) = 0 := by
    rcases Nat.eq_zero_or_pos (lowAt xs (nth xs 0)) with e | e
    · exact e
    · obtain ⟨j, hj⟩ : ∃ j, lowAt xs (nth xs 0) = j + 1 := ⟨_, (Nat.succ_pred_eq_of_pos e).symm⟩
      rw [hj] at hb hk
      have h1 := gaRise f j (by omega)
      have h2 := f.rise j (by omega)
      omega
  have r := f.rise 0 (by have := f.n0; omega)
  rw [gaAt, if_pos h, hx, gaNum, gaDen, hz, Int.sub_self, Int.mul_zero, Int.add_zero]
  exact Int.mul_ediv_cancel _ (by omega)

end Go.Proofs.Ytbaocifpifbldad
