/-
  Too low, in plain numbers: nothing ahead of the first tick, and with less margin never sooner. No program here.
-/
import Derived.Test.YtbaocifpifbldafTaPure
namespace Go.Proofs.Ytbaocifpifbldaf
open Go

theorem nthTake (gs : List Int) (k i : Nat) (h : i < k) : nth (gs.take k) i = nth gs i := by simp [nth, h]
theorem alB_facts {gs : List Int} {h c m : Int} (hb : alB gs h c m = true) : alOk gs h c m = true ∧ alF gs h c m < gs.length := by simpa [alB] using hb
/-- Nothing is told of what lies ahead of the first tick. -/
theorem al_sooner {gs : List Int} {h c m : Int} (hl : alF gs h c m < gs.length) : alB (gs.take (alF gs h c m)) h c m = false := by
  have hf := (alF_facts hl).2
  have : alF (gs.take (alF gs h c m)) h c m = (gs.take (alF gs h c m)).length := alF_none (fun j hj => by
    have hj' : j < alF gs h c m := by simp at hj; omega
    rw [nthTake gs _ j hj']
    exact hf j hj')
  simp [alB, this]
/-- With a lesser margin never sooner. -/
theorem al_less {gs : List Int} {h c m m2 : Int} (hm : m2 ≤ m) (hb : alB gs h c m2 = true) (hl : alF gs h c m < gs.length) : (alF gs h c m : Int) ≤ alR gs h c m2 := by
  have h2 := (alB_facts hb).2
  have f1 := (alF_facts h2).1
  have f2 := (alF_facts hl).2
  have : alR gs h c m2 = (alF gs h c m2 : Int) := by simp [alR, hb]
  rw [this]
  by_cases e : alF gs h c m2 < alF gs h c m
  · have := f2 _ e; omega
  · omega
theorem al_lit : alR [0, 50, 90] 100 0 20 = 2 ∧ alB [0, 50, 90] 100 0 20 = true := by decide

end Go.Proofs.Ytbaocifpifbldaf
