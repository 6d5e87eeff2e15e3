/-
  What the model's DrawMonitor answers: a list of at most 600 numbers that it has made, and three small numbers. At every list of at most 1048576 bytes; nothing that was there is written.
-/
import Derived.Test.YtbaocifpifbldafDraw
import Derived.Test.YtbaocifpifbldafAppI
import Derived.Laws.MakeOwn
import Derived.Laws.OwnMore
namespace Go.Proofs.Ytbaocifpifbldaf
open Go.RowKit

theorem OwnI.rebase {w : World} {base base' : Nat} {v : Value} {zs : List Int} (h : OwnI w base v zs) (hb : ∀ g, v.ownBlock = some g → base' ≤ g) : OwnI w base' v zs := by
  obtain ⟨xs, ⟨h1, h2⟩, hx⟩ := h.own
  refine ⟨⟨xs, ⟨h1, ?_⟩, hx⟩, h.fit⟩
  rcases h2 with h2 | ⟨g, cap, cur, rfl, b, c⟩
  · exact .inl h2
  · exact .inr ⟨g, cap, cur, rfl, hb g rfl, c⟩
theorem ownI_zeros {w1 : World} {base n : Nat} {v : Value} (h : w1.ownsRow base 3 1 v n (madeCells #[.int .i64 0] (n * 1)).toList) : OwnI w1 base v (List.replicate n 0) := by
  have hn : ∀ i, nth (List.replicate n (0 : Int)) i = 0 := fun i => by
    unfold nth
    by_cases hi : i < n
    · simp [hi]
    · have : (List.replicate n (0 : Int))[i]? = none := by simp; omega
      simp [this]
  refine ⟨⟨_, by rw [List.length_replicate]; exact h, fun j hj => ?_⟩, fun i => by rw [hn i]; omega⟩
  rw [hn j, toList_madeCells_one]
  have hj' : j < n := by simpa using hj
  simp [hj']

theorem holds_in (i : Nat) (h : i < 8) : 0 ≤ nth [1, 2, 3, 5, 100, 101, 0, 2] i ∧ nth [1, 2, 3, 5, 100, 101, 0, 2] i ≤ 101 := by
  rcases (show i = 0 ∨ i = 1 ∨ i = 2 ∨ i = 3 ∨ i = 4 ∨ i = 5 ∨ i = 6 ∨ i = 7 by omega) with rfl | rfl | rfl | rfl | rfl | rfl | rfl | rfl <;> decide

end Go.Proofs.Ytbaocifpifbldaf
