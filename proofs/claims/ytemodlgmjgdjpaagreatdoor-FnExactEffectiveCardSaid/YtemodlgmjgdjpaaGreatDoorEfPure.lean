/-
  What Effective answers, as a shape of its own. No program here.
-/
import Derived.Test.YtemodlgmjgdjpaaGreatDoorTsPure
import Derived.Test.YtemodlgmjgdjpaaGreatDoorMAiOk
import Derived.Test.YtemodlgmjgdjpaaGreatDoorMMarkI
namespace Go.Proofs.YtemodlgmjgdjpaaGreatDoor
open Go Go.RowKit

/-- The answer: the places in memory of its own, and whether all was right. -/
def EfP (w : World) (s : Int) (zs ms : List Lc) (e : Ending) (w' : World) : Prop :=
  ∃ a9 c9, e = .returned (.tuple #[.slice a9 (efL s zs ms).length c9, .bool (efB s zs ms)]) ∧ OwnI w' w.heap.size (.slice a9 (efL s zs ms).length c9) (efL s zs ms) ∧ Below w.heap.size w w'
theorem EfP.no {w w' : World} {s : Int} {zs ms : List Lc} {a : Option Addr} {c : Nat} (h : efB s zs ms = false) (hO : OwnI w' w.heap.size (.slice a 0 c) []) (hb : Below w.heap.size w w') : EfP w s zs ms (.returned (.tuple #[.slice a 0 c, .bool false])) w' := by
  have e : efL s zs ms = [] := by rw [efL, if_neg (by rw [h]; simp)]
  exact ⟨a, c, by rw [e, h]; rfl, by rw [e]; exact hO, hb⟩
theorem EfP.yes {w w' : World} {s : Int} {zs ms : List Lc} {a : Option Addr} {c n lb : Nat} (h : efB s zs ms = true) (hl : ms.length = lb) (hn : (efK s zs ms lb).length = n) (hO : OwnI w' w.heap.size (.slice a n c) (efK s zs ms lb)) (hb : Below w.heap.size w w') : EfP w s zs ms (.returned (.tuple #[.slice a n c, .bool true])) w' := by
  have e : efL s zs ms = efK s zs ms lb := by rw [efL, if_pos h, hl]
  exact ⟨a, c, by rw [e, h, hn], by rw [e, hn]; exact hO, hb⟩
theorem ef_ab {s : Int} {zs ms : List Lc} (h : abB s zs = false) : efB s zs ms = false := by simp [efB, h]
theorem ef_many {s : Int} {zs ms : List Lc} (h : 30 < ms.length) : efB s zs ms = false := by
  have : ¬ ms.length ≤ 30 := by omega
  simp [efB, this]
theorem ef_all {s : Int} {zs ms : List Lc} (h1 : abB s zs = true) (h2 : ms.length ≤ 30) (h3 : ∀ i, i < ms.length → ldB (elAt ms i) = true) : efB s zs ms = true := by
  simp only [efB, h1, Bool.true_and, Bool.and_eq_true, decide_eq_true_eq]; exact ⟨h2, h3⟩
theorem efK_in {s : Int} {zs ms : List Lc} {k : Nat} (h : tkC s zs (elAt ms k) (seO (elAt ms k)) = 0) : efK s zs ms (k + 1) = efK s zs ms k ++ [(k : Int)] := by rw [efK, if_pos h]
theorem efK_out {s : Int} {zs ms : List Lc} {k : Nat} (h : ¬ tkC s zs (elAt ms k) (seO (elAt ms k)) = 0) : efK s zs ms (k + 1) = efK s zs ms k := by rw [efK, if_neg h]

end Go.Proofs.YtemodlgmjgdjpaaGreatDoor
