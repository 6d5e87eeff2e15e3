/-
  An array of nine values, told by its values. No condition.
-/
import Derived.Test.YtfahhjgpgccdhasBase
namespace Go.Proofs.Ytfahhjgpgccdhas

theorem arr9 (cs : Array Value) (h : cs.size = 9) {c0 c1 c2 c3 c4 c5 c6 c7 c8 : Value} (e0 : cs[0]? = some c0) (e1 : cs[1]? = some c1) (e2 : cs[2]? = some c2) (e3 : cs[3]? = some c3) (e4 : cs[4]? = some c4) (e5 : cs[5]? = some c5) (e6 : cs[6]? = some c6) (e7 : cs[7]? = some c7) (e8 : cs[8]? = some c8) : cs = #[c0, c1, c2, c3, c4, c5, c6, c7, c8] := by
  apply Array.ext_getElem?
  intro i
  by_cases hi : i < 9
  · rcases (by omega : i = 0 ∨ i = 1 ∨ i = 2 ∨ i = 3 ∨ i = 4 ∨ i = 5 ∨ i = 6 ∨ i = 7 ∨ i = 8) with rfl | rfl | rfl | rfl | rfl | rfl | rfl | rfl | rfl
    · rw [e0]; rfl
    · rw [e1]; rfl
    · rw [e2]; rfl
    · rw [e3]; rfl
    · rw [e4]; rfl
    · rw [e5]; rfl
    · rw [e6]; rfl
    · rw [e7]; rfl
    · rw [e8]; rfl
  · rw [Array.getElem?_eq_none (by omega), Array.getElem?_eq_none (by simp; omega)]

end Go.Proofs.Ytfahhjgpgccdhas
