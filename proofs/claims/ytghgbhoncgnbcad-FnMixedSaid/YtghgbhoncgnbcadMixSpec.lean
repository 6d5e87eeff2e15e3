/-
  What Mix answers in the model: the plain list, number and flag at every mixer, pitch, roll and limits; the list owns its memory; nothing that was there is written.
-/
import Derived.Test.YtghgbhoncgnbcadMiTo
import Derived.Test.YtghgbhoncgnbcadLimIs
import Derived.Test.YtghgbhoncgnbcadLoopAt
import Derived.Deep.Cut
namespace Go.Proofs.Ytghgbhoncgnbcad
open Go.RowKit

theorem miB_no {xs ys : List Int} {p r a b s : Int} (h : ¬ xs.length ≤ 12 ∨ ¬ ys.length = xs.length ∨ allB xs (-100) 100 = false ∨ allB ys (-100) 100 = false ∨ liB a b s = false ∨ inB p (-10000) 10000 = false ∨ inB r (-10000) 10000 = false) : miB xs ys p r a b s = false := by
  rcases h with h | h | h | h | h | h | h <;> simp [miB, h]
theorem miB_yes {xs ys : List Int} {p r a b s : Int} (h1 : xs.length ≤ 12) (h2 : ys.length = xs.length) (h3 : allB xs (-100) 100 = true) (h4 : allB ys (-100) 100 = true) (h5 : liB a b s = true) (h6 : inB p (-10000) 10000 = true) (h7 : inB r (-10000) 10000 = true) : miB xs ys p r a b s = true := by
  unfold miB; rw [h3, h4, h5, h6, h7]; simp [h1, h2]
theorem mi_no {xs ys : List Int} {p r a b s : Int} (h : miB xs ys p r a b s = false) : miL xs ys p r a b s = [] ∧ miC xs ys p r a b s = 0 := by simp [miL, miC, h]
theorem mi_yes {xs ys : List Int} {p r a b s : Int} (h : miB xs ys p r a b s = true) : miL xs ys p r a b s = miTo xs ys p r a b xs.length ∧ miC xs ys p r a b s = miCn xs ys p r a b xs.length := by simp [miL, miC, h]
theorem tdiv100 {x : Int} (h0 : -2000000 ≤ x) (h1 : x ≤ 2000000) : -2000000 ≤ x.tdiv 100 ∧ x.tdiv 100 ≤ 2000000 := by
  rcases Int.le_total 0 x with h | h
  · rw [Int.tdiv_eq_ediv_of_nonneg h]; omega
  · have e : x = -(-x) := by omega
    rw [e, Int.neg_tdiv, Int.tdiv_eq_ediv_of_nonneg (by omega)]; omega
theorem ownI_made0 {w w1 : World} {G : Nat} (h : w.heap.size ≤ w1.heap.size) (hG : w1.heap.size = G) : OwnI (w1.alloc (Obj.cells #[] 3)) w.heap.size (.slice (some ⟨G, 0, none⟩) 0 0) [] := by
  subst hG; exact ownI_none h
theorem miCn_same {xs ys : List Int} {p r a b : Int} {n : Nat} (h : miX xs ys p r n = miY xs ys p r a b n) : miCn xs ys p r a b (n + 1) = miCn xs ys p r a b n := by
  show miCn xs ys p r a b n + (if miX xs ys p r n = miY xs ys p r a b n then 0 else 1) = _
  rw [if_pos h]; omega
theorem miCn_more {xs ys : List Int} {p r a b : Int} {n : Nat} (h : ¬ miX xs ys p r n = miY xs ys p r a b n) : miCn xs ys p r a b (n + 1) = miCn xs ys p r a b n + 1 := by
  show miCn xs ys p r a b n + (if miX xs ys p r n = miY xs ys p r a b n then 0 else 1) = _
  rw [if_neg h]
theorem miL_len (xs ys : List Int) (p r a b s : Int) : (miL xs ys p r a b s).length ≤ 12 := by
  cases h : miB xs ys p r a b s with
  | false => simp [miL, h]
  | true => rw [(mi_yes h).1, miTo_len]; exact (miFit h).n
theorem ret_mix {v : Value} {c d : Int} {p q : Bool} (h1 : c = d) (h2 : p = q) : Ending.returned (.tuple #[v, .int .i64 c, .bool p]) = .returned (.tuple #[v, .int .i64 d, .bool q]) := by rw [h1, h2]

end Go.Proofs.Ytghgbhoncgnbcad
