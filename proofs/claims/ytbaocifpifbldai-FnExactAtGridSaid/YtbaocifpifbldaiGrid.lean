/-
  What the functions on a grid answer: the law's size, copy and comparison of a grid, and the test of a grid in the model and in the program: the same test at every grid; nothing that was there is written.
-/
import Derived.Test.YtbaocifpifbldaiMakeS
import Derived.Test.YtbaocifpifbldaiAxis
namespace Go.Proofs.Ytbaocifpifbldai
open Go.RowKit

def gridHead (xs ys : List Int) (n : Nat) : Bool := inB xs.length 2 20 && inB ys.length 2 20 && riseB xs && riseB ys && allB xs (-1000) 1000 && allB ys (-1000) 1000 && ((n : Int) == (ys.length : Int))
theorem gridHead_impl (xs ys : List Int) (n : Nat) : gridHead xs ys n = (axisB xs 1000 && axisB ys 1000 && ((n : Int) == (ys.length : Int))) := by
  unfold gridHead axisB
  generalize inB xs.length 2 20 = a
  generalize inB ys.length 2 20 = b
  generalize riseB xs = c
  generalize riseB ys = d
  generalize allB xs _ _ = e
  generalize allB ys _ _ = f
  generalize ((n : Int) == (ys.length : Int)) = g
  cases a <;> cases b <;> cases c <;> cases d <;> cases e <;> cases f <;> cases g <;> rfl
/-- A list of the grid: as long as X, its numbers within the bounds. -/
def rowB (n : Nat) (zs : List Int) : Bool := decide (zs.length = n) && allB zs (-1000) 1000
def rowsB (n : Nat) (zss : List (List Int)) : Bool := decide (∀ i, i < zss.length → rowB n (nthS zss i) = true)
def gridB (xs ys : List Int) (zss : List (List Int)) : Bool := gridHead xs ys zss.length && rowsB xs.length zss
theorem rowsB_true {n : Nat} {zss : List (List Int)} (h : ∀ j, j < zss.length → rowB n (nthS zss j) = true) : rowsB n zss = true := by
  simp only [rowsB, decide_eq_true_eq]; exact h
theorem rowsB_false {n : Nat} {zss : List (List Int)} {j : Nat} (hj : j < zss.length) (h : rowB n (nthS zss j) = false) : rowsB n zss = false := by
  simp only [rowsB, decide_eq_false_iff_not]; intro k; have := k j hj; rw [h] at this; cases this
theorem grid_head {xs ys : List Int} {zss : List (List Int)} (h : gridHead xs ys zss.length = false) : gridB xs ys zss = false := by simp [gridB, h]
theorem grid_rows {xs ys : List Int} {zss : List (List Int)} (h : gridHead xs ys zss.length = true) : gridB xs ys zss = rowsB xs.length zss := by simp [gridB, h]

set_option maxHeartbeats 2000000 in
theorem specGridOk_head (a1 a2 a3 : Option Addr) (l1 c1 l2 c2 l3 c3 : Nat) (xs ys : List Int) (zss : List (List Int)) (w : World) (h1 : Row w a1 l1 xs) (h2 : Row w a2 l2 ys) (h3 : RowS w a3 l3 zss) (hh : gridHead xs ys l3 = false) :
    Calls Try.prog 10 #[.agg #[.slice a1 l1 c1, .slice a2 l2 c2, .slice a3 l3 c3]] w fun e w' => e = .returned (.bool (gridB xs ys zss)) ∧ Below w.heap.size w w' := by
  have H1 := hide (h1.alloc (.cells #[.slice a1 l1 c1, .slice a2 l2 c2, .slice a3 l3 c3] 28))
  have H2 := hide (h2.alloc (.cells #[.slice a1 l1 c1, .slice a2 l2 c2, .slice a3 l3 c3] 28))
  have H3 := hide (h3.alloc (.cells #[.slice a1 l1 c1, .slice a2 l2 c2, .slice a3 l3 c3] 28))
  have hl1 := h1.len_eq
  have hl2 := h2.len_eq
  have hl3 := h3.len_eq
  subst hl1
  subst hl2
  subst hl3
  clear h1 h2 h3
  have HE := hide (grid_head hh)
  rcases seven (inB xs.length 2 20) (inB ys.length 2 20) (riseB xs) (riseB ys) (allB xs (-1000) 1000) (allB ys (-1000) 1000) ((zss.length : Int) == (ys.length : Int)) with ⟨h, hv⟩ | ⟨h, h', hv⟩ | ⟨h, h', h'', hv⟩ | ⟨h, h', h'', g3, hv⟩ | ⟨h, h', h'', g3, g4, hv⟩ | ⟨h, h', h'', g3, g4, g5, hv⟩ | ⟨h, h', h'', g3, g4, g5, g6, hv⟩ | ⟨h, h', h'', g3, g4, g5, g6, hv⟩
  case inr.inr.inr.inr.inr.inr.inr => exact absurd (hh.symm.trans hv) (by simp)
  all_goals
    clear hv hh
    try (have hz : ((zss.length : Int) != (ys.length : Int)) = true := by rw [bne, g6]; rfl)
    go_enter Try.func10, Try.ntmps10
    go_wp2_with (first
      | (go_at_call 34; refine (l1In_any _ _ _ _).mono ?_; rintro e w' ⟨rfl, hw⟩; subst w')
      | (go_at_call_of 35 (Value.slice a1 xs.length c1); refine (l1Rise_any _ _ _ xs _ (by first | exact unhide H1 | exact (unhide H1).drewN _)).mono ?_; rintro e w' ⟨rfl, n, rfl⟩)
      | (go_at_call_of 35 (Value.slice a2 ys.length c2); refine (l1Rise_any _ _ _ ys _ (by first | exact unhide H2 | exact (unhide H2).drewN _)).mono ?_; rintro e w' ⟨rfl, n, rfl⟩)
      | (go_at_call_of 36 (Value.slice a1 xs.length c1); refine (l1All_any _ _ _ xs _ _ _ (by first | exact unhide H1 | exact (unhide H1).drewN _)).mono ?_; rintro e w' ⟨rfl, n, rfl⟩)
      | (go_at_call_of 36 (Value.slice a2 ys.length c2); refine (l1All_any _ _ _ ys _ _ _ (by first | exact unhide H2 | exact (unhide H2).drewN _)).mono ?_; rintro e w' ⟨rfl, n, rfl⟩))
    go_ret
    exact ⟨ret_bool (unhide HE).symm, by first | exact bel1 _ | exact bel1d _ _⟩

end Go.Proofs.Ytbaocifpifbldai
