/-
  What the functions on an air answer: the law's copy, size and comparison of an air, and the test of an air in the model and in the program: the same test at every air; nothing that was there is written.
-/
import Derived.Test.YtbaocifpifbldaaMake
namespace Go.Proofs.Ytbaocifpifbldaa
open Go.RowKit

/-- The tests of an air, in the model's order. -/
def airB (b : Int) (ss ts : List Int) : Bool := inB b (-100) 100 && inB ss.length 1 6 && ((ss.length : Int) == (ts.length : Int)) && riseB ts && allB ts 1 1000 && allB ss (-20) 20

theorem airB_impl (b : Int) (ss ts : List Int) : airB b ss ts = (inB b (-100) 100 && inB ts.length 1 6 && ((ss.length : Int) == (ts.length : Int)) && allB ss (-20) 20 && riseB ts && allB ts 1 1000) := by
  unfold airB
  by_cases h : (ss.length : Int) = (ts.length : Int)
  · rw [h]; generalize inB b _ _ = a; generalize inB _ _ _ = c; generalize riseB _ = d; generalize allB ts _ _ = e; generalize allB ss _ _ = f
    cases a <;> cases c <;> cases d <;> cases e <;> cases f <;> simp
  · have h' : ((ss.length : Int) == (ts.length : Int)) = false := by simpa using h
    rw [h']; simp

set_option maxHeartbeats 1000000 in
theorem specAirOk_any (b : Int) (a1 a2 : Option Addr) (l1 c1 l2 c2 : Nat) (xs ys : List Int) (w : World) (h1 : Row w a1 l1 xs) (h2 : Row w a2 l2 ys) :
    Calls Try.prog 20 #[.agg #[.int .i64 b, .slice a1 l1 c1, .slice a2 l2 c2]] w fun e w' => e = .returned (.bool (airB b xs ys)) ∧ Below w.heap.size w w' := by
  have H1 := hide (h1.alloc (.cells #[.int .i64 b, .slice a1 l1 c1, .slice a2 l2 c2] 43))
  have H2 := hide (h2.alloc (.cells #[.int .i64 b, .slice a1 l1 c1, .slice a2 l2 c2] 43))
  have hl1 := h1.len_eq
  have hl2 := h2.len_eq
  subst hl1
  subst hl2
  clear h1 h2
  rcases six (inB b (-100) 100) (inB xs.length 1 6) ((xs.length : Int) == (ys.length : Int)) (riseB ys) (allB ys 1 1000) (allB xs (-20) 20) with ⟨h, hv⟩ | ⟨h, h', hv⟩ | ⟨h, h', h'', hv⟩ | ⟨h, h', h'', h3, hv⟩ | ⟨h, h', h'', h3, h4, hv⟩ | ⟨h, h', h'', h3, h4, h5, hv⟩ | ⟨h, h', h'', h3, h4, h5, hv⟩
  all_goals
    have HE := hide hv
    clear hv
    go_enter Try.func20, Try.ntmps20
    go_wp2_with (first
      | (go_at_call 49; refine (l1In_any _ _ _ _).mono ?_; rintro e w' ⟨rfl, rfl⟩)
      | (go_at_call 50; refine (l1Rise_any _ _ _ ys _ (by first | exact unhide H2 | exact (unhide H2).drewN _)).mono ?_; rintro e w' ⟨rfl, n, rfl⟩)
      | (go_at_call_of 51 (Value.slice a1 xs.length c1); refine (l1All_any _ _ _ xs _ _ _ (by first | exact unhide H1 | exact (unhide H1).drewN _)).mono ?_; rintro e w' ⟨rfl, n, rfl⟩)
      | (go_at_call_of 51 (Value.slice a2 ys.length c2); refine (l1All_any _ _ _ ys _ _ _ (by first | exact unhide H2 | exact (unhide H2).drewN _)).mono ?_; rintro e w' ⟨rfl, n, rfl⟩))
    go_ret
    exact ⟨ret_bool (unhide HE).symm, by first | exact bel1 _ | exact bel1d _ _⟩

set_option maxHeartbeats 1000000 in
theorem implAirOk_any (b : Int) (a1 a2 : Option Addr) (l1 c1 l2 c2 : Nat) (xs ys : List Int) (w : World) (h1 : Row w a1 l1 xs) (h2 : Row w a2 l2 ys) :
    Calls Try.prog 21 #[.agg #[.int .i64 b, .slice a1 l1 c1, .slice a2 l2 c2]] w fun e w' => e = .returned (.bool (airB b xs ys)) ∧ Below w.heap.size w w' := by
  have H1 := hide (h1.alloc (.cells #[.int .i64 b, .slice a1 l1 c1, .slice a2 l2 c2] 43))
  have H2 := hide (h2.alloc (.cells #[.int .i64 b, .slice a1 l1 c1, .slice a2 l2 c2] 43))
  have hl1 := h1.len_eq
  have hl2 := h2.len_eq
  subst hl1
  subst hl2
  clear h1 h2
  rcases six (inB b (-100) 100) (inB ys.length 1 6) ((xs.length : Int) == (ys.length : Int)) (allB xs (-20) 20) (riseB ys) (allB ys 1 1000) with ⟨h, hv⟩ | ⟨h, h', hv⟩ | ⟨h, h', h'', hv⟩ | ⟨h, h', h'', h3, hv⟩ | ⟨h, h', h'', h3, h4, hv⟩ | ⟨h, h', h'', h3, h4, h5, hv⟩ | ⟨h, h', h'', h3, h4, h5, hv⟩
  all_goals
    have HE := hide ((airB_impl b xs ys).trans hv)
    clear hv
    go_enter Try.func21, Try.ntmps21
    go_wp2_with (first
      | (go_at_call 52; refine (within_any _ _ _ _).mono ?_; rintro e w' ⟨rfl, rfl⟩)
      | (go_at_call 53; refine (ascending_any _ _ _ ys _ (by first | exact unhide H2 | exact (unhide H2).drewN _)).mono ?_; rintro e w' ⟨rfl, n, rfl⟩)
      | (go_at_call_of 45 (Value.slice a1 xs.length c1); refine (allWithin_any _ _ _ xs _ _ _ (by first | exact unhide H1 | exact (unhide H1).drewN _)).mono ?_; rintro e w' ⟨rfl, n, rfl⟩)
      | (go_at_call_of 45 (Value.slice a2 ys.length c2); refine (allWithin_any _ _ _ ys _ _ _ (by first | exact unhide H2 | exact (unhide H2).drewN _)).mono ?_; rintro e w' ⟨rfl, n, rfl⟩))
    go_ret
    exact ⟨ret_bool (unhide HE).symm, by first | exact bel1 _ | exact bel1d _ _⟩

end Go.Proofs.Ytbaocifpifbldaa
