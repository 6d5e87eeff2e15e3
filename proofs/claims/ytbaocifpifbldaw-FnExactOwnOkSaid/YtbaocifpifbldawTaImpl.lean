/-
  What the small functions of keeping apart answer in the program: plain answers, at every argument; nothing that was there is written.
-/
import Derived.Test.YtbaocifpifbldawSmall
import Derived.Test.YtbaocifpifbldawTaPure
import Derived.Test.YtbaocifpifbldawFrac
import Derived.Test.YtbaocifpifbldawBlks
namespace Go.Proofs.Ytbaocifpifbldaw
open Go.RowKit

theorem taDr {B : Nat} {w w' : World} (h : Below B w w') (n : Nat) : Below B w (w'.drewN n) := h.trans (bel0d' n)


set_option maxRecDepth 20000 in
set_option maxHeartbeats 2000000 in
theorem flierOk_al {b : Bool} (i h c s : Int) (w : World) (hc : avB i h c s = b) :
    Calls Try.prog 58 #[.agg #[.int .i64 i, .int .i64 h, .int .i64 c, .int .i64 s]] w fun e w' => e = .returned (.bool b) ∧ w' = w.alloc (Obj.cells #[.int .i64 i, .int .i64 h, .int .i64 c, .int .i64 s] 91) := by
  subst hc
  rcases four (inB i 1 1000000) (inB h 0 60000) (inB c (-200) 200) (inB s 0 2) with ⟨q1, hv⟩ | ⟨q1, q2, hv⟩ | ⟨q1, q2, q3, hv⟩ | ⟨q1, q2, q3, q4, hv⟩ | ⟨q1, q2, q3, q4, hv⟩
  all_goals
    have HE := hide (show avB i h c s = _ from hv)
    rw [unhide HE]
    clear hv
    go_enter Try.func58, Try.ntmps58
    go_wp2_with ((go_at_call 74; refine (within_is _ _ _ _ (by first | exact q1 | exact q2 | exact q3 | exact q4)).mono ?_; rintro e w' ⟨rfl, hw⟩; subst w'))
    go_ret
    exact ⟨rfl, rfl⟩


set_option maxRecDepth 20000 in
set_option maxHeartbeats 2000000 in
theorem seenOk_al {b : Bool} (i h c s f k : Int) (w : World) (hc : tcB i h c f k s = b) :
    Calls Try.prog 56 #[.agg #[.int .i64 i, .int .i64 h, .int .i64 c, .int .i64 s, .int .i64 f, .int .i64 k]] w fun e w' => e = .returned (.bool b) ∧ w' = (w.alloc (Obj.cells #[.int .i64 i, .int .i64 h, .int .i64 c, .int .i64 s, .int .i64 f, .int .i64 k] 93)).alloc (Obj.cells #[.int .i64 i, .int .i64 h, .int .i64 c, .int .i64 s] 91) := by
  subst hc
  rcases three (avB i h c s) (inB f 0 1000000) (inB k (-1000) 1000) with ⟨q1, hv⟩ | ⟨q1, q2, hv⟩ | ⟨q1, q2, q3, hv⟩ | ⟨q1, q2, q3, hv⟩
  all_goals
    have HE := hide (show tcB i h c f k s = _ from hv)
    rw [unhide HE]
    clear hv
    go_enter Try.func56, Try.ntmps56
    go_wp2_with (first | (go_at_call 58; refine (flierOk_al _ _ _ _ _ (by exact q1)).mono ?_; rintro e w' ⟨rfl, hw⟩; subst w') | (go_at_call 74; refine (within_is _ _ _ _ (by first | exact q2 | exact q3)).mono ?_; rintro e w' ⟨rfl, hw⟩; subst w'))
    go_ret
    exact ⟨rfl, rfl⟩




set_option maxRecDepth 20000 in
set_option maxHeartbeats 2000000 in
theorem watcherOf_al (i h c s near wi : Int) (w : World) :
    Calls Try.prog 57 #[.agg #[.int .i64 i, .int .i64 h, .int .i64 c, .int .i64 s], .int .i64 near, .int .i64 wi] w fun e w' => e = .returned (.agg #[.int .i64 i, .int .i64 h, .int .i64 c, .int .i64 s, .int .i64 near, .int .i64 wi]) ∧ Below w.heap.size w w' := by
  go_enter Try.func57, Try.ntmps57
  go_wp2
  refine bodyPost_ret (v := .agg #[.int .i64 i, .int .i64 h, .int .i64 c, .int .i64 s, .int .i64 near, .int .i64 wi]) (by simp [results, Try.results57, go_sem]) rfl ⟨rfl, ?_⟩
  exact (by repeat (first | exact Below.refl _ _ | refine Below.alloc ?_ (by simp; try omega) _ | refine Below.setCell ?_ (by simp; try omega) _ | refine taDr ?_ _))

set_option maxRecDepth 20000 in
set_option maxHeartbeats 2000000 in
theorem seenOf_al (i h c f k s : Int) (w : World) :
    Calls Try.prog 55 #[.agg #[.int .i64 i, .int .i64 h, .int .i64 c, .int .i64 f, .int .i64 k, .int .i64 s]] w fun e w' => e = .returned (.agg #[.int .i64 i, .int .i64 h, .int .i64 c, .int .i64 s, .int .i64 f, .int .i64 k]) ∧ Below w.heap.size w w' := by
  go_enter Try.func55, Try.ntmps55
  go_wp2
  refine bodyPost_ret (v := .agg #[.int .i64 i, .int .i64 h, .int .i64 c, .int .i64 s, .int .i64 f, .int .i64 k]) (by simp [results, Try.results55, go_sem]) rfl ⟨rfl, ?_⟩
  exact (by repeat (first | exact Below.refl _ _ | refine Below.alloc ?_ (by simp; try omega) _ | refine Below.setCell ?_ (by simp; try omega) _ | refine taDr ?_ _))



end Go.Proofs.Ytbaocifpifbldaw
