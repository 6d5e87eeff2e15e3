/-
  What the model of chapter 11 answers of places, fixes and drifts: the plain answers, at every argument; nothing that was there is written.
-/
import Derived.Test.YtidgkkldhnckeaeSmall
import Derived.Test.YtidgkkldhnckeaeNavPure
import Derived.Test.YtidgkkldhnckeaeBlk
import Derived.Test.YtidgkkldhnckeaeMinMax
namespace Go.Proofs.Ytidgkkldhnckeae
open Go.RowKit

theorem navDr {B : Nat} {w w' : World} (h : Below B w w') (n : Nat) : Below B w (w'.drewN n) := h.trans (bel0d' n)
theorem ret_dt {a b c d a' b' c' d' : Int} {p : Bool} (h1 : a = a') (h2 : b = b') (h3 : c = c') (h4 : d = d') : Ending.returned (.tuple #[.agg #[.int .i64 a, .int .i64 b, .int .i64 c, .int .i64 d], .bool p]) = .returned (.tuple #[.agg #[.int .i64 a', .int .i64 b', .int .i64 c', .int .i64 d'], .bool p]) := by rw [h1, h2, h3, h4]

set_option maxHeartbeats 2000000 in
theorem l11Place_al {c : Bool} (x y : Int) (w : World) (hc : peB x y = c) :
    Calls Try.prog 31 #[.agg #[.int .i64 x, .int .i64 y]] w fun e w' => e = .returned (.bool c) ∧ w' = w.alloc (Obj.cells #[.int .i64 x, .int .i64 y] 25) := by
  subst hc
  rcases two (inB x (-2000) 2000) (inB y (-2000) 2000) with ⟨q1, hv⟩ | ⟨q1, q2, hv⟩ | ⟨q1, q2, hv⟩
  all_goals
    have HE := hide (show peB x y = _ from hv)
    rw [unhide HE]
    clear hv
    go_enter Try.func31, Try.ntmps31
    go_wp2_with (go_at_call 41; refine (l1In_is _ _ _ _ (by first | exact q1 | exact q2)).mono ?_; rintro e w' ⟨rfl, hw⟩; subst w')
    go_ret
    exact ⟨rfl, rfl⟩

set_option maxHeartbeats 2000000 in
theorem l11Fix_al {c : Bool} (x y f : Int) (w : World) (hc : fxB x y f = c) :
    Calls Try.prog 32 #[.agg #[.int .i64 x, .int .i64 y, .int .i64 f]] w fun e w' => e = .returned (.bool c) ∧ w' = w.alloc (Obj.cells #[.int .i64 x, .int .i64 y, .int .i64 f] 33) := by
  subst hc
  rcases three (inB x (-1000) 1000) (inB y (-1000) 1000) (inB f 0 10000000) with ⟨q1, hv⟩ | ⟨q1, q2, hv⟩ | ⟨q1, q2, q3, hv⟩ | ⟨q1, q2, q3, hv⟩
  all_goals
    have HE := hide (show fxB x y f = _ from hv)
    rw [unhide HE]
    clear hv
    go_enter Try.func32, Try.ntmps32
    go_wp2_with (go_at_call 41; refine (l1In_is _ _ _ _ (by first | exact q1 | exact q2 | exact q3)).mono ?_; rintro e w' ⟨rfl, hw⟩; subst w')
    go_ret
    exact ⟨rfl, rfl⟩


set_option maxHeartbeats 2000000 in
theorem specMisfit_any (px py fx fy ff : Int) (w : World) :
    Calls Try.prog 17 #[.agg #[.int .i64 px, .int .i64 py], .agg #[.int .i64 fx, .int .i64 fy, .int .i64 ff]] w fun e w' => e = .returned (.int .i64 (misR px py fx fy ff)) ∧ Below w.heap.size w w' := by
  rcases two (peB px py) (fxB fx fy ff) with ⟨q1, hv⟩ | ⟨q1, q2, hv⟩ | ⟨q1, q2, hv⟩
  iterate 2
    · have HE := hide (misR_no hv)
      rw [unhide HE]
      clear hv
      go_enter Try.func17, Try.ntmps17
      go_wp2_with (first | (go_at_call 31; refine (l11Place_al _ _ _ (by exact q1)).mono ?_; rintro e w' ⟨rfl, hw⟩; subst w') | (go_at_call 32; refine (l11Fix_al _ _ _ _ (by exact q2)).mono ?_; rintro e w' ⟨rfl, hw⟩; subst w'))
      go_ret
      exact ⟨rfl, (by repeat (first | exact Below.refl _ _ | refine Below.alloc ?_ (by simp; try omega) _ | refine navDr ?_ _))⟩
  have HE := hide (misR_yes hv)
  rw [unhide HE]
  clear hv
  have f1 := peB_facts q1
  have f2 := fxB_facts q2
  have s1 := sqBd (s := px - fx) (A := 3000) (by omega) (by omega)
  have s2 := sqBd (s := py - fy) (A := 3000) (by omega) (by omega)
  go_enter Try.func17, Try.ntmps17
  go_wp2_with (first | (go_at_call 31; refine (l11Place_al _ _ _ (by exact q1)).mono ?_; rintro e w' ⟨rfl, hw⟩; subst w') | (go_at_call 32; refine (l11Fix_al _ _ _ _ (by exact q2)).mono ?_; rintro e w' ⟨rfl, hw⟩; subst w'))
  go_quiet (fail)
  go_wp2
  go_ret
  exact ⟨rfl, (by repeat (first | exact Below.refl _ _ | refine Below.alloc ?_ (by simp; try omega) _ | refine navDr ?_ _))⟩

end Go.Proofs.Ytidgkkldhnckeae
