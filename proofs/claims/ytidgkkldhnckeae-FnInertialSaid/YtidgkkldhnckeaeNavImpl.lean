/-
  What the program of chapter 11 answers of places, fixes and drifts: the plain answers, at every argument; nothing that was there is written.
-/
import Derived.Test.YtidgkkldhnckeaeNavSpec
import Derived.Test.YtidgkkldhnckeaeBlks
import Derived.Test.YtidgkkldhnckeaeBel
namespace Go.Proofs.Ytidgkkldhnckeae
open Go.RowKit

set_option maxHeartbeats 2000000 in
theorem placeOk_al {c : Bool} (x y : Int) (w : World) (hc : peB x y = c) :
    Calls Try.prog 20 #[.agg #[.int .i64 x, .int .i64 y]] w fun e w' => e = .returned (.bool c) ∧ w' = w.alloc (Obj.cells #[.int .i64 x, .int .i64 y] 25) := by
  subst hc
  rcases two (inB x (-2000) 2000) (inB y (-2000) 2000) with ⟨q1, hv⟩ | ⟨q1, q2, hv⟩ | ⟨q1, q2, hv⟩
  all_goals
    have HE := hide (show peB x y = _ from hv)
    rw [unhide HE]
    clear hv
    go_enter Try.func20, Try.ntmps20
    go_wp2_with (go_at_call 27; refine (within_is _ _ _ _ (by first | exact q1 | exact q2)).mono ?_; rintro e w' ⟨rfl, hw⟩; subst w')
    go_ret
    exact ⟨rfl, rfl⟩

set_option maxHeartbeats 2000000 in
theorem fixOk_al {c : Bool} (x y f : Int) (w : World) (hc : fxB x y f = c) :
    Calls Try.prog 21 #[.agg #[.int .i64 x, .int .i64 y, .int .i64 f]] w fun e w' => e = .returned (.bool c) ∧ w' = w.alloc (Obj.cells #[.int .i64 x, .int .i64 y, .int .i64 f] 33) := by
  subst hc
  rcases three (inB x (-1000) 1000) (inB y (-1000) 1000) (inB f 0 10000000) with ⟨q1, hv⟩ | ⟨q1, q2, hv⟩ | ⟨q1, q2, q3, hv⟩ | ⟨q1, q2, q3, hv⟩
  all_goals
    have HE := hide (show fxB x y f = _ from hv)
    rw [unhide HE]
    clear hv
    go_enter Try.func21, Try.ntmps21
    go_wp2_with (go_at_call 27; refine (within_is _ _ _ _ (by first | exact q1 | exact q2 | exact q3)).mono ?_; rintro e w' ⟨rfl, hw⟩; subst w')
    go_ret
    exact ⟨rfl, rfl⟩

set_option maxHeartbeats 2000000 in
theorem pushOk_al {c : Bool} (a b : Int) (w : World) (hc : puB a b = c) :
    Calls Try.prog 25 #[.agg #[.int .i64 a, .int .i64 b]] w fun e w' => e = .returned (.bool c) ∧ w' = w.alloc (Obj.cells #[.int .i64 a, .int .i64 b] 41) := by
  subst hc
  rcases two (inB a (-1000) 1000) (inB b (-1000) 1000) with ⟨q1, hv⟩ | ⟨q1, q2, hv⟩ | ⟨q1, q2, hv⟩
  all_goals
    have HE := hide (show puB a b = _ from hv)
    rw [unhide HE]
    clear hv
    go_enter Try.func25, Try.ntmps25
    go_wp2_with (go_at_call 27; refine (within_is _ _ _ _ (by first | exact q1 | exact q2)).mono ?_; rintro e w' ⟨rfl, hw⟩; subst w')
    go_ret
    exact ⟨rfl, rfl⟩

set_option maxHeartbeats 2000000 in
theorem squareApart_any (ax ay bx by_ : Int) (w : World) (h1 : -4000 ≤ ax - bx) (h2 : ax - bx ≤ 4000) (h3 : -4000 ≤ ay - by_) (h4 : ay - by_ ≤ 4000) :
    Calls Try.prog 29 #[.agg #[.int .i64 ax, .int .i64 ay], .agg #[.int .i64 bx, .int .i64 by_]] w fun e w' => e = .returned (.int .i64 ((ax - bx) * (ax - bx) + (ay - by_) * (ay - by_))) ∧ Below w.heap.size w w' := by
  have s1 := sqBd (s := ax - bx) (A := 4000) (by omega) (by omega)
  have s2 := sqBd (s := ay - by_) (A := 4000) (by omega) (by omega)
  go_enter Try.func29, Try.ntmps29
  go_wp2
  go_quiet (fail)
  go_wp2
  go_ret
  exact ⟨rfl, (by repeat (first | exact Below.refl _ _ | refine Below.alloc ?_ (by simp; try omega) _ | refine navDr ?_ _))⟩
set_option maxHeartbeats 2000000 in
theorem missedAt_any (px py fx fy ff : Int) (w : World) (q1 : peB px py = true) (q2 : fxB fx fy ff = true) :
    Calls Try.prog 22 #[.agg #[.int .i64 fx, .int .i64 fy, .int .i64 ff], .agg #[.int .i64 px, .int .i64 py]] w fun e w' => e = .returned (.int .i64 (misV px py fx fy ff)) ∧ Below w.heap.size w w' := by
  have f1 := peB_facts q1
  have f2 := fxB_facts q2
  have s1 := sqBd (s := px - fx) (A := 3000) (by omega) (by omega)
  have s2 := sqBd (s := py - fy) (A := 3000) (by omega) (by omega)
  go_enter Try.func22, Try.ntmps22
  go_wp2_with fail
  obtain ⟨W, hW⟩ : ∃ W, W = (w.alloc (Obj.cells #[.int .i64 fx, .int .i64 fy, .int .i64 ff] 33)).alloc (Obj.cells #[.int .i64 px, .int .i64 py] 25) := ⟨_, rfl⟩
  rw [← hW]
  have KF : Hid (Blk W w.heap.size [.int .i64 fx, .int .i64 fy, .int .i64 ff]) := hide (by rw [hW]; exact blkAt2_0)
  have KP : Hid (Blk W (w.heap.size + 1) [.int .i64 px, .int .i64 py]) := hide (by rw [hW]; exact blkAt2_1)
  have B0 : Hid (Below w.heap.size w W) := hide (by rw [hW]; exact bel2 _ _)
  clear hW
  obtain ⟨ι, f, _, hb, hall⟩ := belClass W
  have HB := hide hb
  have HA := hide hall
  have c0 : ∀ x, (f x).cell? ⟨w.heap.size, 0, none⟩ = some (.int .i64 fx) := fun x => ((unhide KF).below (hb x)).c 0 (by simp)
  have c1 : ∀ x, (f x).cell? ⟨w.heap.size, 1, none⟩ = some (.int .i64 fy) := fun x => ((unhide KF).below (hb x)).c 1 (by simp)
  have c2 : ∀ x, (f x).cell? ⟨w.heap.size, 2, none⟩ = some (.int .i64 ff) := fun x => ((unhide KF).below (hb x)).c 2 (by simp)
  have d0 : ∀ x, (f x).cell? ⟨w.heap.size + 1, 0, none⟩ = some (.int .i64 px) := fun x => ((unhide KP).below (hb x)).c 0 (by simp)
  have d1 : ∀ x, (f x).cell? ⟨w.heap.size + 1, 1, none⟩ = some (.int .i64 py) := fun x => ((unhide KP).below (hb x)).c 1 (by simp)
  clear hb hall
  refine wp_region_bel (unhide HA) (by kernel_rfl) (by kernel_rfl) ?_
  repeat (go_big_quiet_step ((go_at_call 29; exact belQ (unhide HB) (unhide HA) (squareApart_any _ _ _ _ _ (by omega) (by omega) (by omega) (by omega)))))
  refine wpQuiet_nil ?_
  rintro _ ⟨x, rfl⟩
  clear c0 c1 c2 d0 d1
  go_wp2
  go_ret
  exact ⟨rfl, (unhide B0).trans ((unhide HB x).mono (unhide B0).size)⟩

set_option maxHeartbeats 2000000 in
theorem implMisfit_any (px py fx fy ff : Int) (w : World) :
    Calls Try.prog 8 #[.agg #[.int .i64 px, .int .i64 py], .agg #[.int .i64 fx, .int .i64 fy, .int .i64 ff]] w fun e w' => e = .returned (.int .i64 (misR px py fx fy ff)) ∧ Below w.heap.size w w' := by
  rcases two (peB px py) (fxB fx fy ff) with ⟨q1, hv⟩ | ⟨q1, q2, hv⟩ | ⟨q1, q2, hv⟩
  iterate 2
    · have HE := hide (misR_no hv)
      rw [unhide HE]
      clear hv
      go_enter Try.func8, Try.ntmps8
      go_wp2_with (first | (go_at_call 20; refine (placeOk_al _ _ _ (by exact q1)).mono ?_; rintro e w' ⟨rfl, hw⟩; subst w') | (go_at_call 21; refine (fixOk_al _ _ _ _ (by exact q2)).mono ?_; rintro e w' ⟨rfl, hw⟩; subst w'))
      go_ret
      exact ⟨rfl, (by repeat (first | exact Below.refl _ _ | refine Below.alloc ?_ (by simp; try omega) _ | refine navDr ?_ _))⟩
  have HE := hide (misR_yes hv)
  rw [unhide HE]
  clear hv
  have f1 := peB_facts q1
  have f2 := fxB_facts q2
  have s1 := sqBd (s := px - fx) (A := 3000) (by omega) (by omega)
  have s2 := sqBd (s := py - fy) (A := 3000) (by omega) (by omega)
  go_enter Try.func8, Try.ntmps8
  go_wp2_with (first | (go_at_call 20; refine (placeOk_al _ _ _ (by exact q1)).mono ?_; rintro e w' ⟨rfl, hw⟩; subst w') | (go_at_call 21; refine (fixOk_al _ _ _ _ (by exact q2)).mono ?_; rintro e w' ⟨rfl, hw⟩; subst w') | (go_at_call 22; refine (missedAt_any _ _ _ _ _ _ q1 q2).mono ?_; rintro e w1 ⟨rfl, b1⟩; have BB := hide b1; clear b1))
  go_ret
  exact ⟨rfl, Below.trans (by repeat (first | exact Below.refl _ _ | refine Below.alloc ?_ (by simp; try omega) _ | refine navDr ?_ _)) ((unhide BB).mono (by simp; try omega))⟩

end Go.Proofs.Ytidgkkldhnckeae
