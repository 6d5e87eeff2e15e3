/-
  What the program's keys answer, one by one. At every pilot and number; nothing that was there is written.
-/
import Derived.Test.YtfahhjgpgccdhadApImpl
namespace Go.Proofs.Ytfahhjgpgccdhad
open Go.RowKit

set_option maxRecDepth 20000 in
set_option maxHeartbeats 3000000 in
theorem pressHold_yes (v l g t r a b o : Int) (m : Bool) (n : Int) (w : World) :
    Calls Try.prog 59 #[.agg #[.int .i64 v, .int .i64 l, .int .i64 g, .int .i64 t, .int .i64 r, .int .i64 a, .int .i64 b, .int .i64 o, .bool m], .int .i64 n] w fun e w' => e = .returned (.tuple #[.agg #[.int .i64 1, .int .i64 l, .int .i64 g, .int .i64 g, .int .i64 0, .int .i64 a, .int .i64 b, .int .i64 o, .bool m], .bool true]) ∧ Below w.heap.size w w' := by
  go_enter Try.func59, Try.ntmps59
  go_wp2_with (go_at_call 78; refine (leveled_any _ _ _ _ _ _ _ _ _ _).mono ?_; rintro e w1 ⟨rfl, hw⟩; subst w1)
  refine bodyPost_ret (v := .tuple #[.agg #[.int .i64 1, .int .i64 l, .int .i64 g, .int .i64 g, .int .i64 0, .int .i64 a, .int .i64 b, .int .i64 o, .bool m], .bool true]) (by simp [results, Try.results59, go_sem]) rfl ⟨rfl, ?_⟩
  repeat (first | exact Below.refl _ _ | refine Below.setCell ?_ (by simp; try omega) _ | refine Below.alloc ?_ (by simp; try omega) _)
set_option maxRecDepth 20000 in
set_option maxHeartbeats 3000000 in
theorem pressClimb_no (v l g t r a b o : Int) (m : Bool) (n : Int) (w : World) (hl : leadB g t r = false) :
    Calls Try.prog 60 #[.agg #[.int .i64 v, .int .i64 l, .int .i64 g, .int .i64 t, .int .i64 r, .int .i64 a, .int .i64 b, .int .i64 o, .bool m], .int .i64 n] w fun e w' => e = .returned (.tuple #[.agg #[.int .i64 v, .int .i64 l, .int .i64 g, .int .i64 t, .int .i64 r, .int .i64 a, .int .i64 b, .int .i64 o, .bool m], .bool false]) ∧ Below w.heap.size w w' := by
  go_enter Try.func60, Try.ntmps60
  go_wp2_with (go_at_call 79; refine (leads_is _ _ _ _ _ _ _ _ _ _ hl).mono ?_; rintro e w1 ⟨rfl, hw⟩; subst w1)
  refine bodyPost_ret (v := .tuple #[.agg #[.int .i64 v, .int .i64 l, .int .i64 g, .int .i64 t, .int .i64 r, .int .i64 a, .int .i64 b, .int .i64 o, .bool m], .bool false]) (by simp [results, Try.results60, go_sem]) rfl ⟨rfl, ?_⟩
  repeat (first | exact Below.refl _ _ | refine Below.setCell ?_ (by simp; try omega) _ | refine Below.alloc ?_ (by simp; try omega) _)
set_option maxRecDepth 20000 in
set_option maxHeartbeats 3000000 in
theorem pressClimb_yes (v l g t r a b o : Int) (m : Bool) (n : Int) (w : World) (hl : leadB g t r = true) :
    Calls Try.prog 60 #[.agg #[.int .i64 v, .int .i64 l, .int .i64 g, .int .i64 t, .int .i64 r, .int .i64 a, .int .i64 b, .int .i64 o, .bool m], .int .i64 n] w fun e w' => e = .returned (.tuple #[.agg #[.int .i64 2, .int .i64 l, .int .i64 g, .int .i64 t, .int .i64 r, .int .i64 a, .int .i64 b, .int .i64 o, .bool m], .bool true]) ∧ Below w.heap.size w w' := by
  go_enter Try.func60, Try.ntmps60
  go_wp2_with (go_at_call 79; refine (leads_is _ _ _ _ _ _ _ _ _ _ hl).mono ?_; rintro e w1 ⟨rfl, hw⟩; subst w1)
  refine bodyPost_ret (v := .tuple #[.agg #[.int .i64 2, .int .i64 l, .int .i64 g, .int .i64 t, .int .i64 r, .int .i64 a, .int .i64 b, .int .i64 o, .bool m], .bool true]) (by simp [results, Try.results60, go_sem]) rfl ⟨rfl, ?_⟩
  repeat (first | exact Below.refl _ _ | refine Below.setCell ?_ (by simp; try omega) _ | refine Below.alloc ?_ (by simp; try omega) _)
set_option maxRecDepth 20000 in
set_option maxHeartbeats 3000000 in
theorem pressRate_out (v l g t r a b o : Int) (m : Bool) (n : Int) (w : World) (hi : inB n (-100) 100 = false) :
    Calls Try.prog 65 #[.agg #[.int .i64 v, .int .i64 l, .int .i64 g, .int .i64 t, .int .i64 r, .int .i64 a, .int .i64 b, .int .i64 o, .bool m], .int .i64 n] w fun e w' => e = .returned (.tuple #[.agg #[.int .i64 v, .int .i64 l, .int .i64 g, .int .i64 t, .int .i64 r, .int .i64 a, .int .i64 b, .int .i64 o, .bool m], .bool false]) ∧ Below w.heap.size w w' := by
  go_enter Try.func65, Try.ntmps65
  go_wp2_with (go_at_call 33; refine (within_is _ _ _ _ hi).mono ?_; rintro e w' ⟨rfl, hw⟩; subst w')
  refine bodyPost_ret (v := .tuple #[.agg #[.int .i64 v, .int .i64 l, .int .i64 g, .int .i64 t, .int .i64 r, .int .i64 a, .int .i64 b, .int .i64 o, .bool m], .bool false]) (by simp [results, Try.results65, go_sem]) rfl ⟨rfl, ?_⟩
  repeat (first | exact Below.refl _ _ | refine Below.setCell ?_ (by simp; try omega) _ | refine Below.alloc ?_ (by simp; try omega) _)
set_option maxRecDepth 20000 in
set_option maxHeartbeats 3000000 in
theorem pressRate_v1 (l g t r a b o : Int) (m : Bool) (n : Int) (w : World) (hi : inB n (-100) 100 = true) :
    Calls Try.prog 65 #[.agg #[.int .i64 1, .int .i64 l, .int .i64 g, .int .i64 t, .int .i64 r, .int .i64 a, .int .i64 b, .int .i64 o, .bool m], .int .i64 n] w fun e w' => e = .returned (.tuple #[.agg #[.int .i64 1, .int .i64 l, .int .i64 g, .int .i64 t, .int .i64 r, .int .i64 a, .int .i64 b, .int .i64 o, .bool m], .bool false]) ∧ Below w.heap.size w w' := by
  go_enter Try.func65, Try.ntmps65
  go_wp2_with (go_at_call 33; refine (within_is _ _ _ _ hi).mono ?_; rintro e w' ⟨rfl, hw⟩; subst w')
  refine bodyPost_ret (v := .tuple #[.agg #[.int .i64 1, .int .i64 l, .int .i64 g, .int .i64 t, .int .i64 r, .int .i64 a, .int .i64 b, .int .i64 o, .bool m], .bool false]) (by simp [results, Try.results65, go_sem]) rfl ⟨rfl, ?_⟩
  repeat (first | exact Below.refl _ _ | refine Below.setCell ?_ (by simp; try omega) _ | refine Below.alloc ?_ (by simp; try omega) _)
set_option maxRecDepth 20000 in
set_option maxHeartbeats 3000000 in
theorem pressRate_v3 (l g t r a b o : Int) (m : Bool) (n : Int) (w : World) (hi : inB n (-100) 100 = true) :
    Calls Try.prog 65 #[.agg #[.int .i64 3, .int .i64 l, .int .i64 g, .int .i64 t, .int .i64 r, .int .i64 a, .int .i64 b, .int .i64 o, .bool m], .int .i64 n] w fun e w' => e = .returned (.tuple #[.agg #[.int .i64 3, .int .i64 l, .int .i64 g, .int .i64 t, .int .i64 r, .int .i64 a, .int .i64 b, .int .i64 o, .bool m], .bool false]) ∧ Below w.heap.size w w' := by
  go_enter Try.func65, Try.ntmps65
  go_wp2_with (go_at_call 33; refine (within_is _ _ _ _ hi).mono ?_; rintro e w' ⟨rfl, hw⟩; subst w')
  refine bodyPost_ret (v := .tuple #[.agg #[.int .i64 3, .int .i64 l, .int .i64 g, .int .i64 t, .int .i64 r, .int .i64 a, .int .i64 b, .int .i64 o, .bool m], .bool false]) (by simp [results, Try.results65, go_sem]) rfl ⟨rfl, ?_⟩
  repeat (first | exact Below.refl _ _ | refine Below.setCell ?_ (by simp; try omega) _ | refine Below.alloc ?_ (by simp; try omega) _)
set_option maxRecDepth 20000 in
set_option maxHeartbeats 3000000 in
theorem pressRate_yes (v l g t r a b o : Int) (m : Bool) (n : Int) (w : World) (hi : inB n (-100) 100 = true) (h1 : ¬ v = 1) (h3 : ¬ v = 3) :
    Calls Try.prog 65 #[.agg #[.int .i64 v, .int .i64 l, .int .i64 g, .int .i64 t, .int .i64 r, .int .i64 a, .int .i64 b, .int .i64 o, .bool m], .int .i64 n] w fun e w' => e = .returned (.tuple #[.agg #[.int .i64 v, .int .i64 l, .int .i64 g, .int .i64 t, .int .i64 n, .int .i64 a, .int .i64 b, .int .i64 o, .bool m], .bool true]) ∧ Below w.heap.size w w' := by
  have hb0 : (v == 1) = false := by simp [h1]
  have hb1 : (v == 3) = false := by simp [h3]
  go_enter Try.func65, Try.ntmps65
  go_wp2_with (go_at_call 33; refine (within_is _ _ _ _ hi).mono ?_; rintro e w' ⟨rfl, hw⟩; subst w')
  refine bodyPost_ret (v := .tuple #[.agg #[.int .i64 v, .int .i64 l, .int .i64 g, .int .i64 t, .int .i64 n, .int .i64 a, .int .i64 b, .int .i64 o, .bool m], .bool true]) (by simp [results, Try.results65, go_sem]) rfl ⟨rfl, ?_⟩
  repeat (first | exact Below.refl _ _ | refine Below.setCell ?_ (by simp; try omega) _ | refine Below.alloc ?_ (by simp; try omega) _)
set_option maxRecDepth 20000 in
set_option maxHeartbeats 3000000 in
theorem pressHeading_out (v l g t r a b o : Int) (m : Bool) (n : Int) (w : World) (hi : inB n 0 359 = false) :
    Calls Try.prog 62 #[.agg #[.int .i64 v, .int .i64 l, .int .i64 g, .int .i64 t, .int .i64 r, .int .i64 a, .int .i64 b, .int .i64 o, .bool m], .int .i64 n] w fun e w' => e = .returned (.tuple #[.agg #[.int .i64 v, .int .i64 l, .int .i64 g, .int .i64 t, .int .i64 r, .int .i64 a, .int .i64 b, .int .i64 o, .bool m], .bool false]) ∧ Below w.heap.size w w' := by
  go_enter Try.func62, Try.ntmps62
  go_wp2_with (go_at_call 33; refine (within_is _ _ _ _ hi).mono ?_; rintro e w' ⟨rfl, hw⟩; subst w')
  refine bodyPost_ret (v := .tuple #[.agg #[.int .i64 v, .int .i64 l, .int .i64 g, .int .i64 t, .int .i64 r, .int .i64 a, .int .i64 b, .int .i64 o, .bool m], .bool false]) (by simp [results, Try.results62, go_sem]) rfl ⟨rfl, ?_⟩
  repeat (first | exact Below.refl _ _ | refine Below.setCell ?_ (by simp; try omega) _ | refine Below.alloc ?_ (by simp; try omega) _)
set_option maxRecDepth 20000 in
set_option maxHeartbeats 3000000 in
theorem pressHeading_yes (v l g t r a b o : Int) (m : Bool) (n : Int) (w : World) (hi : inB n 0 359 = true) :
    Calls Try.prog 62 #[.agg #[.int .i64 v, .int .i64 l, .int .i64 g, .int .i64 t, .int .i64 r, .int .i64 a, .int .i64 b, .int .i64 o, .bool m], .int .i64 n] w fun e w' => e = .returned (.tuple #[.agg #[.int .i64 v, .int .i64 1, .int .i64 g, .int .i64 t, .int .i64 r, .int .i64 a, .int .i64 n, .int .i64 o, .bool false], .bool true]) ∧ Below w.heap.size w w' := by
  go_enter Try.func62, Try.ntmps62
  go_wp2_with (go_at_call 33; refine (within_is _ _ _ _ hi).mono ?_; rintro e w' ⟨rfl, hw⟩; subst w')
  refine bodyPost_ret (v := .tuple #[.agg #[.int .i64 v, .int .i64 1, .int .i64 g, .int .i64 t, .int .i64 r, .int .i64 a, .int .i64 n, .int .i64 o, .bool false], .bool true]) (by simp [results, Try.results62, go_sem]) rfl ⟨rfl, ?_⟩
  repeat (first | exact Below.refl _ _ | refine Below.setCell ?_ (by simp; try omega) _ | refine Below.alloc ?_ (by simp; try omega) _)
set_option maxRecDepth 20000 in
set_option maxHeartbeats 3000000 in
theorem pressArm_l3 (v g t r a b o : Int) (m : Bool) (n : Int) (w : World) :
    Calls Try.prog 63 #[.agg #[.int .i64 v, .int .i64 3, .int .i64 g, .int .i64 t, .int .i64 r, .int .i64 a, .int .i64 b, .int .i64 o, .bool m], .int .i64 n] w fun e w' => e = .returned (.tuple #[.agg #[.int .i64 v, .int .i64 3, .int .i64 g, .int .i64 t, .int .i64 r, .int .i64 a, .int .i64 b, .int .i64 o, .bool m], .bool false]) ∧ Below w.heap.size w w' := by
  go_enter Try.func63, Try.ntmps63
  go_wp2_with (fail)
  refine bodyPost_ret (v := .tuple #[.agg #[.int .i64 v, .int .i64 3, .int .i64 g, .int .i64 t, .int .i64 r, .int .i64 a, .int .i64 b, .int .i64 o, .bool m], .bool false]) (by simp [results, Try.results63, go_sem]) rfl ⟨rfl, ?_⟩
  repeat (first | exact Below.refl _ _ | refine Below.setCell ?_ (by simp; try omega) _ | refine Below.alloc ?_ (by simp; try omega) _)
set_option maxRecDepth 20000 in
set_option maxHeartbeats 3000000 in
theorem pressArm_l2 (v g t r a b o : Int) (m : Bool) (n : Int) (w : World) :
    Calls Try.prog 63 #[.agg #[.int .i64 v, .int .i64 2, .int .i64 g, .int .i64 t, .int .i64 r, .int .i64 a, .int .i64 b, .int .i64 o, .bool m], .int .i64 n] w fun e w' => e = .returned (.tuple #[.agg #[.int .i64 v, .int .i64 2, .int .i64 g, .int .i64 t, .int .i64 r, .int .i64 a, .int .i64 b, .int .i64 o, .bool m], .bool false]) ∧ Below w.heap.size w w' := by
  go_enter Try.func63, Try.ntmps63
  go_wp2_with (fail)
  refine bodyPost_ret (v := .tuple #[.agg #[.int .i64 v, .int .i64 2, .int .i64 g, .int .i64 t, .int .i64 r, .int .i64 a, .int .i64 b, .int .i64 o, .bool m], .bool false]) (by simp [results, Try.results63, go_sem]) rfl ⟨rfl, ?_⟩
  repeat (first | exact Below.refl _ _ | refine Below.setCell ?_ (by simp; try omega) _ | refine Below.alloc ?_ (by simp; try omega) _)
set_option maxRecDepth 20000 in
set_option maxHeartbeats 3000000 in
theorem pressArm_yes (v l g t r a b o : Int) (m : Bool) (n : Int) (w : World) (h3 : ¬ l = 3) (h2 : ¬ l = 2) :
    Calls Try.prog 63 #[.agg #[.int .i64 v, .int .i64 l, .int .i64 g, .int .i64 t, .int .i64 r, .int .i64 a, .int .i64 b, .int .i64 o, .bool m], .int .i64 n] w fun e w' => e = .returned (.tuple #[.agg #[.int .i64 v, .int .i64 l, .int .i64 g, .int .i64 t, .int .i64 r, .int .i64 a, .int .i64 b, .int .i64 o, .bool true], .bool true]) ∧ Below w.heap.size w w' := by
  have hb0 : (l == 3) = false := by simp [h3]
  have hb1 : (l == 2) = false := by simp [h2]
  go_enter Try.func63, Try.ntmps63
  go_wp2_with (fail)
  refine bodyPost_ret (v := .tuple #[.agg #[.int .i64 v, .int .i64 l, .int .i64 g, .int .i64 t, .int .i64 r, .int .i64 a, .int .i64 b, .int .i64 o, .bool true], .bool true]) (by simp [results, Try.results63, go_sem]) rfl ⟨rfl, ?_⟩
  repeat (first | exact Below.refl _ _ | refine Below.setCell ?_ (by simp; try omega) _ | refine Below.alloc ?_ (by simp; try omega) _)
set_option maxRecDepth 20000 in
set_option maxHeartbeats 3000000 in
theorem pressOff_yes (v l g t r a b o : Int) (m : Bool) (n : Int) (w : World) :
    Calls Try.prog 64 #[.agg #[.int .i64 v, .int .i64 l, .int .i64 g, .int .i64 t, .int .i64 r, .int .i64 a, .int .i64 b, .int .i64 o, .bool m], .int .i64 n] w fun e w' => e = .returned (.tuple #[.agg #[.int .i64 0, .int .i64 0, .int .i64 g, .int .i64 t, .int .i64 0, .int .i64 a, .int .i64 b, .int .i64 o, .bool false], .bool true]) ∧ Below w.heap.size w w' := by
  go_enter Try.func64, Try.ntmps64
  go_wp2_with (fail)
  refine bodyPost_ret (v := .tuple #[.agg #[.int .i64 0, .int .i64 0, .int .i64 g, .int .i64 t, .int .i64 0, .int .i64 a, .int .i64 b, .int .i64 o, .bool false], .bool true]) (by simp [results, Try.results64, go_sem]) rfl ⟨rfl, ?_⟩
  repeat (first | exact Below.refl _ _ | refine Below.setCell ?_ (by simp; try omega) _ | refine Below.alloc ?_ (by simp; try omega) _)
set_option maxRecDepth 20000 in
set_option maxHeartbeats 3000000 in
theorem pressTarget_out (v l g t r a b o : Int) (m : Bool) (n : Int) (w : World) (hi : inB n 0 60000 = false) :
    Calls Try.prog 61 #[.agg #[.int .i64 v, .int .i64 l, .int .i64 g, .int .i64 t, .int .i64 r, .int .i64 a, .int .i64 b, .int .i64 o, .bool m], .int .i64 n] w fun e w' => e = .returned (.tuple #[.agg #[.int .i64 v, .int .i64 l, .int .i64 g, .int .i64 t, .int .i64 r, .int .i64 a, .int .i64 b, .int .i64 o, .bool m], .bool false]) ∧ Below w.heap.size w w' := by
  go_enter Try.func61, Try.ntmps61
  go_wp2_with (go_at_call 33; refine (within_is _ _ _ _ hi).mono ?_; rintro e w' ⟨rfl, hw⟩; subst w')
  refine bodyPost_ret (v := .tuple #[.agg #[.int .i64 v, .int .i64 l, .int .i64 g, .int .i64 t, .int .i64 r, .int .i64 a, .int .i64 b, .int .i64 o, .bool m], .bool false]) (by simp [results, Try.results61, go_sem]) rfl ⟨rfl, ?_⟩
  repeat (first | exact Below.refl _ _ | refine Below.setCell ?_ (by simp; try omega) _ | refine Below.alloc ?_ (by simp; try omega) _)
set_option maxRecDepth 20000 in
set_option maxHeartbeats 3000000 in
theorem pressTarget_plain (v l g t r a b o : Int) (m : Bool) (n : Int) (w : World) (hi : inB n 0 60000 = true) (h2 : ¬ v = 2) (h3 : ¬ v = 3) :
    Calls Try.prog 61 #[.agg #[.int .i64 v, .int .i64 l, .int .i64 g, .int .i64 t, .int .i64 r, .int .i64 a, .int .i64 b, .int .i64 o, .bool m], .int .i64 n] w fun e w' => e = .returned (.tuple #[.agg #[.int .i64 v, .int .i64 l, .int .i64 g, .int .i64 n, .int .i64 r, .int .i64 a, .int .i64 b, .int .i64 o, .bool m], .bool true]) ∧ Below w.heap.size w w' := by
  have hb0 : (v == 2) = false := by simp [h2]
  have hb1 : (v == 3) = false := by simp [h3]
  go_enter Try.func61, Try.ntmps61
  go_wp2_with (go_at_call 33; refine (within_is _ _ _ _ hi).mono ?_; rintro e w' ⟨rfl, hw⟩; subst w')
  refine bodyPost_ret (v := .tuple #[.agg #[.int .i64 v, .int .i64 l, .int .i64 g, .int .i64 n, .int .i64 r, .int .i64 a, .int .i64 b, .int .i64 o, .bool m], .bool true]) (by simp [results, Try.results61, go_sem]) rfl ⟨rfl, ?_⟩
  repeat (first | exact Below.refl _ _ | refine Below.setCell ?_ (by simp; try omega) _ | refine Below.alloc ?_ (by simp; try omega) _)
set_option maxRecDepth 20000 in
set_option maxHeartbeats 3000000 in
theorem pressTarget_v2 (l g t r a b o : Int) (m : Bool) (n : Int) (w : World) (hi : inB n 0 60000 = true) (hl : leadB g n r = true) :
    Calls Try.prog 61 #[.agg #[.int .i64 2, .int .i64 l, .int .i64 g, .int .i64 t, .int .i64 r, .int .i64 a, .int .i64 b, .int .i64 o, .bool m], .int .i64 n] w fun e w' => e = .returned (.tuple #[.agg #[.int .i64 2, .int .i64 l, .int .i64 g, .int .i64 n, .int .i64 r, .int .i64 a, .int .i64 b, .int .i64 o, .bool m], .bool true]) ∧ Below w.heap.size w w' := by
  go_enter Try.func61, Try.ntmps61
  go_wp2_with (first | (go_at_call 33; refine (within_is _ _ _ _ hi).mono ?_; rintro e w' ⟨rfl, hw⟩; subst w') | (go_at_call 79; refine (leads_is _ _ _ _ _ _ _ _ _ _ hl).mono ?_; rintro e w1 ⟨rfl, hw⟩; subst w1))
  refine bodyPost_ret (v := .tuple #[.agg #[.int .i64 2, .int .i64 l, .int .i64 g, .int .i64 n, .int .i64 r, .int .i64 a, .int .i64 b, .int .i64 o, .bool m], .bool true]) (by simp [results, Try.results61, go_sem]) rfl ⟨rfl, ?_⟩
  repeat (first | exact Below.refl _ _ | refine Below.setCell ?_ (by simp; try omega) _ | refine Below.alloc ?_ (by simp; try omega) _)
set_option maxRecDepth 20000 in
set_option maxHeartbeats 3000000 in
theorem pressTarget_h2 (l g t r a b o : Int) (m : Bool) (n : Int) (w : World) (hi : inB n 0 60000 = true) (hl : leadB g n r = false) :
    Calls Try.prog 61 #[.agg #[.int .i64 2, .int .i64 l, .int .i64 g, .int .i64 t, .int .i64 r, .int .i64 a, .int .i64 b, .int .i64 o, .bool m], .int .i64 n] w fun e w' => e = .returned (.tuple #[.agg #[.int .i64 1, .int .i64 l, .int .i64 g, .int .i64 g, .int .i64 0, .int .i64 a, .int .i64 b, .int .i64 o, .bool m], .bool true]) ∧ Below w.heap.size w w' := by
  go_enter Try.func61, Try.ntmps61
  go_wp2_with (first | (go_at_call 33; refine (within_is _ _ _ _ hi).mono ?_; rintro e w' ⟨rfl, hw⟩; subst w') | (go_at_call 79; refine (leads_is _ _ _ _ _ _ _ _ _ _ hl).mono ?_; rintro e w1 ⟨rfl, hw⟩; subst w1) | (go_at_call 78; refine (leveled_any _ _ _ _ _ _ _ _ _ _).mono ?_; rintro e w1 ⟨rfl, hw⟩; subst w1))
  refine bodyPost_ret (v := .tuple #[.agg #[.int .i64 1, .int .i64 l, .int .i64 g, .int .i64 g, .int .i64 0, .int .i64 a, .int .i64 b, .int .i64 o, .bool m], .bool true]) (by simp [results, Try.results61, go_sem]) rfl ⟨rfl, ?_⟩
  repeat (first | exact Below.refl _ _ | refine Below.setCell ?_ (by simp; try omega) _ | refine Below.alloc ?_ (by simp; try omega) _)
set_option maxRecDepth 20000 in
set_option maxHeartbeats 3000000 in
theorem pressTarget_v3 (l g t r a b o : Int) (m : Bool) (n : Int) (w : World) (hi : inB n 0 60000 = true) (hl : leadB g n r = true) :
    Calls Try.prog 61 #[.agg #[.int .i64 3, .int .i64 l, .int .i64 g, .int .i64 t, .int .i64 r, .int .i64 a, .int .i64 b, .int .i64 o, .bool m], .int .i64 n] w fun e w' => e = .returned (.tuple #[.agg #[.int .i64 3, .int .i64 l, .int .i64 g, .int .i64 n, .int .i64 r, .int .i64 a, .int .i64 b, .int .i64 o, .bool m], .bool true]) ∧ Below w.heap.size w w' := by
  go_enter Try.func61, Try.ntmps61
  go_wp2_with (first | (go_at_call 33; refine (within_is _ _ _ _ hi).mono ?_; rintro e w' ⟨rfl, hw⟩; subst w') | (go_at_call 79; refine (leads_is _ _ _ _ _ _ _ _ _ _ hl).mono ?_; rintro e w1 ⟨rfl, hw⟩; subst w1))
  refine bodyPost_ret (v := .tuple #[.agg #[.int .i64 3, .int .i64 l, .int .i64 g, .int .i64 n, .int .i64 r, .int .i64 a, .int .i64 b, .int .i64 o, .bool m], .bool true]) (by simp [results, Try.results61, go_sem]) rfl ⟨rfl, ?_⟩
  repeat (first | exact Below.refl _ _ | refine Below.setCell ?_ (by simp; try omega) _ | refine Below.alloc ?_ (by simp; try omega) _)
set_option maxRecDepth 20000 in
set_option maxHeartbeats 3000000 in
theorem pressTarget_h3 (l g t r a b o : Int) (m : Bool) (n : Int) (w : World) (hi : inB n 0 60000 = true) (hl : leadB g n r = false) :
    Calls Try.prog 61 #[.agg #[.int .i64 3, .int .i64 l, .int .i64 g, .int .i64 t, .int .i64 r, .int .i64 a, .int .i64 b, .int .i64 o, .bool m], .int .i64 n] w fun e w' => e = .returned (.tuple #[.agg #[.int .i64 1, .int .i64 l, .int .i64 g, .int .i64 g, .int .i64 0, .int .i64 a, .int .i64 b, .int .i64 o, .bool m], .bool true]) ∧ Below w.heap.size w w' := by
  go_enter Try.func61, Try.ntmps61
  go_wp2_with (first | (go_at_call 33; refine (within_is _ _ _ _ hi).mono ?_; rintro e w' ⟨rfl, hw⟩; subst w') | (go_at_call 79; refine (leads_is _ _ _ _ _ _ _ _ _ _ hl).mono ?_; rintro e w1 ⟨rfl, hw⟩; subst w1) | (go_at_call 78; refine (leveled_any _ _ _ _ _ _ _ _ _ _).mono ?_; rintro e w1 ⟨rfl, hw⟩; subst w1))
  refine bodyPost_ret (v := .tuple #[.agg #[.int .i64 1, .int .i64 l, .int .i64 g, .int .i64 g, .int .i64 0, .int .i64 a, .int .i64 b, .int .i64 o, .bool m], .bool true]) (by simp [results, Try.results61, go_sem]) rfl ⟨rfl, ?_⟩
  repeat (first | exact Below.refl _ _ | refine Below.setCell ?_ (by simp; try omega) _ | refine Below.alloc ?_ (by simp; try omega) _)
end Go.Proofs.Ytfahhjgpgccdhad
