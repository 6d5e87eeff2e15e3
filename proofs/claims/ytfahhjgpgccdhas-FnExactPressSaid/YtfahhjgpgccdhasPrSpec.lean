/-
  What the model's Press answers: as the plain function. At every pilot, key and number; nothing that was there is written.
-/
import Derived.Test.YtfahhjgpgccdhasApSpec
import Derived.Test.YtfahhjgpgccdhasPrPure
namespace Go.Proofs.Ytfahhjgpgccdhas
open Go.RowKit

set_option maxRecDepth 20000 in
set_option maxHeartbeats 3000000 in
theorem specPress_not (v l g t r a b o : Int) (m : Bool) (k : Int) (n : Int) (w : World) (hk : apOk ⟨v, l, g, t, r, a, b, o, m⟩ = false) :
    Calls Try.prog 14 #[.agg #[.int .i64 v, .int .i64 l, .int .i64 g, .int .i64 t, .int .i64 r, .int .i64 a, .int .i64 b, .int .i64 o, .bool m], .int .i64 k, .int .i64 n] w fun e w' => e = .returned (.tuple #[.agg #[.int .i64 v, .int .i64 l, .int .i64 g, .int .i64 t, .int .i64 r, .int .i64 a, .int .i64 b, .int .i64 o, .bool m], .bool false]) ∧ Below w.heap.size w w' := by
  go_enter Try.func14, Try.ntmps14
  go_wp2_with (first | (go_at_call 11; refine (specPilotOk_is _ _ _ _ _ _ _ _ _ _ hk).mono ?_; rintro e w1 ⟨rfl, hw⟩; subst w1))
  refine bodyPost_ret (v := .tuple #[.agg #[.int .i64 v, .int .i64 l, .int .i64 g, .int .i64 t, .int .i64 r, .int .i64 a, .int .i64 b, .int .i64 o, .bool m], .bool false]) (by simp [results, Try.results14, go_sem]) rfl ⟨rfl, ?_⟩
  repeat (first | exact Below.refl _ _ | refine Below.setCell ?_ (by simp; try omega) _ | refine Below.alloc ?_ (by simp; try omega) _)
set_option maxRecDepth 20000 in
set_option maxHeartbeats 3000000 in
theorem specPress_none (v l g t r a b o : Int) (m : Bool) (k : Int) (n : Int) (w : World) (hk : apOk ⟨v, l, g, t, r, a, b, o, m⟩ = true) (h1 : ¬ k = 1) (h2 : ¬ k = 2) (h3 : ¬ k = 3) (h4 : ¬ k = 4) (h5 : ¬ k = 5) (h6 : ¬ k = 6) (h7 : ¬ k = 7) :
    Calls Try.prog 14 #[.agg #[.int .i64 v, .int .i64 l, .int .i64 g, .int .i64 t, .int .i64 r, .int .i64 a, .int .i64 b, .int .i64 o, .bool m], .int .i64 k, .int .i64 n] w fun e w' => e = .returned (.tuple #[.agg #[.int .i64 v, .int .i64 l, .int .i64 g, .int .i64 t, .int .i64 r, .int .i64 a, .int .i64 b, .int .i64 o, .bool m], .bool false]) ∧ Below w.heap.size w w' := by
  have hb0 : (k == 1) = false := by simp [h1]
  have hb1 : (k == 2) = false := by simp [h2]
  have hb2 : (k == 3) = false := by simp [h3]
  have hb3 : (k == 4) = false := by simp [h4]
  have hb4 : (k == 5) = false := by simp [h5]
  have hb5 : (k == 6) = false := by simp [h6]
  have hb6 : (k == 7) = false := by simp [h7]
  go_enter Try.func14, Try.ntmps14
  go_wp2_with (first | (go_at_call 11; refine (specPilotOk_is _ _ _ _ _ _ _ _ _ _ hk).mono ?_; rintro e w1 ⟨rfl, hw⟩; subst w1))
  refine bodyPost_ret (v := .tuple #[.agg #[.int .i64 v, .int .i64 l, .int .i64 g, .int .i64 t, .int .i64 r, .int .i64 a, .int .i64 b, .int .i64 o, .bool m], .bool false]) (by simp [results, Try.results14, go_sem]) rfl ⟨rfl, ?_⟩
  repeat (first | exact Below.refl _ _ | refine Below.setCell ?_ (by simp; try omega) _ | refine Below.alloc ?_ (by simp; try omega) _)
set_option maxRecDepth 20000 in
set_option maxHeartbeats 3000000 in
theorem specPress_hold (v l g t r a b o : Int) (m : Bool) (n : Int) (w : World) (hk : apOk ⟨v, l, g, t, r, a, b, o, m⟩ = true) :
    Calls Try.prog 14 #[.agg #[.int .i64 v, .int .i64 l, .int .i64 g, .int .i64 t, .int .i64 r, .int .i64 a, .int .i64 b, .int .i64 o, .bool m], .int .i64 1, .int .i64 n] w fun e w' => e = .returned (.tuple #[.agg #[.int .i64 1, .int .i64 l, .int .i64 g, .int .i64 g, .int .i64 0, .int .i64 a, .int .i64 b, .int .i64 o, .bool m], .bool true]) ∧ Below w.heap.size w w' := by
  go_enter Try.func14, Try.ntmps14
  go_wp2_with (first | (go_at_call 11; refine (specPilotOk_is _ _ _ _ _ _ _ _ _ _ hk).mono ?_; rintro e w1 ⟨rfl, hw⟩; subst w1) | (go_at_call 35; refine (l10Hold_any _ _ _ _ _ _ _ _ _ _).mono ?_; rintro e w1 ⟨rfl, hw⟩; subst w1))
  refine bodyPost_ret (v := .tuple #[.agg #[.int .i64 1, .int .i64 l, .int .i64 g, .int .i64 g, .int .i64 0, .int .i64 a, .int .i64 b, .int .i64 o, .bool m], .bool true]) (by simp [results, Try.results14, go_sem]) rfl ⟨rfl, ?_⟩
  repeat (first | exact Below.refl _ _ | refine Below.setCell ?_ (by simp; try omega) _ | refine Below.alloc ?_ (by simp; try omega) _)
set_option maxRecDepth 20000 in
set_option maxHeartbeats 3000000 in
theorem specPress_cno (v l g t r a b o : Int) (m : Bool) (n : Int) (w : World) (hk : apOk ⟨v, l, g, t, r, a, b, o, m⟩ = true) (hl : leadB g t r = false) :
    Calls Try.prog 14 #[.agg #[.int .i64 v, .int .i64 l, .int .i64 g, .int .i64 t, .int .i64 r, .int .i64 a, .int .i64 b, .int .i64 o, .bool m], .int .i64 2, .int .i64 n] w fun e w' => e = .returned (.tuple #[.agg #[.int .i64 v, .int .i64 l, .int .i64 g, .int .i64 t, .int .i64 r, .int .i64 a, .int .i64 b, .int .i64 o, .bool m], .bool false]) ∧ Below w.heap.size w w' := by
  go_enter Try.func14, Try.ntmps14
  go_wp2_with (first | (go_at_call 11; refine (specPilotOk_is _ _ _ _ _ _ _ _ _ _ hk).mono ?_; rintro e w1 ⟨rfl, hw⟩; subst w1) | (go_at_call 36; refine (l10Leads_is _ _ _ _ _ _ _ _ _ _ hl).mono ?_; rintro e w1 ⟨rfl, hw⟩; subst w1))
  refine bodyPost_ret (v := .tuple #[.agg #[.int .i64 v, .int .i64 l, .int .i64 g, .int .i64 t, .int .i64 r, .int .i64 a, .int .i64 b, .int .i64 o, .bool m], .bool false]) (by simp [results, Try.results14, go_sem]) rfl ⟨rfl, ?_⟩
  repeat (first | exact Below.refl _ _ | refine Below.setCell ?_ (by simp; try omega) _ | refine Below.alloc ?_ (by simp; try omega) _)
set_option maxRecDepth 20000 in
set_option maxHeartbeats 3000000 in
theorem specPress_cyes (v l g t r a b o : Int) (m : Bool) (n : Int) (w : World) (hk : apOk ⟨v, l, g, t, r, a, b, o, m⟩ = true) (hl : leadB g t r = true) :
    Calls Try.prog 14 #[.agg #[.int .i64 v, .int .i64 l, .int .i64 g, .int .i64 t, .int .i64 r, .int .i64 a, .int .i64 b, .int .i64 o, .bool m], .int .i64 2, .int .i64 n] w fun e w' => e = .returned (.tuple #[.agg #[.int .i64 2, .int .i64 l, .int .i64 g, .int .i64 t, .int .i64 r, .int .i64 a, .int .i64 b, .int .i64 o, .bool m], .bool true]) ∧ Below w.heap.size w w' := by
  go_enter Try.func14, Try.ntmps14
  go_wp2_with (first | (go_at_call 11; refine (specPilotOk_is _ _ _ _ _ _ _ _ _ _ hk).mono ?_; rintro e w1 ⟨rfl, hw⟩; subst w1) | (go_at_call 36; refine (l10Leads_is _ _ _ _ _ _ _ _ _ _ hl).mono ?_; rintro e w1 ⟨rfl, hw⟩; subst w1))
  refine bodyPost_ret (v := .tuple #[.agg #[.int .i64 2, .int .i64 l, .int .i64 g, .int .i64 t, .int .i64 r, .int .i64 a, .int .i64 b, .int .i64 o, .bool m], .bool true]) (by simp [results, Try.results14, go_sem]) rfl ⟨rfl, ?_⟩
  repeat (first | exact Below.refl _ _ | refine Below.setCell ?_ (by simp; try omega) _ | refine Below.alloc ?_ (by simp; try omega) _)
set_option maxRecDepth 20000 in
set_option maxHeartbeats 3000000 in
theorem specPress_tout (v l g t r a b o : Int) (m : Bool) (n : Int) (w : World) (hk : apOk ⟨v, l, g, t, r, a, b, o, m⟩ = true) (hi : inB n 0 60000 = false) :
    Calls Try.prog 14 #[.agg #[.int .i64 v, .int .i64 l, .int .i64 g, .int .i64 t, .int .i64 r, .int .i64 a, .int .i64 b, .int .i64 o, .bool m], .int .i64 3, .int .i64 n] w fun e w' => e = .returned (.tuple #[.agg #[.int .i64 v, .int .i64 l, .int .i64 g, .int .i64 t, .int .i64 r, .int .i64 a, .int .i64 b, .int .i64 o, .bool m], .bool false]) ∧ Below w.heap.size w w' := by
  go_enter Try.func14, Try.ntmps14
  go_wp2_with (first | (go_at_call 11; refine (specPilotOk_is _ _ _ _ _ _ _ _ _ _ hk).mono ?_; rintro e w1 ⟨rfl, hw⟩; subst w1) | (go_at_call 31; refine (l1In_is _ _ _ _ hi).mono ?_; rintro e w' ⟨rfl, hw⟩; subst w'))
  refine bodyPost_ret (v := .tuple #[.agg #[.int .i64 v, .int .i64 l, .int .i64 g, .int .i64 t, .int .i64 r, .int .i64 a, .int .i64 b, .int .i64 o, .bool m], .bool false]) (by simp [results, Try.results14, go_sem]) rfl ⟨rfl, ?_⟩
  repeat (first | exact Below.refl _ _ | refine Below.setCell ?_ (by simp; try omega) _ | refine Below.alloc ?_ (by simp; try omega) _)
set_option maxRecDepth 20000 in
set_option maxHeartbeats 3000000 in
theorem specPress_tplain (v l g t r a b o : Int) (m : Bool) (n : Int) (w : World) (hk : apOk ⟨v, l, g, t, r, a, b, o, m⟩ = true) (hi : inB n 0 60000 = true) (h2 : ¬ v = 2) (h3 : ¬ v = 3) :
    Calls Try.prog 14 #[.agg #[.int .i64 v, .int .i64 l, .int .i64 g, .int .i64 t, .int .i64 r, .int .i64 a, .int .i64 b, .int .i64 o, .bool m], .int .i64 3, .int .i64 n] w fun e w' => e = .returned (.tuple #[.agg #[.int .i64 v, .int .i64 l, .int .i64 g, .int .i64 n, .int .i64 r, .int .i64 a, .int .i64 b, .int .i64 o, .bool m], .bool true]) ∧ Below w.heap.size w w' := by
  have hb0 : (v == 2) = false := by simp [h2]
  have hb1 : (v == 3) = false := by simp [h3]
  go_enter Try.func14, Try.ntmps14
  go_wp2_with (first | (go_at_call 11; refine (specPilotOk_is _ _ _ _ _ _ _ _ _ _ hk).mono ?_; rintro e w1 ⟨rfl, hw⟩; subst w1) | (go_at_call 31; refine (l1In_is _ _ _ _ hi).mono ?_; rintro e w' ⟨rfl, hw⟩; subst w'))
  refine bodyPost_ret (v := .tuple #[.agg #[.int .i64 v, .int .i64 l, .int .i64 g, .int .i64 n, .int .i64 r, .int .i64 a, .int .i64 b, .int .i64 o, .bool m], .bool true]) (by simp [results, Try.results14, go_sem]) rfl ⟨rfl, ?_⟩
  repeat (first | exact Below.refl _ _ | refine Below.setCell ?_ (by simp; try omega) _ | refine Below.alloc ?_ (by simp; try omega) _)
set_option maxRecDepth 20000 in
set_option maxHeartbeats 3000000 in
theorem specPress_tv2 (l g t r a b o : Int) (m : Bool) (n : Int) (w : World) (hk : apOk ⟨2, l, g, t, r, a, b, o, m⟩ = true) (hi : inB n 0 60000 = true) (hl : leadB g n r = true) :
    Calls Try.prog 14 #[.agg #[.int .i64 2, .int .i64 l, .int .i64 g, .int .i64 t, .int .i64 r, .int .i64 a, .int .i64 b, .int .i64 o, .bool m], .int .i64 3, .int .i64 n] w fun e w' => e = .returned (.tuple #[.agg #[.int .i64 2, .int .i64 l, .int .i64 g, .int .i64 n, .int .i64 r, .int .i64 a, .int .i64 b, .int .i64 o, .bool m], .bool true]) ∧ Below w.heap.size w w' := by
  go_enter Try.func14, Try.ntmps14
  go_wp2_with (first | (go_at_call 11; refine (specPilotOk_is _ _ _ _ _ _ _ _ _ _ hk).mono ?_; rintro e w1 ⟨rfl, hw⟩; subst w1) | (go_at_call 31; refine (l1In_is _ _ _ _ hi).mono ?_; rintro e w' ⟨rfl, hw⟩; subst w') | (go_at_call 36; refine (l10Leads_is _ _ _ _ _ _ _ _ _ _ hl).mono ?_; rintro e w1 ⟨rfl, hw⟩; subst w1))
  refine bodyPost_ret (v := .tuple #[.agg #[.int .i64 2, .int .i64 l, .int .i64 g, .int .i64 n, .int .i64 r, .int .i64 a, .int .i64 b, .int .i64 o, .bool m], .bool true]) (by simp [results, Try.results14, go_sem]) rfl ⟨rfl, ?_⟩
  repeat (first | exact Below.refl _ _ | refine Below.setCell ?_ (by simp; try omega) _ | refine Below.alloc ?_ (by simp; try omega) _)
set_option maxRecDepth 20000 in
set_option maxHeartbeats 3000000 in
theorem specPress_th2 (l g t r a b o : Int) (m : Bool) (n : Int) (w : World) (hk : apOk ⟨2, l, g, t, r, a, b, o, m⟩ = true) (hi : inB n 0 60000 = true) (hl : leadB g n r = false) :
    Calls Try.prog 14 #[.agg #[.int .i64 2, .int .i64 l, .int .i64 g, .int .i64 t, .int .i64 r, .int .i64 a, .int .i64 b, .int .i64 o, .bool m], .int .i64 3, .int .i64 n] w fun e w' => e = .returned (.tuple #[.agg #[.int .i64 1, .int .i64 l, .int .i64 g, .int .i64 g, .int .i64 0, .int .i64 a, .int .i64 b, .int .i64 o, .bool m], .bool true]) ∧ Below w.heap.size w w' := by
  go_enter Try.func14, Try.ntmps14
  go_wp2_with (first | (go_at_call 11; refine (specPilotOk_is _ _ _ _ _ _ _ _ _ _ hk).mono ?_; rintro e w1 ⟨rfl, hw⟩; subst w1) | (go_at_call 31; refine (l1In_is _ _ _ _ hi).mono ?_; rintro e w' ⟨rfl, hw⟩; subst w') | (go_at_call 36; refine (l10Leads_is _ _ _ _ _ _ _ _ _ _ hl).mono ?_; rintro e w1 ⟨rfl, hw⟩; subst w1) | (go_at_call 35; refine (l10Hold_any _ _ _ _ _ _ _ _ _ _).mono ?_; rintro e w1 ⟨rfl, hw⟩; subst w1))
  refine bodyPost_ret (v := .tuple #[.agg #[.int .i64 1, .int .i64 l, .int .i64 g, .int .i64 g, .int .i64 0, .int .i64 a, .int .i64 b, .int .i64 o, .bool m], .bool true]) (by simp [results, Try.results14, go_sem]) rfl ⟨rfl, ?_⟩
  repeat (first | exact Below.refl _ _ | refine Below.setCell ?_ (by simp; try omega) _ | refine Below.alloc ?_ (by simp; try omega) _)
set_option maxRecDepth 20000 in
set_option maxHeartbeats 3000000 in
theorem specPress_tv3 (l g t r a b o : Int) (m : Bool) (n : Int) (w : World) (hk : apOk ⟨3, l, g, t, r, a, b, o, m⟩ = true) (hi : inB n 0 60000 = true) (hl : leadB g n r = true) :
    Calls Try.prog 14 #[.agg #[.int .i64 3, .int .i64 l, .int .i64 g, .int .i64 t, .int .i64 r, .int .i64 a, .int .i64 b, .int .i64 o, .bool m], .int .i64 3, .int .i64 n] w fun e w' => e = .returned (.tuple #[.agg #[.int .i64 3, .int .i64 l, .int .i64 g, .int .i64 n, .int .i64 r, .int .i64 a, .int .i64 b, .int .i64 o, .bool m], .bool true]) ∧ Below w.heap.size w w' := by
  go_enter Try.func14, Try.ntmps14
  go_wp2_with (first | (go_at_call 11; refine (specPilotOk_is _ _ _ _ _ _ _ _ _ _ hk).mono ?_; rintro e w1 ⟨rfl, hw⟩; subst w1) | (go_at_call 31; refine (l1In_is _ _ _ _ hi).mono ?_; rintro e w' ⟨rfl, hw⟩; subst w') | (go_at_call 36; refine (l10Leads_is _ _ _ _ _ _ _ _ _ _ hl).mono ?_; rintro e w1 ⟨rfl, hw⟩; subst w1))
  refine bodyPost_ret (v := .tuple #[.agg #[.int .i64 3, .int .i64 l, .int .i64 g, .int .i64 n, .int .i64 r, .int .i64 a, .int .i64 b, .int .i64 o, .bool m], .bool true]) (by simp [results, Try.results14, go_sem]) rfl ⟨rfl, ?_⟩
  repeat (first | exact Below.refl _ _ | refine Below.setCell ?_ (by simp; try omega) _ | refine Below.alloc ?_ (by simp; try omega) _)
set_option maxRecDepth 20000 in
set_option maxHeartbeats 3000000 in
theorem specPress_th3 (l g t r a b o : Int) (m : Bool) (n : Int) (w : World) (hk : apOk ⟨3, l, g, t, r, a, b, o, m⟩ = true) (hi : inB n 0 60000 = true) (hl : leadB g n r = false) :
    Calls Try.prog 14 #[.agg #[.int .i64 3, .int .i64 l, .int .i64 g, .int .i64 t, .int .i64 r, .int .i64 a, .int .i64 b, .int .i64 o, .bool m], .int .i64 3, .int .i64 n] w fun e w' => e = .returned (.tuple #[.agg #[.int .i64 1, .int .i64 l, .int .i64 g, .int .i64 g, .int .i64 0, .int .i64 a, .int .i64 b, .int .i64 o, .bool m], .bool true]) ∧ Below w.heap.size w w' := by
  go_enter Try.func14, Try.ntmps14
  go_wp2_with (first | (go_at_call 11; refine (specPilotOk_is _ _ _ _ _ _ _ _ _ _ hk).mono ?_; rintro e w1 ⟨rfl, hw⟩; subst w1) | (go_at_call 31; refine (l1In_is _ _ _ _ hi).mono ?_; rintro e w' ⟨rfl, hw⟩; subst w') | (go_at_call 36; refine (l10Leads_is _ _ _ _ _ _ _ _ _ _ hl).mono ?_; rintro e w1 ⟨rfl, hw⟩; subst w1) | (go_at_call 35; refine (l10Hold_any _ _ _ _ _ _ _ _ _ _).mono ?_; rintro e w1 ⟨rfl, hw⟩; subst w1))
  refine bodyPost_ret (v := .tuple #[.agg #[.int .i64 1, .int .i64 l, .int .i64 g, .int .i64 g, .int .i64 0, .int .i64 a, .int .i64 b, .int .i64 o, .bool m], .bool true]) (by simp [results, Try.results14, go_sem]) rfl ⟨rfl, ?_⟩
  repeat (first | exact Below.refl _ _ | refine Below.setCell ?_ (by simp; try omega) _ | refine Below.alloc ?_ (by simp; try omega) _)
set_option maxRecDepth 20000 in
set_option maxHeartbeats 3000000 in
theorem specPress_hout (v l g t r a b o : Int) (m : Bool) (n : Int) (w : World) (hk : apOk ⟨v, l, g, t, r, a, b, o, m⟩ = true) (hi : inB n 0 359 = false) :
    Calls Try.prog 14 #[.agg #[.int .i64 v, .int .i64 l, .int .i64 g, .int .i64 t, .int .i64 r, .int .i64 a, .int .i64 b, .int .i64 o, .bool m], .int .i64 4, .int .i64 n] w fun e w' => e = .returned (.tuple #[.agg #[.int .i64 v, .int .i64 l, .int .i64 g, .int .i64 t, .int .i64 r, .int .i64 a, .int .i64 b, .int .i64 o, .bool m], .bool false]) ∧ Below w.heap.size w w' := by
  go_enter Try.func14, Try.ntmps14
  go_wp2_with (first | (go_at_call 11; refine (specPilotOk_is _ _ _ _ _ _ _ _ _ _ hk).mono ?_; rintro e w1 ⟨rfl, hw⟩; subst w1) | (go_at_call 31; refine (l1In_is _ _ _ _ hi).mono ?_; rintro e w' ⟨rfl, hw⟩; subst w'))
  refine bodyPost_ret (v := .tuple #[.agg #[.int .i64 v, .int .i64 l, .int .i64 g, .int .i64 t, .int .i64 r, .int .i64 a, .int .i64 b, .int .i64 o, .bool m], .bool false]) (by simp [results, Try.results14, go_sem]) rfl ⟨rfl, ?_⟩
  repeat (first | exact Below.refl _ _ | refine Below.setCell ?_ (by simp; try omega) _ | refine Below.alloc ?_ (by simp; try omega) _)
set_option maxRecDepth 20000 in
set_option maxHeartbeats 3000000 in
theorem specPress_hyes (v l g t r a b o : Int) (m : Bool) (n : Int) (w : World) (hk : apOk ⟨v, l, g, t, r, a, b, o, m⟩ = true) (hi : inB n 0 359 = true) :
    Calls Try.prog 14 #[.agg #[.int .i64 v, .int .i64 l, .int .i64 g, .int .i64 t, .int .i64 r, .int .i64 a, .int .i64 b, .int .i64 o, .bool m], .int .i64 4, .int .i64 n] w fun e w' => e = .returned (.tuple #[.agg #[.int .i64 v, .int .i64 1, .int .i64 g, .int .i64 t, .int .i64 r, .int .i64 a, .int .i64 n, .int .i64 o, .bool false], .bool true]) ∧ Below w.heap.size w w' := by
  go_enter Try.func14, Try.ntmps14
  go_wp2_with (first | (go_at_call 11; refine (specPilotOk_is _ _ _ _ _ _ _ _ _ _ hk).mono ?_; rintro e w1 ⟨rfl, hw⟩; subst w1) | (go_at_call 31; refine (l1In_is _ _ _ _ hi).mono ?_; rintro e w' ⟨rfl, hw⟩; subst w'))
  refine bodyPost_ret (v := .tuple #[.agg #[.int .i64 v, .int .i64 1, .int .i64 g, .int .i64 t, .int .i64 r, .int .i64 a, .int .i64 n, .int .i64 o, .bool false], .bool true]) (by simp [results, Try.results14, go_sem]) rfl ⟨rfl, ?_⟩
  repeat (first | exact Below.refl _ _ | refine Below.setCell ?_ (by simp; try omega) _ | refine Below.alloc ?_ (by simp; try omega) _)
set_option maxRecDepth 20000 in
set_option maxHeartbeats 3000000 in
theorem specPress_al3 (v g t r a b o : Int) (m : Bool) (n : Int) (w : World) (hk : apOk ⟨v, 3, g, t, r, a, b, o, m⟩ = true) :
    Calls Try.prog 14 #[.agg #[.int .i64 v, .int .i64 3, .int .i64 g, .int .i64 t, .int .i64 r, .int .i64 a, .int .i64 b, .int .i64 o, .bool m], .int .i64 5, .int .i64 n] w fun e w' => e = .returned (.tuple #[.agg #[.int .i64 v, .int .i64 3, .int .i64 g, .int .i64 t, .int .i64 r, .int .i64 a, .int .i64 b, .int .i64 o, .bool m], .bool false]) ∧ Below w.heap.size w w' := by
  go_enter Try.func14, Try.ntmps14
  go_wp2_with (first | (go_at_call 11; refine (specPilotOk_is _ _ _ _ _ _ _ _ _ _ hk).mono ?_; rintro e w1 ⟨rfl, hw⟩; subst w1))
  refine bodyPost_ret (v := .tuple #[.agg #[.int .i64 v, .int .i64 3, .int .i64 g, .int .i64 t, .int .i64 r, .int .i64 a, .int .i64 b, .int .i64 o, .bool m], .bool false]) (by simp [results, Try.results14, go_sem]) rfl ⟨rfl, ?_⟩
  repeat (first | exact Below.refl _ _ | refine Below.setCell ?_ (by simp; try omega) _ | refine Below.alloc ?_ (by simp; try omega) _)
set_option maxRecDepth 20000 in
set_option maxHeartbeats 3000000 in
theorem specPress_al2 (v g t r a b o : Int) (m : Bool) (n : Int) (w : World) (hk : apOk ⟨v, 2, g, t, r, a, b, o, m⟩ = true) :
    Calls Try.prog 14 #[.agg #[.int .i64 v, .int .i64 2, .int .i64 g, .int .i64 t, .int .i64 r, .int .i64 a, .int .i64 b, .int .i64 o, .bool m], .int .i64 5, .int .i64 n] w fun e w' => e = .returned (.tuple #[.agg #[.int .i64 v, .int .i64 2, .int .i64 g, .int .i64 t, .int .i64 r, .int .i64 a, .int .i64 b, .int .i64 o, .bool m], .bool false]) ∧ Below w.heap.size w w' := by
  go_enter Try.func14, Try.ntmps14
  go_wp2_with (first | (go_at_call 11; refine (specPilotOk_is _ _ _ _ _ _ _ _ _ _ hk).mono ?_; rintro e w1 ⟨rfl, hw⟩; subst w1))
  refine bodyPost_ret (v := .tuple #[.agg #[.int .i64 v, .int .i64 2, .int .i64 g, .int .i64 t, .int .i64 r, .int .i64 a, .int .i64 b, .int .i64 o, .bool m], .bool false]) (by simp [results, Try.results14, go_sem]) rfl ⟨rfl, ?_⟩
  repeat (first | exact Below.refl _ _ | refine Below.setCell ?_ (by simp; try omega) _ | refine Below.alloc ?_ (by simp; try omega) _)
set_option maxRecDepth 20000 in
set_option maxHeartbeats 3000000 in
theorem specPress_ayes (v l g t r a b o : Int) (m : Bool) (n : Int) (w : World) (hk : apOk ⟨v, l, g, t, r, a, b, o, m⟩ = true) (h3 : ¬ l = 3) (h2 : ¬ l = 2) :
    Calls Try.prog 14 #[.agg #[.int .i64 v, .int .i64 l, .int .i64 g, .int .i64 t, .int .i64 r, .int .i64 a, .int .i64 b, .int .i64 o, .bool m], .int .i64 5, .int .i64 n] w fun e w' => e = .returned (.tuple #[.agg #[.int .i64 v, .int .i64 l, .int .i64 g, .int .i64 t, .int .i64 r, .int .i64 a, .int .i64 b, .int .i64 o, .bool true], .bool true]) ∧ Below w.heap.size w w' := by
  have hb0 : (l == 3) = false := by simp [h3]
  have hb1 : (l == 2) = false := by simp [h2]
  go_enter Try.func14, Try.ntmps14
  go_wp2_with (first | (go_at_call 11; refine (specPilotOk_is _ _ _ _ _ _ _ _ _ _ hk).mono ?_; rintro e w1 ⟨rfl, hw⟩; subst w1))
  refine bodyPost_ret (v := .tuple #[.agg #[.int .i64 v, .int .i64 l, .int .i64 g, .int .i64 t, .int .i64 r, .int .i64 a, .int .i64 b, .int .i64 o, .bool true], .bool true]) (by simp [results, Try.results14, go_sem]) rfl ⟨rfl, ?_⟩
  repeat (first | exact Below.refl _ _ | refine Below.setCell ?_ (by simp; try omega) _ | refine Below.alloc ?_ (by simp; try omega) _)
set_option maxRecDepth 20000 in
set_option maxHeartbeats 3000000 in
theorem specPress_off (v l g t r a b o : Int) (m : Bool) (n : Int) (w : World) (hk : apOk ⟨v, l, g, t, r, a, b, o, m⟩ = true) :
    Calls Try.prog 14 #[.agg #[.int .i64 v, .int .i64 l, .int .i64 g, .int .i64 t, .int .i64 r, .int .i64 a, .int .i64 b, .int .i64 o, .bool m], .int .i64 6, .int .i64 n] w fun e w' => e = .returned (.tuple #[.agg #[.int .i64 0, .int .i64 0, .int .i64 g, .int .i64 t, .int .i64 0, .int .i64 a, .int .i64 b, .int .i64 o, .bool false], .bool true]) ∧ Below w.heap.size w w' := by
  go_enter Try.func14, Try.ntmps14
  go_wp2_with (first | (go_at_call 11; refine (specPilotOk_is _ _ _ _ _ _ _ _ _ _ hk).mono ?_; rintro e w1 ⟨rfl, hw⟩; subst w1))
  refine bodyPost_ret (v := .tuple #[.agg #[.int .i64 0, .int .i64 0, .int .i64 g, .int .i64 t, .int .i64 0, .int .i64 a, .int .i64 b, .int .i64 o, .bool false], .bool true]) (by simp [results, Try.results14, go_sem]) rfl ⟨rfl, ?_⟩
  repeat (first | exact Below.refl _ _ | refine Below.setCell ?_ (by simp; try omega) _ | refine Below.alloc ?_ (by simp; try omega) _)
set_option maxRecDepth 20000 in
set_option maxHeartbeats 3000000 in
theorem specPress_rout (v l g t r a b o : Int) (m : Bool) (n : Int) (w : World) (hk : apOk ⟨v, l, g, t, r, a, b, o, m⟩ = true) (hi : inB n (-100) 100 = false) :
    Calls Try.prog 14 #[.agg #[.int .i64 v, .int .i64 l, .int .i64 g, .int .i64 t, .int .i64 r, .int .i64 a, .int .i64 b, .int .i64 o, .bool m], .int .i64 7, .int .i64 n] w fun e w' => e = .returned (.tuple #[.agg #[.int .i64 v, .int .i64 l, .int .i64 g, .int .i64 t, .int .i64 r, .int .i64 a, .int .i64 b, .int .i64 o, .bool m], .bool false]) ∧ Below w.heap.size w w' := by
  go_enter Try.func14, Try.ntmps14
  go_wp2_with (first | (go_at_call 11; refine (specPilotOk_is _ _ _ _ _ _ _ _ _ _ hk).mono ?_; rintro e w1 ⟨rfl, hw⟩; subst w1) | (go_at_call 31; refine (l1In_is _ _ _ _ hi).mono ?_; rintro e w' ⟨rfl, hw⟩; subst w'))
  refine bodyPost_ret (v := .tuple #[.agg #[.int .i64 v, .int .i64 l, .int .i64 g, .int .i64 t, .int .i64 r, .int .i64 a, .int .i64 b, .int .i64 o, .bool m], .bool false]) (by simp [results, Try.results14, go_sem]) rfl ⟨rfl, ?_⟩
  repeat (first | exact Below.refl _ _ | refine Below.setCell ?_ (by simp; try omega) _ | refine Below.alloc ?_ (by simp; try omega) _)
set_option maxRecDepth 20000 in
set_option maxHeartbeats 3000000 in
theorem specPress_rv1 (l g t r a b o : Int) (m : Bool) (n : Int) (w : World) (hk : apOk ⟨1, l, g, t, r, a, b, o, m⟩ = true) (hi : inB n (-100) 100 = true) :
    Calls Try.prog 14 #[.agg #[.int .i64 1, .int .i64 l, .int .i64 g, .int .i64 t, .int .i64 r, .int .i64 a, .int .i64 b, .int .i64 o, .bool m], .int .i64 7, .int .i64 n] w fun e w' => e = .returned (.tuple #[.agg #[.int .i64 1, .int .i64 l, .int .i64 g, .int .i64 t, .int .i64 r, .int .i64 a, .int .i64 b, .int .i64 o, .bool m], .bool false]) ∧ Below w.heap.size w w' := by
  go_enter Try.func14, Try.ntmps14
  go_wp2_with (first | (go_at_call 11; refine (specPilotOk_is _ _ _ _ _ _ _ _ _ _ hk).mono ?_; rintro e w1 ⟨rfl, hw⟩; subst w1) | (go_at_call 31; refine (l1In_is _ _ _ _ hi).mono ?_; rintro e w' ⟨rfl, hw⟩; subst w'))
  refine bodyPost_ret (v := .tuple #[.agg #[.int .i64 1, .int .i64 l, .int .i64 g, .int .i64 t, .int .i64 r, .int .i64 a, .int .i64 b, .int .i64 o, .bool m], .bool false]) (by simp [results, Try.results14, go_sem]) rfl ⟨rfl, ?_⟩
  repeat (first | exact Below.refl _ _ | refine Below.setCell ?_ (by simp; try omega) _ | refine Below.alloc ?_ (by simp; try omega) _)
set_option maxRecDepth 20000 in
set_option maxHeartbeats 3000000 in
theorem specPress_rv3 (l g t r a b o : Int) (m : Bool) (n : Int) (w : World) (hk : apOk ⟨3, l, g, t, r, a, b, o, m⟩ = true) (hi : inB n (-100) 100 = true) :
    Calls Try.prog 14 #[.agg #[.int .i64 3, .int .i64 l, .int .i64 g, .int .i64 t, .int .i64 r, .int .i64 a, .int .i64 b, .int .i64 o, .bool m], .int .i64 7, .int .i64 n] w fun e w' => e = .returned (.tuple #[.agg #[.int .i64 3, .int .i64 l, .int .i64 g, .int .i64 t, .int .i64 r, .int .i64 a, .int .i64 b, .int .i64 o, .bool m], .bool false]) ∧ Below w.heap.size w w' := by
  go_enter Try.func14, Try.ntmps14
  go_wp2_with (first | (go_at_call 11; refine (specPilotOk_is _ _ _ _ _ _ _ _ _ _ hk).mono ?_; rintro e w1 ⟨rfl, hw⟩; subst w1) | (go_at_call 31; refine (l1In_is _ _ _ _ hi).mono ?_; rintro e w' ⟨rfl, hw⟩; subst w'))
  refine bodyPost_ret (v := .tuple #[.agg #[.int .i64 3, .int .i64 l, .int .i64 g, .int .i64 t, .int .i64 r, .int .i64 a, .int .i64 b, .int .i64 o, .bool m], .bool false]) (by simp [results, Try.results14, go_sem]) rfl ⟨rfl, ?_⟩
  repeat (first | exact Below.refl _ _ | refine Below.setCell ?_ (by simp; try omega) _ | refine Below.alloc ?_ (by simp; try omega) _)
set_option maxRecDepth 20000 in
set_option maxHeartbeats 3000000 in
theorem specPress_ryes (v l g t r a b o : Int) (m : Bool) (n : Int) (w : World) (hk : apOk ⟨v, l, g, t, r, a, b, o, m⟩ = true) (hi : inB n (-100) 100 = true) (h1 : ¬ v = 1) (h3 : ¬ v = 3) :
    Calls Try.prog 14 #[.agg #[.int .i64 v, .int .i64 l, .int .i64 g, .int .i64 t, .int .i64 r, .int .i64 a, .int .i64 b, .int .i64 o, .bool m], .int .i64 7, .int .i64 n] w fun e w' => e = .returned (.tuple #[.agg #[.int .i64 v, .int .i64 l, .int .i64 g, .int .i64 t, .int .i64 n, .int .i64 a, .int .i64 b, .int .i64 o, .bool m], .bool true]) ∧ Below w.heap.size w w' := by
  have hb0 : (v == 1) = false := by simp [h1]
  have hb1 : (v == 3) = false := by simp [h3]
  go_enter Try.func14, Try.ntmps14
  go_wp2_with (first | (go_at_call 11; refine (specPilotOk_is _ _ _ _ _ _ _ _ _ _ hk).mono ?_; rintro e w1 ⟨rfl, hw⟩; subst w1) | (go_at_call 31; refine (l1In_is _ _ _ _ hi).mono ?_; rintro e w' ⟨rfl, hw⟩; subst w'))
  refine bodyPost_ret (v := .tuple #[.agg #[.int .i64 v, .int .i64 l, .int .i64 g, .int .i64 t, .int .i64 n, .int .i64 a, .int .i64 b, .int .i64 o, .bool m], .bool true]) (by simp [results, Try.results14, go_sem]) rfl ⟨rfl, ?_⟩
  repeat (first | exact Below.refl _ _ | refine Below.setCell ?_ (by simp; try omega) _ | refine Below.alloc ?_ (by simp; try omega) _)
theorem specPress_any (v l g t r a b o : Int) (m : Bool) (k n : Int) (w : World) :
    Calls Try.prog 14 #[.agg #[.int .i64 v, .int .i64 l, .int .i64 g, .int .i64 t, .int .i64 r, .int .i64 a, .int .i64 b, .int .i64 o, .bool m], .int .i64 k, .int .i64 n] w fun e w' => e = .returned (.tuple #[.agg #[.int .i64 (prP ⟨v, l, g, t, r, a, b, o, m⟩ k n).a0, .int .i64 (prP ⟨v, l, g, t, r, a, b, o, m⟩ k n).a1, .int .i64 (prP ⟨v, l, g, t, r, a, b, o, m⟩ k n).a2, .int .i64 (prP ⟨v, l, g, t, r, a, b, o, m⟩ k n).a3, .int .i64 (prP ⟨v, l, g, t, r, a, b, o, m⟩ k n).a4, .int .i64 (prP ⟨v, l, g, t, r, a, b, o, m⟩ k n).a5, .int .i64 (prP ⟨v, l, g, t, r, a, b, o, m⟩ k n).a6, .int .i64 (prP ⟨v, l, g, t, r, a, b, o, m⟩ k n).a7, .bool (prP ⟨v, l, g, t, r, a, b, o, m⟩ k n).a8], .bool (prB ⟨v, l, g, t, r, a, b, o, m⟩ k n)]) ∧ Below w.heap.size w w' := by
  cases hk : apOk ⟨v, l, g, t, r, a, b, o, m⟩
  · have e : prB ⟨v, l, g, t, r, a, b, o, m⟩ k n = false := by simp [prB, hk]
    rw [prP_no e, e]
    exact specPress_not v l g t r a b o m k n w hk 
  by_cases hn : ¬ (1 ≤ k ∧ k ≤ 7)
  · have e : prB ⟨v, l, g, t, r, a, b, o, m⟩ k n = false := by simp [prB, hk, show ¬ k = 1 by omega, show ¬ k = 2 by omega, show ¬ k = 3 by omega, show ¬ k = 4 by omega, show ¬ k = 5 by omega, show ¬ k = 6 by omega, show ¬ k = 7 by omega]
    rw [prP_no e, e]
    exact specPress_none v l g t r a b o m k n w hk (by omega) (by omega) (by omega) (by omega) (by omega) (by omega) (by omega)
  have hn := Classical.not_not.1 hn
  rcases (by omega : k = 1 ∨ k = 2 ∨ k = 3 ∨ k = 4 ∨ k = 5 ∨ k = 6 ∨ k = 7) with rfl | rfl | rfl | rfl | rfl | rfl | rfl
  · have e : prB ⟨v, l, g, t, r, a, b, o, m⟩ 1 n = true := by simp [prB, hk]
    rw [prP_yes e, e]
    simp only [prY, holdP]
    exact specPress_hold v l g t r a b o m n w hk 
  · cases hl : leadB g t r
    · have e : prB ⟨v, l, g, t, r, a, b, o, m⟩ 2 n = false := by simp [prB, hk, hl]
      rw [prP_no e, e]
      exact specPress_cno v l g t r a b o m n w hk hl
    · have e : prB ⟨v, l, g, t, r, a, b, o, m⟩ 2 n = true := by simp [prB, hk, hl]
      rw [prP_yes e, e]
      simp only [prY, holdP]
      exact specPress_cyes v l g t r a b o m n w hk hl
  · cases hi : inB n 0 60000
    · have e : prB ⟨v, l, g, t, r, a, b, o, m⟩ 3 n = false := by simp [prB, hk, hi]
      rw [prP_no e, e]
      exact specPress_tout v l g t r a b o m n w hk hi
    by_cases h2 : v = 2
    · subst h2
      cases hl : leadB g n r
      · have e : prB ⟨2, l, g, t, r, a, b, o, m⟩ 3 n = true := by simp [prB, hk, hi]
        rw [prP_yes e, e]
        simp only [prY, holdP]
        simp [hl]
        exact specPress_th2 l g t r a b o m n w hk hi hl
      · have e : prB ⟨2, l, g, t, r, a, b, o, m⟩ 3 n = true := by simp [prB, hk, hi]
        rw [prP_yes e, e]
        simp only [prY, holdP]
        simp [hl]
        exact specPress_tv2 l g t r a b o m n w hk hi hl
    by_cases h3 : v = 3
    · subst h3
      cases hl : leadB g n r
      · have e : prB ⟨3, l, g, t, r, a, b, o, m⟩ 3 n = true := by simp [prB, hk, hi]
        rw [prP_yes e, e]
        simp only [prY, holdP]
        simp [hl]
        exact specPress_th3 l g t r a b o m n w hk hi hl
      · have e : prB ⟨3, l, g, t, r, a, b, o, m⟩ 3 n = true := by simp [prB, hk, hi]
        rw [prP_yes e, e]
        simp only [prY, holdP]
        simp [hl]
        exact specPress_tv3 l g t r a b o m n w hk hi hl
    have e : prB ⟨v, l, g, t, r, a, b, o, m⟩ 3 n = true := by simp [prB, hk, hi]
    rw [prP_yes e, e]
    simp only [prY, holdP]
    simp [h2, h3]
    exact specPress_tplain v l g t r a b o m n w hk hi h2 h3
  · cases hi : inB n 0 359
    · have e : prB ⟨v, l, g, t, r, a, b, o, m⟩ 4 n = false := by simp [prB, hk, hi]
      rw [prP_no e, e]
      exact specPress_hout v l g t r a b o m n w hk hi
    · have e : prB ⟨v, l, g, t, r, a, b, o, m⟩ 4 n = true := by simp [prB, hk, hi]
      rw [prP_yes e, e]
      simp only [prY, holdP]
      exact specPress_hyes v l g t r a b o m n w hk hi
  · by_cases h3 : l = 3
    · subst h3
      have e : prB ⟨v, 3, g, t, r, a, b, o, m⟩ 5 n = false := by simp [prB, hk]
      rw [prP_no e, e]
      exact specPress_al3 v g t r a b o m n w hk 
    by_cases h2 : l = 2
    · subst h2
      have e : prB ⟨v, 2, g, t, r, a, b, o, m⟩ 5 n = false := by simp [prB, hk]
      rw [prP_no e, e]
      exact specPress_al2 v g t r a b o m n w hk 
    have e : prB ⟨v, l, g, t, r, a, b, o, m⟩ 5 n = true := by simp [prB, hk, h2, h3]
    rw [prP_yes e, e]
    simp only [prY, holdP]
    exact specPress_ayes v l g t r a b o m n w hk h3 h2
  · have e : prB ⟨v, l, g, t, r, a, b, o, m⟩ 6 n = true := by simp [prB, hk]
    rw [prP_yes e, e]
    simp only [prY, holdP]
    exact specPress_off v l g t r a b o m n w hk 
  · cases hi : inB n (-100) 100
    · have e : prB ⟨v, l, g, t, r, a, b, o, m⟩ 7 n = false := by simp [prB, hk, hi]
      rw [prP_no e, e]
      exact specPress_rout v l g t r a b o m n w hk hi
    by_cases h1 : v = 1
    · subst h1
      have e : prB ⟨1, l, g, t, r, a, b, o, m⟩ 7 n = false := by simp [prB, hk, hi]
      rw [prP_no e, e]
      exact specPress_rv1 l g t r a b o m n w hk hi
    by_cases h3 : v = 3
    · subst h3
      have e : prB ⟨3, l, g, t, r, a, b, o, m⟩ 7 n = false := by simp [prB, hk, hi]
      rw [prP_no e, e]
      exact specPress_rv3 l g t r a b o m n w hk hi
    have e : prB ⟨v, l, g, t, r, a, b, o, m⟩ 7 n = true := by simp [prB, hk, hi, h1, h3]
    rw [prP_yes e, e]
    simp only [prY, holdP]
    exact specPress_ryes v l g t r a b o m n w hk hi h1 h3

end Go.Proofs.Ytfahhjgpgccdhas
