/-
  What Beside answers in the model and in the program: the plain answer, at every argument; nothing that was there is written.
-/
import Derived.Test.YtidgkkldhnckeaeNavImpl
namespace Go.Proofs.Ytidgkkldhnckeae
open Go.RowKit

theorem bsQ {X D : Int} (h0 : 0 ≤ X) (h1 : X ≤ 32000000 * 32000000) (hd : 1 ≤ D) : 0 ≤ X.tdiv D ∧ X.tdiv D ≤ 1024000000000000 := by
  rw [Int.tdiv_eq_ediv_of_nonneg h0]
  refine ⟨Int.ediv_nonneg h0 (by omega), ?_⟩
  have := Int.ediv_le_self D h0
  omega
theorem bs_pos {ax ay bx by_ : Int} (h : ¬ (ax = bx ∧ ay = by_)) : 1 ≤ (bx - ax) * (bx - ax) + (by_ - ay) * (by_ - ay) := by
  have g1 : 0 ≤ (bx - ax) * (bx - ax) := by rcases Int.le_total 0 (bx - ax) with k | k; exact Int.mul_nonneg k k; exact Int.mul_nonneg_of_nonpos_of_nonpos k k
  have g2 : 0 ≤ (by_ - ay) * (by_ - ay) := by rcases Int.le_total 0 (by_ - ay) with k | k; exact Int.mul_nonneg k k; exact Int.mul_nonneg_of_nonpos_of_nonpos k k
  rcases Int.lt_or_le 0 ((bx - ax) * (bx - ax)) with k | k
  · omega
  rcases Int.lt_or_le 0 ((by_ - ay) * (by_ - ay)) with k2 | k2
  · omega
  have e1 : bx - ax = 0 := by rcases Int.mul_eq_zero.1 (show (bx - ax) * (bx - ax) = 0 by omega) with e | e <;> exact e
  have e2 : by_ - ay = 0 := by rcases Int.mul_eq_zero.1 (show (by_ - ay) * (by_ - ay) = 0 by omega) with e | e <;> exact e
  exact absurd ⟨by omega, by omega⟩ h
theorem bs_turn (ax ay bx by_ : Int) : (ax - bx) * (ax - bx) + (ay - by_) * (ay - by_) = (bx - ax) * (bx - ax) + (by_ - ay) * (by_ - ay) := by
  have e1 : ax - bx = -(bx - ax) := by omega
  have e2 : ay - by_ = -(by_ - ay) := by omega
  rw [e1, e2, Int.neg_mul_neg, Int.neg_mul_neg]


set_option maxHeartbeats 4000000 in
theorem implBeside_yes (ax ay bx by_ px py : Int) (w : World) (q1 : peB ax ay = true) (q2 : peB bx by_ = true) (q3 : peB px py = true) (hne : ¬ (ax = bx ∧ ay = by_)) (hd : 1 ≤ (bx - ax) * (bx - ax) + (by_ - ay) * (by_ - ay)) (K : Int) (hK : Hid ((if 0 < bsC ax ay bx by_ px py then - bsF ax ay bx by_ px py else bsF ax ay bx by_ px py) = K)) :
    Calls Try.prog 13 #[.agg #[.int .i64 ax, .int .i64 ay], .agg #[.int .i64 bx, .int .i64 by_], .agg #[.int .i64 px, .int .i64 py]] w fun e w' => e = .returned (.tuple #[.int .i64 K, .bool true]) ∧ Below w.heap.size w w' := by
  have f1 := peB_facts q1
  have f2 := peB_facts q2
  have f3 := peB_facts q3
  have s1 := sqBd (s := bx - ax) (A := 4000) (by omega) (by omega)
  have s2 := sqBd (s := by_ - ay) (A := 4000) (by omega) (by omega)
  have m1 := mulBd (s := bx - ax) (d := py - ay) (A := 4000) (B := 4000) (by omega) (by omega) (by omega) (by omega) (by omega) (by omega)
  have m2 := mulBd (s := by_ - ay) (d := px - ax) (A := 4000) (B := 4000) (by omega) (by omega) (by omega) (by omega) (by omega) (by omega)
  have m3 := sqBd (s := (bx - ax) * (py - ay) - (by_ - ay) * (px - ax)) (A := 32000000) (by omega) (by omega)
  have m4 := bsQ m3.1 m3.2 hd
  have hn2 : ¬ ax = bx ∨ ¬ ay = by_ := by omega
  clear hne
  have s3 := sqBd (s := ax - bx) (A := 4000) (by omega) (by omega)
  have s4 := sqBd (s := ay - by_) (A := 4000) (by omega) (by omega)
  have hd' : 1 ≤ (ax - bx) * (ax - bx) + (ay - by_) * (ay - by_) := by rw [bs_turn]; exact hd
  have m5 := bsQ m3.1 m3.2 hd'
  clear m4 hd s1 s2
  by_cases hc : 0 < (bx - ax) * (py - ay) - (by_ - ay) * (px - ax)
  all_goals
    have HC := hide (show (if 0 < bsC ax ay bx by_ px py then - bsF ax ay bx by_ px py else bsF ax ay bx by_ px py) = _ from (by simp only [bsC, hc, if_true, if_false]; exact rfl))
    rcases hn2 with hne | hne
    all_goals
      go_enter Try.func13, Try.ntmps13
      go_wp2_with (first | (go_at_call 20; refine (placeOk_al _ _ _ (by first | exact q1 | exact q2 | exact q3)).mono ?_; rintro e w' ⟨rfl, hw⟩; subst w') | (go_at_call 29; refine (squareApart_any _ _ _ _ _ (by omega) (by omega) (by omega) (by omega)).mono ?_; rintro e w1 ⟨rfl, b1⟩; have BB := hide b1; clear b1))
      go_ret2
      exact ⟨ret_ib (by rw [← unhide hK, unhide HC]; simp only [bsF, bsC, bs_turn]) rfl, Below.trans (by repeat (first | exact Below.refl _ _ | refine Below.alloc ?_ (by simp; try omega) _ | refine navDr ?_ _)) ((unhide BB).mono (by simp; try omega))⟩
set_option maxHeartbeats 4000000 in
theorem implBeside_any (ax ay bx by_ px py : Int) (w : World) :
    Calls Try.prog 13 #[.agg #[.int .i64 ax, .int .i64 ay], .agg #[.int .i64 bx, .int .i64 by_], .agg #[.int .i64 px, .int .i64 py]] w fun e w' => e = .returned (.tuple #[.int .i64 (bsR ax ay bx by_ px py), .bool (bsB ax ay bx by_ px py)]) ∧ Below w.heap.size w w' := by
  rcases three (peB ax ay) (peB bx by_) (peB px py) with ⟨q1, hv⟩ | ⟨q1, q2, hv⟩ | ⟨q1, q2, q3, hv⟩ | ⟨q1, q2, q3, hv⟩
  iterate 3
    · have HE : Hid (bsB ax ay bx by_ px py = false) := hide (by rw [bsB, hv]; rfl)
      simp only [bsR, unhide HE, Bool.false_eq_true, if_false]
      clear hv
      go_enter Try.func13, Try.ntmps13
      go_wp2_with (first | (go_at_call 20; refine (placeOk_al _ _ _ (by first | exact q1 | exact q2 | exact q3)).mono ?_; rintro e w' ⟨rfl, hw⟩; subst w'))
      go_ret2
      exact ⟨rfl, (by repeat (first | exact Below.refl _ _ | refine Below.alloc ?_ (by simp; try omega) _ | refine navDr ?_ _))⟩
  by_cases hs : ax = bx ∧ ay = by_
  · obtain ⟨rfl, rfl⟩ := hs
    have HE : Hid (bsB ax ay ax ay px py = false) := hide (by rw [bsB, hv]; simp)
    simp only [bsR, unhide HE, Bool.false_eq_true, if_false]
    clear hv
    go_enter Try.func13, Try.ntmps13
    go_wp2_with (first | (go_at_call 20; refine (placeOk_al _ _ _ (by first | exact q1 | exact q2 | exact q3)).mono ?_; rintro e w' ⟨rfl, hw⟩; subst w'))
    go_ret2
    exact ⟨rfl, (by repeat (first | exact Below.refl _ _ | refine Below.alloc ?_ (by simp; try omega) _ | refine navDr ?_ _))⟩
  have HE : Hid (bsB ax ay bx by_ px py = true) := hide (by rw [bsB, hv]; simp; omega)
  simp only [bsR, unhide HE, if_true]
  exact implBeside_yes ax ay bx by_ px py w q1 q2 q3 hs (bs_pos hs) _ (hide rfl)

end Go.Proofs.Ytidgkkldhnckeae
