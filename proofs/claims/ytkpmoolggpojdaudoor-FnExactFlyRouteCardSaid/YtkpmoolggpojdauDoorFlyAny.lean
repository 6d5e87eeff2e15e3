/-
  What FlyLeg answers in the model and in the program: one plain answer, at every craft and leg. The program's where the table of steps holds what the program's text says; nothing that was there is written.
-/
import Derived.Test.YtkpmoolggpojdauDoorGyLeg
import Derived.Test.YtkpmoolggpojdauDoorFyLeg
namespace Go.Proofs.YtkpmoolggpojdauDoor
open Go.RowKit
def fyX (x y d h c k lx ly m : Int) : Int := (flR k lx ly m ⟨x, y, d, h, c⟩).1.x
def fyY (x y d h c k lx ly m : Int) : Int := (flR k lx ly m ⟨x, y, d, h, c⟩).1.y
def fyD (x y d h c k lx ly m : Int) : Int := (flR k lx ly m ⟨x, y, d, h, c⟩).1.d
def fyH (x y d h c k lx ly m : Int) : Int := (flR k lx ly m ⟨x, y, d, h, c⟩).1.h
def fyC (x y d h c k lx ly m : Int) : Int := (flR k lx ly m ⟨x, y, d, h, c⟩).1.c
def fyS (x y d h c k lx ly m : Int) : Int := (flR k lx ly m ⟨x, y, d, h, c⟩).2.1
def fyO (x y d h c k lx ly m : Int) : Int := (flR k lx ly m ⟨x, y, d, h, c⟩).2.2
theorem fy_start {x y d h c k lx ly m : Int} (hv : (cfB ⟨x, y, d, h, c⟩ && lgB k lx ly m) = true) (nv : nevB k m ⟨x, y, d, h, c⟩ = false) : Hid (FlA k lx ly m ⟨x, y, d, h, c⟩ (⟨fyX x y d h c k lx ly m, fyY x y d h c k lx ly m, fyD x y d h c k lx ly m, fyH x y d h c k lx ly m, fyC x y d h c k lx ly m⟩, fyS x y d h c k lx ly m, fyO x y d h c k lx ly m) 2001 ⟨x, y, d, h, c⟩ 0) := hide (FlA.start hv nv)
theorem nev3 (m x y d h c : Int) : nevB 3 m ⟨x, y, d, h, c⟩ = decide (h < m ∧ c ≤ 0) := by simp [nevB]
theorem specFlyLeg_any (x y d h c k lx ly m : Int) (w : World) :
    Calls Tryd.prog 6 #[.agg #[.int .i64 x, .int .i64 y, .int .i64 d, .int .i64 h, .int .i64 c], .agg #[.int .i64 k, .int .i64 lx, .int .i64 ly, .int .i64 m]] w fun e w' => e = .returned (.tuple #[.agg #[.int .i64 (fyX x y d h c k lx ly m), .int .i64 (fyY x y d h c k lx ly m), .int .i64 (fyD x y d h c k lx ly m), .int .i64 (fyH x y d h c k lx ly m), .int .i64 (fyC x y d h c k lx ly m)], .int .i64 (fyS x y d h c k lx ly m), .int .i64 (fyO x y d h c k lx ly m)]) ∧ Below w.heap.size w w' := by
  rcases two (cfB ⟨x, y, d, h, c⟩) (lgB k lx ly m) with ⟨q1, hv⟩ | ⟨q1, q2, hv⟩ | ⟨q1, q2, hv⟩
  · have e := flR_bad hv
    simp only [fyX, fyY, fyD, fyH, fyC, fyS, fyO, e]
    exact specFlyLeg_bad1 k lx ly m x y d h c w q1
  · have e := flR_bad hv
    simp only [fyX, fyY, fyD, fyH, fyC, fyS, fyO, e]
    exact specFlyLeg_bad2 k lx ly m x y d h c w q1 q2
  · cases nv : nevB k m ⟨x, y, d, h, c⟩ with
    | true =>
      have e := flR_never hv nv
      simp only [fyX, fyY, fyD, fyH, fyC, fyS, fyO, e]
      have n3 : k = 3 ∧ h < m ∧ c ≤ 0 := of_decide_eq_true nv
      exact specFlyLeg_nev k lx ly m x y d h c w q1 q2 (by simpa using n3.1) n3.2.1 n3.2.2
    | false =>
      have n3 : ¬ (k = 3 ∧ h < m ∧ c ≤ 0) := of_decide_eq_false nv
      exact specFlyLeg_on k lx ly m x y d h c w q1 q2 (nev_cases n3) (fy_start hv nv)
theorem implFlyLeg_any (x y d h c k lx ly m : Int) (w : World) (g : StG w) :
    Calls Tryd.prog 9 #[.agg #[.int .i64 x, .int .i64 y, .int .i64 d, .int .i64 h, .int .i64 c], .agg #[.int .i64 k, .int .i64 lx, .int .i64 ly, .int .i64 m]] w fun e w' => e = .returned (.tuple #[.agg #[.int .i64 (fyX x y d h c k lx ly m), .int .i64 (fyY x y d h c k lx ly m), .int .i64 (fyD x y d h c k lx ly m), .int .i64 (fyH x y d h c k lx ly m), .int .i64 (fyC x y d h c k lx ly m)], .int .i64 (fyS x y d h c k lx ly m), .int .i64 (fyO x y d h c k lx ly m)]) ∧ Below w.heap.size w w' := by
  rcases kindIs k with rfl | rfl | rfl | rfl | rfl | ⟨h1, h2, h3, h4, h5⟩
  · cases q2 : lgB 1 lx ly m with
    | false =>
      have e := flR_bad (q := ⟨x, y, d, h, c⟩) (show (cfB ⟨x, y, d, h, c⟩ && lgB 1 lx ly m) = false by rw [q2, Bool.and_false])
      simp only [fyX, fyY, fyD, fyH, fyC, fyS, fyO, e]
      exact implFlyLeg_no1 lx ly m x y d h c w q2
    | true =>
      cases q1 : cfB ⟨x, y, d, h, c⟩ with
      | false =>
        have e := flR_bad (show (cfB ⟨x, y, d, h, c⟩ && lgB 1 lx ly m) = false by rw [q1, Bool.false_and])
        simp only [fyX, fyY, fyD, fyH, fyC, fyS, fyO, e]
        exact implFlyLeg_bad1 lx ly m x y d h c w q1 q2
      | true =>
        have hv : (cfB ⟨x, y, d, h, c⟩ && lgB 1 lx ly m) = true := by rw [q1, q2]; rfl
        exact implFlyLeg_on1 lx ly m x y d h c w g q1 q2 (fy_start hv (by simp [nevB]))
  · cases q2 : lgB 2 lx ly m with
    | false =>
      have e := flR_bad (q := ⟨x, y, d, h, c⟩) (show (cfB ⟨x, y, d, h, c⟩ && lgB 2 lx ly m) = false by rw [q2, Bool.and_false])
      simp only [fyX, fyY, fyD, fyH, fyC, fyS, fyO, e]
      exact implFlyLeg_no2 lx ly m x y d h c w q2
    | true =>
      cases q1 : cfB ⟨x, y, d, h, c⟩ with
      | false =>
        have e := flR_bad (show (cfB ⟨x, y, d, h, c⟩ && lgB 2 lx ly m) = false by rw [q1, Bool.false_and])
        simp only [fyX, fyY, fyD, fyH, fyC, fyS, fyO, e]
        exact implFlyLeg_bad2 lx ly m x y d h c w q1 q2
      | true =>
        have hv : (cfB ⟨x, y, d, h, c⟩ && lgB 2 lx ly m) = true := by rw [q1, q2]; rfl
        exact implFlyLeg_on2 lx ly m x y d h c w g q1 q2 (fy_start hv (by simp [nevB]))
  · cases q2 : lgB 3 lx ly m with
    | false =>
      have e := flR_bad (q := ⟨x, y, d, h, c⟩) (show (cfB ⟨x, y, d, h, c⟩ && lgB 3 lx ly m) = false by rw [q2, Bool.and_false])
      simp only [fyX, fyY, fyD, fyH, fyC, fyS, fyO, e]
      exact implFlyLeg_no3 lx ly m x y d h c w q2
    | true =>
      cases q1 : cfB ⟨x, y, d, h, c⟩ with
      | false =>
        have e := flR_bad (show (cfB ⟨x, y, d, h, c⟩ && lgB 3 lx ly m) = false by rw [q1, Bool.false_and])
        simp only [fyX, fyY, fyD, fyH, fyC, fyS, fyO, e]
        exact implFlyLeg_bad3 lx ly m x y d h c w q1 q2
      | true =>
        have hv : (cfB ⟨x, y, d, h, c⟩ && lgB 3 lx ly m) = true := by rw [q1, q2]; rfl
        cases nv : nevB 3 m ⟨x, y, d, h, c⟩ with
        | true =>
          have e := flR_never hv nv
          simp only [fyX, fyY, fyD, fyH, fyC, fyS, fyO, e]
          exact implFlyLeg_nev lx ly m x y d h c w q1 q2 ((nev3 m x y d h c).symm.trans nv)
        | false => exact implFlyLeg_on3 lx ly m x y d h c w g q1 q2 ((nev3 m x y d h c).symm.trans nv) (fy_start hv nv)
  · cases q2 : lgB 4 lx ly m with
    | false =>
      have e := flR_bad (q := ⟨x, y, d, h, c⟩) (show (cfB ⟨x, y, d, h, c⟩ && lgB 4 lx ly m) = false by rw [q2, Bool.and_false])
      simp only [fyX, fyY, fyD, fyH, fyC, fyS, fyO, e]
      exact implFlyLeg_no4 lx ly m x y d h c w q2
    | true =>
      cases q1 : cfB ⟨x, y, d, h, c⟩ with
      | false =>
        have e := flR_bad (show (cfB ⟨x, y, d, h, c⟩ && lgB 4 lx ly m) = false by rw [q1, Bool.false_and])
        simp only [fyX, fyY, fyD, fyH, fyC, fyS, fyO, e]
        exact implFlyLeg_bad4 lx ly m x y d h c w q1 q2
      | true =>
        have hv : (cfB ⟨x, y, d, h, c⟩ && lgB 4 lx ly m) = true := by rw [q1, q2]; rfl
        exact implFlyLeg_on4 lx ly m x y d h c w g q1 q2 (fy_start hv (by simp [nevB]))
  · cases q2 : lgB 5 lx ly m with
    | false =>
      have e := flR_bad (q := ⟨x, y, d, h, c⟩) (show (cfB ⟨x, y, d, h, c⟩ && lgB 5 lx ly m) = false by rw [q2, Bool.and_false])
      simp only [fyX, fyY, fyD, fyH, fyC, fyS, fyO, e]
      exact implFlyLeg_no5 lx ly m x y d h c w q2
    | true =>
      cases q1 : cfB ⟨x, y, d, h, c⟩ with
      | false =>
        have e := flR_bad (show (cfB ⟨x, y, d, h, c⟩ && lgB 5 lx ly m) = false by rw [q1, Bool.false_and])
        simp only [fyX, fyY, fyD, fyH, fyC, fyS, fyO, e]
        exact implFlyLeg_bad5 lx ly m x y d h c w q1 q2
      | true =>
        have hv : (cfB ⟨x, y, d, h, c⟩ && lgB 5 lx ly m) = true := by rw [q1, q2]; rfl
        exact implFlyLeg_on5 lx ly m x y d h c w g q1 q2 (fy_start hv (by simp [nevB]))
  · have e := flR_bad (q := ⟨x, y, d, h, c⟩) (show (cfB ⟨x, y, d, h, c⟩ && lgB k lx ly m) = false by rw [lgB_no h1 h2 h3 h4 h5, Bool.and_false])
    simp only [fyX, fyY, fyD, fyH, fyC, fyS, fyO, e]
    exact implFlyLeg_none k lx ly m x y d h c w h1 h2 h3 h4 h5

end Go.Proofs.YtkpmoolggpojdauDoor
