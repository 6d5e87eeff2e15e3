/-
  What the law on lives asks, in plain numbers. No program here.
-/
import Derived.Test.YtnpohiceefkhdacDueFacts
namespace Go.Proofs.Ytnpohiceefkhdac
open Go Go.Maps

/-- The two names of the law. -/
def pumpS : ByteArray := ⟨#[112, 117, 109, 112]⟩
def fanS : ByteArray := ⟨#[102, 97, 110]⟩
theorem name_pump : nameB pumpS = true := by decide +kernel
theorem name_fan : nameB fanS = true := by decide +kernel
theorem pump_fan : pumpS ≠ fanS := by decide +kernel

theorem live_sign {b0 b1 s0 s1 : Int} (hb0 : 0 < b0) (hb1 : 0 < b1) :
    (¬ s0 * b1 < s1 * b0 → b1 ≤ s1 → b0 ≤ s0) ∧ (s0 * b1 < s1 * b0 → b0 ≤ s0 → b1 ≤ s1) := by
  constructor
  · intro h h1
    have a : b1 * b0 ≤ s1 * b0 := Int.mul_le_mul_of_nonneg_right h1 (by omega)
    have c : b0 * b1 ≤ s0 * b1 := by rw [Int.mul_comm b0 b1]; omega
    exact Int.le_of_mul_le_mul_right c hb1
  · intro h h1
    have a : b0 * b1 ≤ s0 * b1 := Int.mul_le_mul_of_nonneg_right h1 (by omega)
    have c : b1 * b0 ≤ s1 * b0 := by rw [Int.mul_comm b1 b0]; omega
    exact Int.le_of_mul_le_mul_right c hb0
theorem live_left {b0 b1 s0 s1 : Int} (hb0 : 1 ≤ b0 ∧ b0 ≤ 256) (hb1 : 1 ≤ b1 ∧ b1 ≤ 256) (hs0 : 0 ≤ s0 ∧ s0 ≤ 255) (hs1 : 0 ≤ s1 ∧ s1 ≤ 255) :
    (leftR pumpS b0 b1 0 pumpS s0 s1 0 = (0, b0 - s0, true) ∧ (b1 ≤ s1 → b0 ≤ s0)) ∨ (leftR pumpS b0 b1 0 pumpS s0 s1 0 = (1, b1 - s1, true) ∧ (b0 ≤ s0 → b1 ≤ s1)) := by
  have f1 : in3 b0 b1 0 1000000 = true := by simp [in3, inB]; omega
  have f2 : in3 s0 s1 0 10000000 = true := by simp [in3, inB]; omega
  have hok : leftOk pumpS b0 b1 0 pumpS s0 s1 0 = true := by unfold leftOk; rw [name_pump, f1, f2]; simp
  obtain ⟨g1, g2⟩ := live_sign (b0 := b0) (b1 := b1) (s0 := s0) (s1 := s1) (by omega) (by omega)
  have e0 : b0 ≠ 0 := by omega
  have e1 : b1 ≠ 0 := by omega
  have m1 : mostTo b0 b1 0 s0 s1 0 1 = 0 := mostTo_yes (k := 0) (by simp [mostTo, moreB, of3, e0])
  by_cases h : s0 * b1 < s1 * b0
  · right
    have m2 : mostTo b0 b1 0 s0 s1 0 2 = 1 := mostTo_yes (k := 1) (by rw [m1]; simp [moreB, of3, e1, h])
    have m3 : leftM b0 b1 0 s0 s1 0 = 1 := (mostTo_no (k := 2) (by rw [m2]; simp [moreB, of3])).trans m2
    refine ⟨?_, g2 h⟩
    rw [leftR_yes hok (by rw [m3]; decide), m3]
    rfl
  · left
    have m2 : mostTo b0 b1 0 s0 s1 0 2 = 0 := (mostTo_no (k := 1) (by rw [m1]; simp [moreB, of3]; intro _; omega)).trans m1
    have m3 : leftM b0 b1 0 s0 s1 0 = 0 := (mostTo_no (k := 2) (by rw [m2]; simp [moreB, of3])).trans m2
    refine ⟨?_, g1 h⟩
    rw [leftR_yes hok (by rw [m3]; decide), m3]
    rfl

theorem okB_one {p : Pt} {M : Int} (h1 : nameB p.n = true) (h2 : in3 p.a p.b p.c M = true) : okB [p] M = true := by
  refine okB_all (by simp) fun k hk => ?_
  obtain rfl : k = 0 := by simp at hk; omega
  unfold okAt
  have : hasN [p] 0 (elAt [p] 0).n = false := by simp [hasN]
  rw [this]
  show (!false && nameB p.n && in3 p.a p.b p.c M) = true
  rw [h1, h2]; rfl
theorem okB_two {p q : Pt} {M : Int} (h1 : nameB p.n = true) (h2 : in3 p.a p.b p.c M = true) (h3 : nameB q.n = true) (h4 : in3 q.a q.b q.c M = true) (hne : p.n ≠ q.n) : okB [p, q] M = true := by
  refine okB_all (by simp) fun k hk => ?_
  rcases (show k = 0 ∨ k = 1 from by simp at hk; omega) with rfl | rfl
  · unfold okAt
    have : hasN [p, q] 0 (elAt [p, q] 0).n = false := by simp [hasN]
    rw [this]
    show (!false && nameB p.n && in3 p.a p.b p.c M) = true
    rw [h1, h2]; rfl
  · unfold okAt
    have : hasN [p, q] 1 (elAt [p, q] 1).n = false := by
      simp only [hasN, decide_eq_false_iff_not]
      rintro ⟨j, hj, e⟩
      obtain rfl : j = 0 := by omega
      exact hne e
    rw [this]
    show (!false && nameB q.n && in3 q.a q.b q.c M) = true
    rw [h3, h4]; rfl
theorem live_ok {b0 b1 s0 s1 : Int} (hb0 : 1 ≤ b0 ∧ b0 ≤ 256) (hb1 : 1 ≤ b1 ∧ b1 ≤ 256) (hs0 : 0 ≤ s0 ∧ s0 ≤ 255) (hs1 : 0 ≤ s1 ∧ s1 ≤ 255) :
    dueOk [⟨pumpS, b0, b1, 0⟩] [⟨pumpS, s0, s1, 0⟩, ⟨fanS, 0, 0, 0⟩] = true := by
  unfold dueOk
  rw [okB_one (p := ⟨pumpS, b0, b1, 0⟩) name_pump (by simp [in3, inB]; omega), okB_two (p := ⟨pumpS, s0, s1, 0⟩) (q := ⟨fanS, 0, 0, 0⟩) name_pump (by simp [in3, inB]; omega) name_fan (by decide) pump_fan]
  rfl
theorem live_pump {b0 b1 s0 s1 : Int} (hb0 : 1 ≤ b0) (hb1 : 1 ≤ b1) : dueB [⟨pumpS, b0, b1, 0⟩] ⟨pumpS, s0, s1, 0⟩ = decide (b0 ≤ s0 ∨ b1 ≤ s1) := by
  have ha : apart [(⟨pumpS, b0, b1, 0⟩ : Pt)] 1 := fun i j h1 h2 => by omega
  rw [dueB_at (ls := [⟨pumpS, b0, b1, 0⟩]) (s := ⟨pumpS, s0, s1, 0⟩) ha (j := 0) (by simp) rfl]
  show metB b0 b1 0 s0 s1 0 = _
  have e0 : b0 ≠ 0 := by omega
  have e1 : b1 ≠ 0 := by omega
  simp [metB, metAt, of3, e0, e1]
theorem live_fan {b0 b1 : Int} : dueB [⟨pumpS, b0, b1, 0⟩] ⟨fanS, 0, 0, 0⟩ = true := by
  refine dueB_none ?_
  simp only [hasN, decide_eq_false_iff_not]
  rintro ⟨j, hj, e⟩
  obtain rfl : j = 0 := by simp at hj; omega
  exact pump_fan e
theorem sort_one (x : List UInt8) : [x].mergeSort leB = [x] := by simp
theorem sort_two : [pumpS.data.toList, fanS.data.toList].mergeSort leB = [fanS.data.toList, pumpS.data.toList] := by
  rw [mergeSort_of_perm (List.Perm.swap _ _ _)]
  exact List.mergeSort_of_pairwise (by decide +kernel)
theorem live_due {b0 b1 s0 s1 : Int} (hb0 : 1 ≤ b0 ∧ b0 ≤ 256) (hb1 : 1 ≤ b1 ∧ b1 ≤ 256) (hs0 : 0 ≤ s0 ∧ s0 ≤ 255) (hs1 : 0 ≤ s1 ∧ s1 ≤ 255) :
    dueR [⟨pumpS, b0, b1, 0⟩] [⟨pumpS, s0, s1, 0⟩, ⟨fanS, 0, 0, 0⟩] = if b0 ≤ s0 ∨ b1 ≤ s1 then [fanS.data.toList, pumpS.data.toList] else [fanS.data.toList] := by
  rw [dueR_yes (live_ok hb0 hb1 hs0 hs1)]
  unfold dueL
  rw [List.filter_cons, List.filter_cons, List.filter_nil, live_pump hb0.1 hb1.1, live_fan]
  by_cases h : b0 ≤ s0 ∨ b1 ≤ s1
  · rw [if_pos h, decide_eq_true h]
    exact sort_two
  · rw [if_neg h, decide_eq_false h]
    exact sort_one _

end Go.Proofs.Ytnpohiceefkhdac
