/-
  What the model's DrawFuel answers passes the tests of Order. No program here.
-/
import Derived.Test.YtigpemoicfdfcaaDrawFuel
import Derived.Test.YtigpemoicfdfcaaOrdFacts
namespace Go.Proofs.Ytigpemoicfdfcaa

theorem all3 {a b c lo hi : Int} (ha : lo ≤ a ∧ a ≤ hi) (hb : lo ≤ b ∧ b ≤ hi) (hc : lo ≤ c ∧ c ≤ hi) : allB [a, b, c] lo hi = true := by
  simp only [allB, decide_eq_true_eq]
  intro i hi
  rcases i with _ | _ | _ | i
  · simpa [nth, inB] using ha
  · simpa [nth, inB] using hb
  · simpa [nth, inB] using hc
  · simp at hi; omega
theorem drawn_env {p q r : Int} (hp : 0 ≤ p ∧ p < 300) (hq : 0 ≤ q ∧ q < 20) (hr : 0 ≤ r ∧ r < 20) : envB [1, 400 + p, 2000] [-20, -10 - q, -15] [20, 5 + r, 18] = true := by
  simp only [envB, envSeven, Bool.and_eq_true]
  refine ⟨⟨⟨⟨⟨⟨⟨by simp [inB], by simp⟩, by simp⟩, ?_⟩, all3 (by omega) (by omega) (by omega)⟩, all3 (by omega) (by omega) (by omega)⟩, all3 (by omega) (by omega) (by omega)⟩, ?_⟩
  · simp only [riseB, decide_eq_true_eq]
    intro i hi
    rcases i with _ | _ | i
    · simp [nth]; omega
    · simp [nth]; omega
    · simp at hi; omega
  · refine leB_true fun i hi => ?_
    rcases i with _ | _ | _ | i
    · simp [nth]
    · simp [nth]; omega
    · simp [nth]
    · simp at hi; omega
theorem drawn_dry {m d : Int} (hm : 50 ≤ m ∧ m < 250) (hd : -5 ≤ d ∧ d ≤ 5) : dryB m (m * d) = true := by
  have h := mul_fit (m - 50) (d + 5) (by omega) (by omega)
  have e : (50 + (m - 50)) * (d + 5 - 5) = m * d := by
    have e1 : 50 + (m - 50) = m := by omega
    have e2 : d + 5 - 5 = d := by omega
    rw [e1, e2]
  rw [e] at h
  simp only [dryB, inB, Bool.and_eq_true, decide_eq_true_eq]
  omega
theorem drawn_ok {p q r m d step : Int} {ts : List (Int × Int)} (hp : 0 ≤ p ∧ p < 300) (hq : 0 ≤ q ∧ q < 20) (hr : 0 ≤ r ∧ r < 20) (hm : 50 ≤ m ∧ m < 250) (hd : -5 ≤ d ∧ d ≤ 5) (hl : ts.length ≤ 4) (ht : ∀ j, j < ts.length → itemB (fstAt ts j) (sndAt ts j) = true) (hs : 1 ≤ step ∧ step ≤ 100) :
    orderOk [1, 400 + p, 2000] [-20, -10 - q, -15] [20, 5 + r, 18] m (m * d) step ts = true := by
  simp only [orderOk, Bool.and_eq_true]
  exact ⟨⟨⟨drawn_env hp hq hr, drawn_dry hm hd⟩, tanks_good (by omega) ht⟩, by simp only [inB, decide_eq_true_eq]; omega⟩

end Go.Proofs.Ytigpemoicfdfcaa
