/-
  The law FnExactClears returns true at every argument and writes nothing that was there: the walk. No condition.
-/
import Derived.Test.YtkebjipmbgjilakPairPhase
import Derived.Test.YtkebjipmbgjilakPairPeak
import Derived.Test.YtkebjipmbgjilakClears
namespace Go.Proofs.Ytkebjipmbgjilak
open Go.RowKit

set_option maxRecDepth 20000 in
set_option maxHeartbeats 4000000 in
theorem lawClears (start : Int) (ad : Option Addr) (len cap : Nat) (ps : List (Int × Int)) (bd : Option Addr) (len2 cap2 : Nat) (qs : List (Int × Int)) (m : Int) (w : World) (hr : Row2 w ad len ps) (hr2 : Row2 w bd len2 qs) :
    Calls Try.prog 7 #[.int .i64 start, .slice ad len cap, .slice bd len2 cap2, .int .i64 m] w fun e w' => e = .returned (.bool true) ∧ Below w.heap.size w w' := by
  have R := hide hr
  have S := hide hr2
  have hm := hr.small
  have hm2 := hr2.small
  clear hr hr2
  by_cases g : (1048576 : Int) < len
  · go_enter Try.func7, Try.ntmps7
    go_wp2_with fail
    refine (szPhaseS_no _ _ _ _ _ (by omega) (by omega) (by omega) (by omega)).mono ?_
    rintro e w' ⟨rfl, hw⟩
    subst w'
    go_wp2_with fail
    go_ret
    exact ⟨rfl, Below.refl _ _⟩
  have hl : len ≤ 1048576 := by omega
  by_cases g2 : (1048576 : Int) - len < len2
  · go_enter Try.func7, Try.ntmps7
    go_wp2_with fail
    refine (szPhaseS_yes _ _ _ _ _ (by omega) (by omega)).mono ?_
    rintro e w' ⟨rfl, hw⟩
    subst w'
    go_wp2_with fail
    refine (szPeakS_no _ _ _ _ _ (by omega) (by omega) (by omega) (by omega)).mono ?_
    rintro e w' ⟨rfl, hw⟩
    subst w'
    go_wp2_with fail
    go_ret
    exact ⟨rfl, Below.refl _ _⟩
  have hl2 : len2 ≤ 1048576 := by omega
  go_enter Try.func7, Try.ntmps7
  go_wp2_with fail
  refine (szPhaseS_yes _ _ _ _ _ (by omega) (by omega)).mono ?_
  rintro e w' ⟨rfl, hw⟩
  subst w'
  go_wp2_with fail
  refine (szPeakS_yes _ _ _ _ _ (by omega) (by omega)).mono ?_
  rintro e w' ⟨rfl, hw⟩
  subst w'
  go_wp2_with fail
  refine (toPhaseS_any _ _ _ ps _ (unhide R) hl).mono ?_
  rintro e w1 ⟨rfl, q1, b1⟩
  have B1 := hide b1
  have P1 := hide q1
  clear b1 q1
  go_wp2_with fail
  refine (toPeakS_any _ _ _ qs _ ((unhide S).below (unhide B1)) hl2).mono ?_
  rintro e w2 ⟨rfl, q2, b2⟩
  have hs1 : w.heap.size ≤ w1.heap.size := (unhide B1).size
  have B2 := hide ((unhide B1).trans (b2.mono hs1))
  have P2 := hide ((unhide P1).below b2)
  have Q2 := hide q2
  have hs2 : w1.heap.size ≤ w2.heap.size := b2.size
  clear b2 q2
  go_wp2_with fail
  refine (specClears_any start m _ _ _ _ _ _ ps qs _ (unhide P2) (unhide Q2)).mono ?_
  rintro e w3 ⟨rfl, b3⟩
  have hs3 : w2.heap.size ≤ w3.heap.size := b3.size
  have B3 := hide ((unhide B2).trans (b3.mono (by omega)))
  clear b3 P2 Q2 P1
  go_wp2_with fail
  refine (toPhaseS_any _ _ _ ps _ ((unhide R).below (unhide B3)) hl).mono ?_
  rintro e w4 ⟨rfl, q4, b4⟩
  have hs4 : w3.heap.size ≤ w4.heap.size := b4.size
  have B4 := hide ((unhide B3).trans (b4.mono (by omega)))
  have P4 := hide q4
  clear b4 q4
  go_wp2_with fail
  refine (toPeakS_any _ _ _ qs _ ((unhide S).below (unhide B4)) hl2).mono ?_
  rintro e w5 ⟨rfl, q5, b5⟩
  have hs5 : w4.heap.size ≤ w5.heap.size := b5.size
  have B5 := hide ((unhide B4).trans (b5.mono (by omega)))
  have P5 := hide ((unhide P4).below b5)
  have Q5 := hide q5
  clear b5 q5 P4
  go_wp2_with fail
  refine (implClears_any start m _ _ _ _ _ _ ps qs _ (unhide P5) (unhide Q5)).mono ?_
  rintro e w6 ⟨rfl, b6⟩
  have hs6 : w5.heap.size ≤ w6.heap.size := b6.size
  have B6 := hide ((unhide B5).trans (b6.mono (by omega)))
  have P6 := hide ((unhide P5).below b6)
  have Q6 := hide ((unhide Q5).below b6)
  clear b6 P5 Q5
  generalize clearR start ps qs m = V at *
  obtain ⟨v1, v2⟩ := V
  have hq1 : (v1 != v1) = false := by simp
  have hq2 : (v2 != v2) = false := by simp
  go_wp2_with fail
  refine (toPhaseS_any _ _ _ ps _ ((unhide R).below (unhide B6)) hl).mono ?_
  rintro e w7 ⟨rfl, q7, b7⟩
  have hs7 : w6.heap.size ≤ w7.heap.size := b7.size
  have B7 := hide ((unhide B6).trans (b7.mono (by omega)))
  have P7 := hide ((unhide P6).below b7)
  have Q7 := hide ((unhide Q6).below b7)
  have X7 := hide q7
  clear b7 q7 P6 Q6
  go_wp2_with fail
  refine (eqPhaseS_same _ _ _ _ _ _ ps _ (unhide P7) (unhide X7)).mono ?_
  rintro e w8 ⟨rfl, b8⟩
  have hs8 : w7.heap.size ≤ w8.heap.size := b8.size
  have B8 := hide ((unhide B7).trans (b8.mono (by omega)))
  have Q8 := hide ((unhide Q7).below b8)
  clear b8 P7 Q7 X7
  go_wp2_with fail
  refine (toPeakS_any _ _ _ qs _ ((unhide S).below (unhide B8)) hl2).mono ?_
  rintro e w9 ⟨rfl, q9, b9⟩
  have hs9 : w8.heap.size ≤ w9.heap.size := b9.size
  have B9 := hide ((unhide B8).trans (b9.mono (by omega)))
  have Q9 := hide ((unhide Q8).below b9)
  have X9 := hide q9
  clear b9 q9 Q8
  go_wp2_with fail
  refine (eqPeakS_same _ _ _ _ _ _ qs _ (unhide Q9) (unhide X9)).mono ?_
  rintro e wA ⟨rfl, bA⟩
  have BA := hide ((unhide B9).trans (bA.mono (by omega)))
  clear bA Q9 X9
  go_wp2_with fail
  go_ret
  exact ⟨rfl, unhide BA⟩

end Go.Proofs.Ytkebjipmbgjilak
