/-
  The law FnExactMonitor returns true at every list and all numbers and writes nothing that was there: the walk. No condition.
-/
import Derived.Test.YthjaldlnlcjljarMake
import Derived.Test.YthjaldlnlcjljarMonIs
namespace Go.Proofs.Ythjaldlnlcjljar
open Go.RowKit

set_option maxHeartbeats 2000000 in
theorem lawMonitor (ad : Option Addr) (len cap : Nat) (zs : List Int) (lo hi hold : Int) (w : World) (hr : Row w ad len zs) :
    Calls Try.prog 3 #[.slice ad len cap, .int .i64 lo, .int .i64 hi, .int .i64 hold] w fun e w' => e = .returned (.bool true) ∧ Below w.heap.size w w' := by
  have R := hide hr
  have hm := hr.small
  clear hr
  by_cases g : (1048576 : Int) < len
  · go_enter Try.func3, Try.ntmps3
    go_wp2_with fail
    go_ret
    exact ⟨rfl, Below.refl _ _⟩
  · have hl : len ≤ 1048576 := by omega
    have g' : (len : Int) ≤ 1048576 := by omega
    have hq1 : (monI zs lo hi hold != monI zs lo hi hold) = false := by simp
    have hq2 : (monB zs lo hi hold != monB zs lo hi hold) = false := by simp
    have hq3 := eqB_refl zs
    go_enter Try.func3, Try.ntmps3
    go_wp2_with fail
    refine (toIntS_any _ _ _ zs _ (unhide R) hl).mono ?_
    rintro e w1 ⟨rfl, q1, b1⟩
    have B1 := hide b1
    clear b1
    go_wp2_with fail
    refine (specMonitor_any _ _ _ zs lo hi hold _ q1).mono ?_
    rintro e w2 ⟨rfl, n2, rfl⟩
    have B2 := hide ((unhide B1).trans (bel0d' n2))
    clear q1
    go_wp2_with fail
    refine (toIntS_any _ _ _ zs _ ((unhide R).below (unhide B2)) hl).mono ?_
    rintro e w3 ⟨rfl, q3, b3⟩
    have B3 := hide ((unhide B2).trans (b3.mono (unhide B2).size))
    have Q3 := hide q3
    clear b3 q3
    go_wp2_with fail
    refine (implMonitor_any _ _ _ zs lo hi hold _ (unhide Q3)).mono ?_
    rintro e w4 ⟨rfl, n4, rfl⟩
    have B4 := hide ((unhide B3).trans (bel0d' n4))
    have Q4 := hide ((unhide Q3).drewN n4)
    clear Q3
    go_wp2_with fail
    refine (toIntS_any _ _ _ zs _ ((unhide R).below (unhide B4)) hl).mono ?_
    rintro e w6 ⟨rfl, q6, b6⟩
    have Q6 := hide ((unhide Q4).below b6)
    have B6 := hide ((unhide B4).trans (b6.mono (unhide B4).size))
    have Q7 := hide q6
    clear b6 q6
    go_wp2_with fail
    refine (eqIntS_any _ _ _ _ _ _ zs zs _ (unhide Q6) (unhide Q7)).mono ?_
    rintro e w7 ⟨rfl, n7, rfl⟩
    have B7 := hide ((unhide B6).trans (bel0d' n7))
    go_wp2_with fail
    go_ret
    exact ⟨rfl, unhide B7⟩

end Go.Proofs.Ythjaldlnlcjljar
