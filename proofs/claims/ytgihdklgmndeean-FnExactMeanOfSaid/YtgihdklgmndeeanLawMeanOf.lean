/-
  The law FnExactMeanOf returns true at every list of floats and writes nothing that was there: the walk. No condition.
-/
import Derived.Test.YtgihdklgmndeeanRowFl
import Derived.Test.YtgihdklgmndeeanMeanIs
namespace Go.Proofs.Ytgihdklgmndeean
open Go.RowKit

set_option maxHeartbeats 2000000 in
theorem lawMeanOf (ad : Option Addr) (len cap : Nat) (ps : List Nat) (w : World) (hr : RowE 1 flC w ad len ps) :
    Calls Try.prog 5 #[.slice ad len cap] w fun e w' => e = .returned (.bool true) ∧ Below w.heap.size w w' := by
  have R := hide hr
  have hm := hr.small
  clear hr
  by_cases g : (1048576 : Int) < len
  · go_enter Try.func5, Try.ntmps5
    go_wp2_with fail
    go_ret
    exact ⟨rfl, Below.refl _ _⟩
  · have hl : len ≤ 1048576 := by omega
    have hq : (meanN ps != meanN ps) = false := by simp
    have hq2 : (meanB ps != meanB ps) = false := by simp
    go_enter Try.func5, Try.ntmps5
    go_wp2_with fail
    refine (toFloat64S_own _ _ _ ps _ (unhide R) hl).mono ?_
    rintro e w1 ⟨rfl, q1, b1⟩
    have B1 := hide b1
    clear b1
    go_wp2_with fail
    refine (specMeanOf_any _ _ _ ps _ q1.row).mono ?_
    rintro e w2 ⟨x, rfl, hx, b2⟩
    have B2 := hide ((unhide B1).trans (b2.mono (unhide B1).size))
    have X := hide hx
    clear q1 b2 hx
    go_wp2_with fail
    refine (toFloat64S_own _ _ _ ps _ ((unhide R).below (unhide B2)) hl).mono ?_
    rintro e w3 ⟨rfl, q3, b3⟩
    have B3 := hide ((unhide B2).trans (b3.mono (unhide B2).size))
    have Q3 := hide q3.row
    clear b3 q3
    go_wp2_with fail
    refine (implMeanOf_any _ _ _ ps _ (unhide Q3)).mono ?_
    rintro e w4 ⟨y, rfl, hy, b4⟩
    have B4 := hide ((unhide B3).trans (b4.mono (unhide B3).size))
    have Q4 := hide ((unhide Q3).below b4)
    have Y := hide hy
    clear b4 Q3 hy
    go_wp2_with fail
    refine (sameFloat_alike _ _ _ ((unhide Y).trans (unhide X).symm)).mono ?_
    rintro e w5 ⟨rfl, n5, rfl⟩
    have B5 := hide ((unhide B4).trans (bel0d' n5))
    have Q5 := hide ((unhide Q4).drewN n5)
    go_wp2_with fail
    refine (toFloat64S_own _ _ _ ps _ ((unhide R).below (unhide B5)) hl).mono ?_
    rintro e w6 ⟨rfl, q6, b6⟩
    have Q6 := hide ((unhide Q5).below b6)
    have B6 := hide ((unhide B5).trans (b6.mono (unhide B5).size))
    have Q7 := hide q6.row
    clear b6 q6
    go_wp2_with fail
    refine (eqFloat64S_alike _ _ _ _ _ _ ps ps _ (unhide Q6) (unhide Q7) rfl (fun _ _ => .refl _ _)).mono ?_
    rintro e w7 ⟨rfl, b7⟩
    have B7 := hide ((unhide B6).trans (b7.mono (unhide B6).size))
    clear b7
    go_wp2_with fail
    go_ret
    exact ⟨rfl, unhide B7⟩

end Go.Proofs.Ytgihdklgmndeean
