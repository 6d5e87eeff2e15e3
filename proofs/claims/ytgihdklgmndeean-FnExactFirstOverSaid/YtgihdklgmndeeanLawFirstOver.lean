/-
  The law FnExactFirstOver returns true at every list of motions and every speed and writes nothing that was there: the walk. No condition.
-/
import Derived.Test.YtgihdklgmndeeanRowMo
import Derived.Test.YtgihdklgmndeeanFirstIs
namespace Go.Proofs.Ytgihdklgmndeean
open Go.RowKit

set_option maxHeartbeats 2000000 in
theorem lawFirstOver (ad : Option Addr) (len cap : Nat) (ps : List Mo) (sp : Nat) (w : World) (hr : RowE 4 moC w ad len ps) :
    Calls Try.prog 7 #[.slice ad len cap, .float .f64 sp] w fun e w' => e = .returned (.bool true) ∧ Below w.heap.size w w' := by
  have R := hide hr
  have hm := hr.small
  clear hr
  by_cases g : (1048576 : Int) < len
  · go_enter Try.func7, Try.ntmps7
    go_wp2_with fail
    refine (szMotionS_no _ _ _ _ _ (by omega) (by omega) (by omega) (by omega)).mono ?_
    rintro e w' ⟨rfl, hw⟩
    subst w'
    go_wp2_with fail
    go_ret
    exact ⟨rfl, Below.refl _ _⟩
  · have hl : len ≤ 1048576 := by omega
    have hq : (firstN ps sp != firstN ps sp) = false := by simp
    go_enter Try.func7, Try.ntmps7
    go_wp2_with fail
    refine (szMotionS_yes _ _ _ _ _ (by omega) (by omega)).mono ?_
    rintro e w' ⟨rfl, hw⟩
    subst w'
    go_wp2_with fail
    refine (toMotionS_own _ _ _ ps _ (unhide R) hl).mono ?_
    rintro e w1 ⟨rfl, q1, b1⟩
    have B1 := hide b1
    clear b1
    go_wp2_with fail
    refine (specFirstOver_any _ _ _ ps sp _ q1.row).mono ?_
    rintro e w2 ⟨rfl, b2⟩
    have B2 := hide ((unhide B1).trans (b2.mono (unhide B1).size))
    clear q1 b2
    go_wp2_with fail
    refine (toMotionS_own _ _ _ ps _ ((unhide R).below (unhide B2)) hl).mono ?_
    rintro e w3 ⟨rfl, q3, b3⟩
    have B3 := hide ((unhide B2).trans (b3.mono (unhide B2).size))
    have Q3 := hide q3.row
    clear b3 q3
    go_wp2_with fail
    refine (implFirstOver_any _ _ _ ps sp _ (unhide Q3)).mono ?_
    rintro e w4 ⟨rfl, b4⟩
    have B4 := hide ((unhide B3).trans (b4.mono (unhide B3).size))
    have Q4 := hide ((unhide Q3).below b4)
    clear b4 Q3
    go_wp2_with fail
    refine (toMotionS_own _ _ _ ps _ ((unhide R).below (unhide B4)) hl).mono ?_
    rintro e w6 ⟨rfl, q6, b6⟩
    have Q6 := hide ((unhide Q4).below b6)
    have B6 := hide ((unhide B4).trans (b6.mono (unhide B4).size))
    have Q7 := hide q6.row
    clear b6 q6
    go_wp2_with fail
    refine (eqMotionS_alike _ _ _ _ _ _ ps ps _ (unhide Q6) (unhide Q7) rfl (fun _ _ => moAlike_refl _)).mono ?_
    rintro e w7 ⟨rfl, b7⟩
    have B7 := hide ((unhide B6).trans (b7.mono (unhide B6).size))
    clear b7
    go_wp2_with fail
    go_ret
    exact ⟨rfl, unhide B7⟩

end Go.Proofs.Ytgihdklgmndeean
