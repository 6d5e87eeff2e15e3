/-
  The law FnExactDamped returns true at every list of complex numbers and writes nothing that was there: the walk. No condition.
-/
import Derived.Test.YthdadhebpcndeamCxRow
import Derived.Test.YthdadhebpcndeamDamped
namespace Go.Proofs.Ythdadhebpcndeam
open Go.RowKit

set_option maxHeartbeats 2000000 in
theorem lawDamped (ad : Option Addr) (len cap : Nat) (ps : List (Nat × Nat)) (w : World) (hr : RowC w ad len ps) :
    Calls Try.prog 6 #[.slice ad len cap] w fun e w' => e = .returned (.bool true) ∧ Below w.heap.size w w' := by
  have R := hide hr
  have hm := hr.small
  clear hr
  by_cases g : (1048576 : Int) < len
  · go_enter Try.func6, Try.ntmps6
    go_wp2_with fail
    refine (szCxS_no _ _ _ _ _ (by omega) (by omega) (by omega) (by omega)).mono ?_
    rintro e w' ⟨rfl, hw⟩
    subst w'
    go_wp2_with fail
    go_ret
    exact ⟨rfl, Below.refl _ _⟩
  · have hl : len ≤ 1048576 := by omega
    have hq : (dampN ps != dampN ps) = false := by simp
    have hq2 : (dampB ps != dampB ps) = false := by simp
    go_enter Try.func6, Try.ntmps6
    go_wp2_with fail
    refine (szCxS_yes _ _ _ _ _ (by omega) (by omega)).mono ?_
    rintro e w' ⟨rfl, hw⟩
    subst w'
    go_wp2_with fail
    refine (toCxS_any _ _ _ ps _ (unhide R) hl).mono ?_
    rintro e w1 ⟨rfl, q1, b1⟩
    have B1 := hide b1
    clear b1
    go_wp2_with fail
    refine (specDamped_any _ _ _ ps _ q1).mono ?_
    rintro e w2 ⟨rfl, n2, rfl⟩
    have B2 := hide ((unhide B1).trans (bel0d' n2))
    clear q1
    go_wp2_with fail
    refine (toCxS_any _ _ _ ps _ ((unhide R).below (unhide B2)) hl).mono ?_
    rintro e w3 ⟨rfl, q3, b3⟩
    have B3 := hide ((unhide B2).trans (b3.mono (unhide B2).size))
    have Q3 := hide q3
    clear b3 q3
    go_wp2_with fail
    refine (implDamped_any _ _ _ ps _ (unhide Q3)).mono ?_
    rintro e w4 ⟨rfl, b4⟩
    have B4 := hide ((unhide B3).trans (b4.mono (unhide B3).size))
    have Q4 := hide ((unhide Q3).below b4)
    clear b4 Q3
    go_wp2_with fail
    refine (toCxS_any _ _ _ ps _ ((unhide R).below (unhide B4)) hl).mono ?_
    rintro e w6 ⟨rfl, q6, b6⟩
    have Q6 := hide ((unhide Q4).below b6)
    have B6 := hide ((unhide B4).trans (b6.mono (unhide B4).size))
    have Q7 := hide q6
    clear b6 q6
    go_wp2_with fail
    refine (eqCxS_alike _ _ _ _ _ _ ps ps _ (unhide Q6) (unhide Q7) rfl (fun _ _ => ⟨.refl _ _, .refl _ _⟩)).mono ?_
    rintro e w7 ⟨rfl, b7⟩
    have B7 := hide ((unhide B6).trans (b7.mono (unhide B6).size))
    clear b7
    go_wp2_with fail
    go_ret
    exact ⟨rfl, unhide B7⟩

end Go.Proofs.Ythdadhebpcndeam
