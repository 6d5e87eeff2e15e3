/-
  The law FnExactRulesOk returns true at every argument and writes nothing that was there: the walk. No condition.
-/
import Derived.Test.YtjalfalgffphmavWrOwn
import Derived.Test.YtjalfalgffphmavWrOk
import Derived.Test.YtjalfalgffphmavWrImpl
namespace Go.Proofs.Ytjalfalgffphmav
open Go.RowKit
set_option maxRecDepth 20000 in
set_option maxHeartbeats 8000000 in
theorem lawRulesOk (la1 : Option Addr) (ll1 lc1 : Nat) (rs : List Wr) (w : World) (hr : RowW w la1 ll1 rs) :
    Calls Try.prog 8 #[.slice la1 ll1 lc1] w fun x w' => x = .returned (.bool true) ∧ Below w.heap.size w w' := by
  have R := hide hr
  have HFI : Hid (∀ i, i < ll1 → wrFit (elAt rs i)) := hide (fun i hi => by obtain ⟨_, _, _, _, _, _, _, _, _, h⟩ := hr.cells i hi; exact h)
  have B : Hid (Below w.heap.size w w) := hide (Below.refl _ _)
  clear hr
  have hq : (wrB rs != wrB rs) = false := by simp
  go_enter Try.func8, Try.ntmps8
  go_wp2_with fail
  refine (szWarnRuleS_any _ _ _ rs 1048576 _ (unhide R) (by omega) (by omega)).mono ?_
  rintro x w1 ⟨⟨r1, rfl, hl⟩, b⟩
  have R := hide ((unhide R).below b)
  have B := hide ((unhide B).trans (b.mono (unhide B).size))
  clear b
  rcases hl with hl | ⟨hl, hle, hl1, hT, hall⟩
  · go_wp2_with fail
    go_ret
    exact ⟨rfl, unhide B⟩
  have nr1 : ¬ r1 < 0 := by omega
  have HA := hide (fun i hi => (hall i hi).1 : ∀ i, i < ll1 → (elAt rs i).q.length ≤ 1048576)
  clear hall hT
  go_wp2_with fail
  refine (toWarnRuleS_own _ _ _ rs _ (unhide R) hl1 (unhide HA)).mono ?_
  rintro x w2 ⟨rfl, oc, b⟩
  have R := hide ((unhide R).below b)
  have B := hide ((unhide B).trans (b.mono (unhide B).size))
  have OX := hide oc
  clear b oc
  go_wp2_with fail
  refine (specRulesOk_any _ _ _ rs _ ((unhide OX).row (unhide HFI)) hl1).mono ?_
  rintro x w3 ⟨rfl, b⟩
  have R := hide ((unhide R).below b)
  have OX := hide ((unhide OX).below b)
  have B := hide ((unhide B).trans (b.mono (unhide B).size))
  clear b
  clear OX
  go_wp2_with fail
  refine (toWarnRuleS_own _ _ _ rs _ (unhide R) hl1 (unhide HA)).mono ?_
  rintro x w4 ⟨rfl, oc, b⟩
  have R := hide ((unhide R).below b)
  have B := hide ((unhide B).trans (b.mono (unhide B).size))
  have OX := hide oc
  clear b oc
  go_wp2_with fail
  refine (implRulesOk_any _ _ _ rs _ ((unhide OX).row (unhide HFI)) hl1).mono ?_
  rintro x w5 ⟨rfl, b⟩
  have R := hide ((unhide R).below b)
  have OX := hide ((unhide OX).below b)
  have B := hide ((unhide B).trans (b.mono (unhide B).size))
  clear b
  go_wp2_with fail
  refine (toWarnRuleS_own _ _ _ rs _ (unhide R) hl1 (unhide HA)).mono ?_
  rintro x w6 ⟨rfl, oc, b⟩
  have R := hide ((unhide R).below b)
  have OX := hide ((unhide OX).below b)
  have B := hide ((unhide B).trans (b.mono (unhide B).size))
  have OY := hide oc
  clear b oc
  go_wp2_with fail
  refine (eqWarnRuleS_same _ _ _ _ _ _ rs _ ((unhide OX).row (unhide HFI)) ((unhide OY).row (unhide HFI))).mono ?_
  rintro x w7 ⟨rfl, b⟩
  have R := hide ((unhide R).below b)
  have OX := hide ((unhide OX).below b)
  have OY := hide ((unhide OY).below b)
  have B := hide ((unhide B).trans (b.mono (unhide B).size))
  clear b
  go_wp2_with fail
  go_ret
  exact ⟨rfl, unhide B⟩

end Go.Proofs.Ytjalfalgffphmav
