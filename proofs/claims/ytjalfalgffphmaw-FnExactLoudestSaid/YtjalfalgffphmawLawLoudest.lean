/-
  The law FnExactLoudest returns true at every argument and writes nothing that was there: the walk. No condition.
-/
import Derived.Test.YtjalfalgffphmawWrOwn
import Derived.Test.YtjalfalgffphmawWrLou
import Derived.Test.YtjalfalgffphmawStrTo
import Derived.Test.YtjalfalgffphmawWrImpl
namespace Go.Proofs.Ytjalfalgffphmaw
open Go.RowKit
set_option maxRecDepth 20000 in
set_option maxHeartbeats 8000000 in
theorem lawLoudest (la1 : Option Addr) (ll1 lc1 : Nat) (rs : List Wr) (ta1 : Option Addr) (tl1 tc1 : Nat) (ts : List ByteArray) (w : World) (hr : RowW w la1 ll1 rs) (hr2 : RowE 1 stC w ta1 tl1 ts ∧ ∀ i, i < tl1 → (elAt ts i).size ≤ 9223372036854775807) :
    Calls Try.prog 5 #[.slice la1 ll1 lc1, .slice ta1 tl1 tc1] w fun x w' => x = .returned (.bool true) ∧ Below w.heap.size w w' := by
  have R := hide hr
  have HFI : Hid (∀ i, i < ll1 → wrFit (elAt rs i)) := hide (fun i hi => by obtain ⟨_, _, _, _, _, _, _, _, _, h⟩ := hr.cells i hi; exact h)
  have B : Hid (Below w.heap.size w w) := hide (Below.refl _ _)
  clear hr
  have T := hide hr2.1
  have HF2 := hide hr2.2
  clear hr2
  have hq : (loR rs ts != loR rs ts) = false := by simp
  have hq2 : (loB rs ts != loB rs ts) = false := by simp
  go_enter Try.func5, Try.ntmps5
  go_wp2_with fail
  refine (szWarnRuleS_any _ _ _ rs 1048576 _ (unhide R) (by omega) (by omega)).mono ?_
  rintro x w1 ⟨⟨r1, rfl, hl⟩, b⟩
  have R := hide ((unhide R).below b)
  have T := hide ((unhide T).below b)
  have B := hide ((unhide B).trans (b.mono (unhide B).size))
  clear b
  rcases hl with hl | ⟨hl, hle, hl1, hT, hall⟩
  · go_wp2_with fail
    go_ret
    exact ⟨rfl, unhide B⟩
  have nr1 : ¬ r1 < 0 := by omega
  have HA := hide (fun i hi => (hall i hi).1 : ∀ i, i < ll1 → (elAt rs i).q.length ≤ 1048576)
  clear hall hT
  go_wp2_with fail
  refine (szStringS_any _ _ _ ts r1 _ (unhide T) (unhide HF2) (by omega) (by omega)).mono ?_
  rintro x w' ⟨⟨r2, rfl, hm⟩, hw⟩
  subst w'
  rcases hm with hm | ⟨hm, hme, hm1⟩
  · go_wp2_with fail
    go_ret
    exact ⟨rfl, unhide B⟩
  have nr2 : ¬ r2 < 0 := by omega
  go_wp2_with fail
  refine (toWarnRuleS_own _ _ _ rs _ (unhide R) hl1 (unhide HA)).mono ?_
  rintro x w2 ⟨rfl, oc, b⟩
  have R := hide ((unhide R).below b)
  have T := hide ((unhide T).below b)
  have B := hide ((unhide B).trans (b.mono (unhide B).size))
  have OX := hide oc
  clear b oc
  go_wp2_with fail
  refine (toStringS_own _ _ _ ts _ (unhide T) hm1).mono ?_
  rintro x w3 ⟨rfl, oc, b⟩
  have R := hide ((unhide R).below b)
  have T := hide ((unhide T).below b)
  have OX := hide ((unhide OX).below b)
  have B := hide ((unhide B).trans (b.mono (unhide B).size))
  have OT := hide oc
  clear b oc
  go_wp2_with fail
  refine (specLoudest_any _ _ _ rs _ _ _ ts _ ((unhide OX).row (unhide HFI)) hl1 (unhide OT).row).mono ?_
  rintro x w4 ⟨rfl, b⟩
  have R := hide ((unhide R).below b)
  have T := hide ((unhide T).below b)
  have OX := hide ((unhide OX).below b)
  have OT := hide ((unhide OT).below b)
  have B := hide ((unhide B).trans (b.mono (unhide B).size))
  clear b
  clear OX
  clear OT
  go_wp2_with fail
  refine (toWarnRuleS_own _ _ _ rs _ (unhide R) hl1 (unhide HA)).mono ?_
  rintro x w5 ⟨rfl, oc, b⟩
  have R := hide ((unhide R).below b)
  have T := hide ((unhide T).below b)
  have B := hide ((unhide B).trans (b.mono (unhide B).size))
  have OX := hide oc
  clear b oc
  go_wp2_with fail
  refine (toStringS_own _ _ _ ts _ (unhide T) hm1).mono ?_
  rintro x w6 ⟨rfl, oc, b⟩
  have R := hide ((unhide R).below b)
  have T := hide ((unhide T).below b)
  have OX := hide ((unhide OX).below b)
  have B := hide ((unhide B).trans (b.mono (unhide B).size))
  have OT := hide oc
  clear b oc
  go_wp2_with fail
  refine (implLoudest_any _ _ _ rs _ _ _ ts _ ((unhide OX).row (unhide HFI)) (unhide OT).row (unhide HF2)).mono ?_
  rintro x w7 ⟨rfl, b⟩
  have R := hide ((unhide R).below b)
  have T := hide ((unhide T).below b)
  have OX := hide ((unhide OX).below b)
  have OT := hide ((unhide OT).below b)
  have B := hide ((unhide B).trans (b.mono (unhide B).size))
  clear b
  go_wp2_with fail
  refine (toWarnRuleS_own _ _ _ rs _ (unhide R) hl1 (unhide HA)).mono ?_
  rintro x w8 ⟨rfl, oc, b⟩
  have R := hide ((unhide R).below b)
  have T := hide ((unhide T).below b)
  have OX := hide ((unhide OX).below b)
  have OT := hide ((unhide OT).below b)
  have B := hide ((unhide B).trans (b.mono (unhide B).size))
  have OY := hide oc
  clear b oc
  go_wp2_with fail
  refine (eqWarnRuleS_same _ _ _ _ _ _ rs _ ((unhide OX).row (unhide HFI)) ((unhide OY).row (unhide HFI))).mono ?_
  rintro x w9 ⟨rfl, b⟩
  have R := hide ((unhide R).below b)
  have T := hide ((unhide T).below b)
  have OX := hide ((unhide OX).below b)
  have OT := hide ((unhide OT).below b)
  have OY := hide ((unhide OY).below b)
  have B := hide ((unhide B).trans (b.mono (unhide B).size))
  clear b
  go_wp2_with fail
  refine (toStringS_own _ _ _ ts _ (unhide T) hm1).mono ?_
  rintro x w10 ⟨rfl, oc, b⟩
  have R := hide ((unhide R).below b)
  have T := hide ((unhide T).below b)
  have OX := hide ((unhide OX).below b)
  have OT := hide ((unhide OT).below b)
  have OY := hide ((unhide OY).below b)
  have B := hide ((unhide B).trans (b.mono (unhide B).size))
  have OS := hide oc
  clear b oc
  go_wp2_with fail
  refine (eqStringS_bel _ _ _ _ _ ts _ (unhide OT).row (unhide OS).row).mono ?_
  rintro x w11 ⟨rfl, b⟩
  have R := hide ((unhide R).below b)
  have T := hide ((unhide T).below b)
  have OX := hide ((unhide OX).below b)
  have OT := hide ((unhide OT).below b)
  have OY := hide ((unhide OY).below b)
  have OS := hide ((unhide OS).below b)
  have B := hide ((unhide B).trans (b.mono (unhide B).size))
  clear b
  go_wp2_with fail
  go_ret
  exact ⟨rfl, unhide B⟩

end Go.Proofs.Ytjalfalgffphmaw
