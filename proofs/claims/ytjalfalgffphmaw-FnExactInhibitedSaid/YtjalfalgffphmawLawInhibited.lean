/-
  The law FnExactInhibited returns true at every argument and writes nothing that was there: the walk. No condition.
-/
import Derived.Test.YtjalfalgffphmawWrMark
import Derived.Test.YtjalfalgffphmawWrInh
import Derived.Test.YtjalfalgffphmawStrTo
import Derived.Test.YtjalfalgffphmawWrImpl
namespace Go.Proofs.Ytjalfalgffphmaw
open Go.RowKit
set_option maxRecDepth 20000 in
set_option maxHeartbeats 8000000 in
theorem lawInhibited (la1 : Option Addr) (ll1 lc1 : Nat) (rs : List Wr) (ph : Int) (w : World) (hr : RowW w la1 ll1 rs) :
    Calls Try.prog 4 #[.slice la1 ll1 lc1, .int .i64 ph] w fun x w' => x = .returned (.bool true) ∧ Below w.heap.size w w' := by
  have R0 := hide hr
  have HFI : Hid (∀ i, i < ll1 → wrFit (elAt rs i)) := hide (fun i hi => by obtain ⟨_, _, _, _, _, _, _, _, _, h⟩ := hr.cells i hi; exact h)
  have B : Hid (Below w.heap.size w w) := hide (Below.refl _ _)
  clear hr
  have hq2 : (inhB rs ph != inhB rs ph) = false := by simp
  obtain ⟨ts, hts⟩ : ∃ ts, inhL rs ph = ts := ⟨_, rfl⟩
  have htl : ts.length ≤ 1048576 := by rw [← hts]; exact inhL_small rs ph
  obtain ⟨n, hn⟩ : ∃ n, ts.length = n := ⟨_, rfl⟩
  have HTS := hide hts
  have HN := hide hn
  rw [hn] at htl
  clear hts hn
  go_enter Try.func4, Try.ntmps4
  go_wp2_with fail
  refine (szWarnRuleS_any _ _ _ rs 1048576 _ ((unhide R0).below (unhide B)) (by omega) (by omega)).mono ?_
  rintro x w1 ⟨⟨r1, rfl, hl⟩, b⟩
  have B := hide ((unhide B).trans (b.mono (unhide B).size))
  clear b
  rcases hl with hl | ⟨hl, hle, hl1, hT, hall⟩
  · go_wp2_with fail
    go_ret
    exact ⟨rfl, unhide B⟩
  have nr1 : ¬ r1 < 0 := by omega
  have HA := hide (fun i hi => (hall i hi).1 : ∀ i, i < ll1 → (elAt rs i).q.length ≤ 1048576)
  clear hall
  go_wp2_with fail
  refine (toWarnRuleS_own _ _ _ rs _ ((unhide R0).below (unhide B)) hl1 (unhide HA)).mono ?_
  rintro x w2 ⟨rfl, oc, b⟩
  have B := hide ((unhide B).trans (b.mono (unhide B).size))
  have OX := hide oc
  clear b oc
  go_wp2_with fail
  refine (specInhibited_any _ _ _ rs ph _ ((unhide OX).row (unhide HFI)) hl1).mono ?_
  rintro x w3 ⟨OWa, OWc, rfl, oc, b⟩
  rw [unhide HTS, unhide HN] at oc
  rw [unhide HTS, unhide HN]
  have OX := hide ((unhide OX).below b)
  have B := hide ((unhide B).trans (b.mono (unhide B).size))
  have OW := hide oc
  clear b oc
  clear OX
  go_wp2_with fail
  have LW := hide (fun g hg => ((unhide OW).lies g hg).2 : ∀ g, (Value.slice OWa n OWc).ownBlock = some g → g < w3.heap.size)
  have SB := hide (unhide B).size
  refine (toWarnRuleS_own _ _ _ rs _ ((unhide R0).below (unhide B)) hl1 (unhide HA)).mono ?_
  rintro x w4 ⟨rfl, oc, b⟩
  have OW := hide ((unhide OW).below b)
  have B := hide ((unhide B).trans (b.mono (unhide B).size))
  have OX := hide oc
  clear b oc
  have HBH : Hid (w3.heap.size < w4.heap.size) := hide (unhide OX).lt
  go_wp2_with fail
  refine (implInhibited_any _ _ _ rs ph _ ((unhide OX).row (unhide HFI)) hl1).mono ?_
  rintro x w5 ⟨OGa, OGc, rfl, oc, b⟩
  rw [unhide HTS, unhide HN] at oc
  rw [unhide HTS, unhide HN]
  have OW := hide ((unhide OW).below b)
  have OX := hide ((unhide OX).below b)
  have B := hide ((unhide B).trans (b.mono (unhide B).size))
  have OG := hide oc
  clear b oc
  have LG := hide (fun g hg => ((unhide OG).lies g hg) : ∀ g, (Value.slice OGa n OGc).ownBlock = some g → w4.heap.size ≤ g ∧ g < w5.heap.size)
  go_wp2_with fail
  refine (eqStringS_bel _ _ _ _ _ ts _ (unhide OG).row (unhide OW).row).mono ?_
  rintro x w6 ⟨rfl, b⟩
  have OW := hide ((unhide OW).below b)
  have OX := hide ((unhide OX).below b)
  have OG := hide ((unhide OG).below b)
  have B := hide ((unhide B).trans (b.mono (unhide B).size))
  clear b
  go_wp2_with fail
  refine (toWarnRuleS_own _ _ _ rs _ ((unhide R0).below (unhide B)) hl1 (unhide HA)).mono ?_
  rintro x w7 ⟨rfl, oc, b⟩
  have OW := hide ((unhide OW).below b)
  have OX := hide ((unhide OX).below b)
  have OG := hide ((unhide OG).below b)
  have B := hide ((unhide B).trans (b.mono (unhide B).size))
  have OY := hide oc
  clear b oc
  go_wp2_with fail
  refine (eqWarnRuleS_same _ _ _ _ _ _ rs _ ((unhide OX).row (unhide HFI)) ((unhide OY).row (unhide HFI))).mono ?_
  rintro x w8 ⟨rfl, b⟩
  have OW := hide ((unhide OW).below b)
  have OX := hide ((unhide OX).below b)
  have OG := hide ((unhide OG).below b)
  have OY := hide ((unhide OY).below b)
  have B := hide ((unhide B).trans (b.mono (unhide B).size))
  clear b
  clear OY
  go_wp2_with fail
  refine (markWarnRuleS_own _ _ _ rs 1 _ (unhide OX) (unhide HBH) (by omega) (by omega) (unhide HA) hT).mono ?_
  rintro x w9 ⟨rfl, on⟩
  have OW := hide ((unhide OW).only on (fun g hg => .inl ((unhide LW) g hg)))
  have OG := hide ((unhide OG).only on (fun g hg => .inr ((unhide LG) g hg).1))
  have B := hide (below_only (unhide B) on (unhide SB) (Nat.le_refl _))
  have kk : ¬ (1 + 4 * (ll1 : Int) + (wrTot rs ll1 : Int)) < 0 := by omega
  clear OX on
  go_wp2_with fail
  refine (eqStringS_bel _ _ _ _ _ ts _ (unhide OG).row (unhide OW).row).mono ?_
  rintro x w10 ⟨rfl, b⟩
  have OW := hide ((unhide OW).below b)
  have OG := hide ((unhide OG).below b)
  have B := hide ((unhide B).trans (b.mono (unhide B).size))
  clear b
  go_wp2_with fail
  refine (markStringS_any _ _ _ _ ts 1 _ (unhide OG) (unhide HN) htl (by omega) (by omega)).mono ?_
  rintro x w11 ⟨rfl, og, gr⟩
  have OW := hide ((unhide OW).far gr (fun g hg e => by have a := (unhide LW) g hg; have b := (unhide LG) g e.symm; have c := unhide HBH; omega))
  have B := hide ((unhide B).grown gr (unhide B).size (fun g hg => by have b := (unhide LG) g hg; have c := unhide HBH; have d := unhide SB; omega))
  have OG := hide og
  clear og gr
  go_wp2_with fail
  refine (heldStringS_bel _ _ _ ts 1 _ (unhide OG).row (unhide HN) htl (by omega) (by omega)).mono ?_
  rintro x w12 ⟨rfl, b⟩
  have OW := hide ((unhide OW).below b)
  have OG := hide ((unhide OG).below b)
  have B := hide ((unhide B).trans (b.mono (unhide B).size))
  clear b
  have h1 : ¬ (1 + (n : Int)) < 0 := by omega
  have h2 : ((1 + (n : Int)) != (1 + (n : Int))) = false := by simp
  go_wp2_with fail
  refine (toWarnRuleS_own _ _ _ rs _ ((unhide R0).below (unhide B)) hl1 (unhide HA)).mono ?_
  rintro x w13 ⟨rfl, oc, b⟩
  have OW := hide ((unhide OW).below b)
  have OG := hide ((unhide OG).below b)
  have B := hide ((unhide B).trans (b.mono (unhide B).size))
  have OX := hide oc
  clear b oc
  go_wp2_with fail
  refine (implInhibited_any _ _ _ rs ph _ ((unhide OX).row (unhide HFI)) hl1).mono ?_
  rintro x w14 ⟨OHa, OHc, rfl, oc, b⟩
  rw [unhide HTS, unhide HN] at oc
  rw [unhide HTS, unhide HN]
  have OW := hide ((unhide OW).below b)
  have OG := hide ((unhide OG).below b)
  have OX := hide ((unhide OX).below b)
  have B := hide ((unhide B).trans (b.mono (unhide B).size))
  have OH := hide oc
  clear b oc
  go_wp2_with fail
  refine (eqStringS_bel _ _ _ _ _ ts _ (unhide OH).row (unhide OW).row).mono ?_
  rintro x w15 ⟨rfl, b⟩
  have OW := hide ((unhide OW).below b)
  have OG := hide ((unhide OG).below b)
  have OX := hide ((unhide OX).below b)
  have OH := hide ((unhide OH).below b)
  have B := hide ((unhide B).trans (b.mono (unhide B).size))
  clear b
  go_wp2_with fail
  refine (heldStringS_bel _ _ _ ts 1 _ (unhide OG).row (unhide HN) htl (by omega) (by omega)).mono ?_
  rintro x w16 ⟨rfl, b⟩
  have OW := hide ((unhide OW).below b)
  have OG := hide ((unhide OG).below b)
  have OX := hide ((unhide OX).below b)
  have OH := hide ((unhide OH).below b)
  have B := hide ((unhide B).trans (b.mono (unhide B).size))
  clear b
  have h1 : ¬ (1 + (n : Int)) < 0 := by omega
  have h2 : ((1 + (n : Int)) != (1 + (n : Int))) = false := by simp
  go_wp2_with fail
  go_ret
  exact ⟨rfl, unhide B⟩

end Go.Proofs.Ytjalfalgffphmaw
