/-
  The law FnExactCarryOk returns true at every argument and writes nothing that was there: the walk. No condition.
-/
import Derived.Test.YtilahgifaglekbbCaSpec
import Derived.Test.YtilahgifaglekbbCaImp
import Derived.Test.YtilahgifaglekbbTxCr
import Derived.Test.YtilahgifaglekbbOnly
import Derived.Deep.RegionHeld3
namespace Go.Proofs.Ytilahgifaglekbb
open Go.RowKit
set_option maxRecDepth 20000 in
set_option maxHeartbeats 8000000 in
theorem lawCarryOk (da1 : Option Addr) (dl1 dc1 : Nat) (cs : List Cr) (w : World) (hrd : RowE 3 crC w da1 dl1 cs) (hfc : ∀ i, fitT (elAt cs i).n) :
    Calls Try.prog 6 #[.slice da1 dl1 dc1] w fun x w' => x = .returned (.bool true) ∧ Below w.heap.size w w' := by
  have Rd := hide hrd
  have smd1 := hrd.small
  have Ed1 := hide hrd.len_eq
  clear hrd
  have HFC := hide hfc
  clear hfc
  have hq : (caB cs != caB cs) = false := by simp
  go_enter Try.func6, Try.ntmps6
  go_wp2_with fail
  have K : Hid (Below w.heap.size w w) := hide (Below.refl _ _)
  have KEPT : Hid (∀ W u3, (Below w.heap.size w W) → Below W.heap.size W u3 → (Below w.heap.size w u3)) := hide (fun W u3 h b => h.trans (b.mono h.size))
  refine (szCarryS_any _ _ _ _ 1048576 _ ((unhide Rd).below (unhide K)) (unhide HFC) (by omega) (by omega)).mono ?_
  rintro x w1 ⟨⟨r1, rfl, hl⟩, b⟩
  have S0 : Hid (w.heap.size ≤ w1.heap.size) := hide b.size
  have K : Hid (Below w.heap.size w w1) := hide ((unhide KEPT) _ _ (unhide K) b)
  clear b
  rcases hl with hl | ⟨hl, hle, hd1⟩
  · go_wp2_with fail
    go_ret
    exact ⟨rfl, (unhide K)⟩
  have nr1 : ¬ r1 < 0 := by omega
  go_wp2_with fail
  obtain ⟨g2, hg2⟩ : ∃ G, w1.heap.size = G := ⟨_, rfl⟩
  refine (toCarryS_own _ _ _ _ _ ((unhide Rd).below (unhide K)) hd1).mono ?_
  rintro x w2 ⟨rfl, oc, b⟩
  rw [hg2] at oc ⊢
  have Bg2 := hide hg2
  clear hg2
  have LT2 : Hid (∀ g, (Value.slice (some ⟨g2, 0, none⟩) dl1 dl1).ownBlock = some g → w1.heap.size ≤ g ∧ g < w2.heap.size) := hide (by have e := unhide Bg2; have l := oc.lies; rw [← e] at l ⊢; exact l)
  have S1 : Hid (w1.heap.size ≤ w2.heap.size) := hide b.size
  have K : Hid (Below w.heap.size w w2) := hide ((unhide KEPT) _ _ (unhide K) b)
  have K : Hid (Below w.heap.size w w2 ∧ OwnE 3 crC w2 w1.heap.size 75 (.slice (some ⟨g2, 0, none⟩) dl1 dl1) cs) := hide ⟨(unhide K), (by have e := unhide Bg2; rw [e]; exact oc)⟩
  clear KEPT oc b
  have KEPT : Hid (∀ W u3, (Below w.heap.size w W ∧ OwnE 3 crC W w1.heap.size 75 (.slice (some ⟨g2, 0, none⟩) dl1 dl1) cs) → Below W.heap.size W u3 → (Below w.heap.size w u3 ∧ OwnE 3 crC u3 w1.heap.size 75 (.slice (some ⟨g2, 0, none⟩) dl1 dl1) cs)) := hide (fun W u3 h b => ⟨h.1.trans (b.mono h.1.size), h.2.below b⟩)
  go_wp2_with fail
  refine (specCarryOk_any _ _ _ _ _ (unhide K).2.row (unhide HFC)).mono ?_
  rintro x w3 ⟨rfl, b⟩
  have S2 : Hid (w2.heap.size ≤ w3.heap.size) := hide b.size
  have K : Hid (Below w.heap.size w w3 ∧ OwnE 3 crC w3 w1.heap.size 75 (.slice (some ⟨g2, 0, none⟩) dl1 dl1) cs) := hide ((unhide KEPT) _ _ (unhide K) b)
  clear b
  have K : Hid (Below w.heap.size w w3) := hide (unhide K).1
  clear KEPT
  have KEPT : Hid (∀ W u3, (Below w.heap.size w W) → Below W.heap.size W u3 → (Below w.heap.size w u3)) := hide (fun W u3 h b => h.trans (b.mono h.size))
  go_wp2_with fail
  obtain ⟨g3, hg3⟩ : ∃ G, w3.heap.size = G := ⟨_, rfl⟩
  refine (toCarryS_own _ _ _ _ _ ((unhide Rd).below (unhide K)) hd1).mono ?_
  rintro x w4 ⟨rfl, oc, b⟩
  rw [hg3] at oc ⊢
  have Bg3 := hide hg3
  clear hg3
  have LXx0 : Hid (∀ g, (Value.slice (some ⟨g3, 0, none⟩) dl1 dl1).ownBlock = some g → w3.heap.size ≤ g ∧ g < w4.heap.size) := hide (by have e := unhide Bg3; have l := oc.lies; rw [← e] at l ⊢; exact l)
  have S3 : Hid (w3.heap.size ≤ w4.heap.size) := hide b.size
  have K : Hid (Below w.heap.size w w4) := hide ((unhide KEPT) _ _ (unhide K) b)
  have K : Hid (Below w.heap.size w w4 ∧ OwnE 3 crC w4 w3.heap.size 75 (.slice (some ⟨g3, 0, none⟩) dl1 dl1) cs) := hide ⟨(unhide K), (by have e := unhide Bg3; rw [e]; exact oc)⟩
  clear KEPT oc b
  have KEPT : Hid (∀ W u3, (Below w.heap.size w W ∧ OwnE 3 crC W w3.heap.size 75 (.slice (some ⟨g3, 0, none⟩) dl1 dl1) cs) → Below W.heap.size W u3 → (Below w.heap.size w u3 ∧ OwnE 3 crC u3 w3.heap.size 75 (.slice (some ⟨g3, 0, none⟩) dl1 dl1) cs)) := hide (fun W u3 h b => ⟨h.1.trans (b.mono h.1.size), h.2.below b⟩)
  go_wp2_with fail
  refine (implCarryOk_any _ _ _ _ _ (unhide K).2.row (unhide HFC)).mono ?_
  rintro x w5 ⟨rfl, b⟩
  have S4 : Hid (w4.heap.size ≤ w5.heap.size) := hide b.size
  have K : Hid (Below w.heap.size w w5 ∧ OwnE 3 crC w5 w3.heap.size 75 (.slice (some ⟨g3, 0, none⟩) dl1 dl1) cs) := hide ((unhide KEPT) _ _ (unhide K) b)
  clear b
  go_wp2_with fail
  obtain ⟨g4, hg4⟩ : ∃ G, w5.heap.size = G := ⟨_, rfl⟩
  refine (toCarryS_own _ _ _ _ _ ((unhide Rd).below (unhide K).1) hd1).mono ?_
  rintro x w6 ⟨rfl, oc, b⟩
  rw [hg4] at oc ⊢
  have Bg4 := hide hg4
  clear hg4
  have IC := hide oc.row
  have S5 : Hid (w5.heap.size ≤ w6.heap.size) := hide b.size
  have K : Hid (Below w.heap.size w w6 ∧ OwnE 3 crC w6 w3.heap.size 75 (.slice (some ⟨g3, 0, none⟩) dl1 dl1) cs) := hide ((unhide KEPT) _ _ (unhide K) b)
  clear oc b
  go_wp2_with fail
  refine (eqCarryS_same _ _ _ _ _ _ _ _ (unhide K).2.row (unhide IC)).mono ?_
  rintro x w7 ⟨rfl, b⟩
  have S6 : Hid (w6.heap.size ≤ w7.heap.size) := hide b.size
  have K : Hid (Below w.heap.size w w7 ∧ OwnE 3 crC w7 w3.heap.size 75 (.slice (some ⟨g3, 0, none⟩) dl1 dl1) cs) := hide ((unhide KEPT) _ _ (unhide K) b)
  clear b IC
  go_wp2_with fail
  go_ret
  exact ⟨rfl, (unhide K).1⟩
end Go.Proofs.Ytilahgifaglekbb
