/-
  The law FnExactRecordOk returns true at every argument and writes nothing that was there: the walk. No condition.
-/
import Derived.Test.YthdnokilfmbgobcRcOk
import Derived.Test.YthdnokilfmbgobcOwnSS
import Derived.Deep.RegionHeld3
namespace Go.Proofs.Ythdnokilfmbgobc
open Go.RowKit
set_option maxRecDepth 20000 in
set_option maxHeartbeats 8000000 in
theorem lawRecordOk (sa1 : Option Addr) (sl1 sc1 : Nat) (zss : List (List Int)) (w : World) (hrs : RowS w sa1 sl1 zss)  :
    Calls Try.prog 5 #[.slice sa1 sl1 sc1] w fun x w' => x = .returned (.bool true) ∧ Below w.heap.size w w' := by
  have Rs := hide hrs
  have sms1 := hrs.small
  have Es1 := hide hrs.len_eq
  clear hrs
  have hq : (rcB zss != rcB zss) = false := by simp
  go_enter Try.func5, Try.ntmps5
  go_wp2_with fail
  have K : Hid (Below w.heap.size w w) := hide (Below.refl _ _)
  have KEPT : Hid (∀ W u3, (Below w.heap.size w W) → Below W.heap.size W u3 → (Below w.heap.size w u3)) := hide (fun W u3 h b => h.trans (b.mono h.size))
  refine (szIntSS_tot _ _ _ _ 1048576 _ ((unhide Rs).below (unhide K)) (by omega) (by omega)).mono ?_
  rintro x w1 ⟨⟨r1, rfl, hl⟩, hw⟩
  have b : Below w.heap.size w w1 := by rw [hw]; exact Below.refl _ _
  clear hw
  have S0 : Hid (w.heap.size ≤ w1.heap.size) := hide b.size
  have K : Hid (Below w.heap.size w w1) := hide ((unhide KEPT) _ _ (unhide K) b)
  clear b
  rcases hl with hl | ⟨hl, hle, hs1, hTs, hall⟩
  · go_wp2_with fail
    go_ret
    exact ⟨rfl, (unhide K)⟩
  have nr1 : ¬ r1 < 0 := by omega
  have HAs := hide hall
  clear hall
  go_wp2_with fail
  obtain ⟨g2, hg2⟩ : ∃ G, w1.heap.size = G := ⟨_, rfl⟩
  refine (toIntSS_own _ _ _ _ _ ((unhide Rs).below (unhide K)) hs1 (unhide HAs)).mono ?_
  rintro x w2 ⟨rfl, oc, b⟩
  rw [hg2] at oc ⊢
  have Bg2 := hide hg2
  clear hg2
  have S1 : Hid (w1.heap.size = g2) := hide (unhide Bg2)
  have S2 : Hid (w1.heap.size ≤ w2.heap.size) := hide b.size
  have K : Hid (Below w.heap.size w w2) := hide ((unhide KEPT) _ _ (unhide K) b)
  have K : Hid (Below w.heap.size w w2 ∧ OwnSS w2 g2 w2.heap.size sl1 zss) := hide ⟨(unhide K), oc⟩
  clear KEPT oc b
  have KEPT : Hid (∀ W u3, (Below w.heap.size w W ∧ OwnSS W g2 w2.heap.size sl1 zss) → Below W.heap.size W u3 → (Below w.heap.size w u3 ∧ OwnSS u3 g2 w2.heap.size sl1 zss)) := hide (fun W u3 h b => ⟨h.1.trans (b.mono h.1.size), h.2.below b⟩)
  go_wp2_with fail
  refine (specRecordOk_any _ _ _ _ _ (unhide K).2.row ).mono ?_
  rintro x w3 ⟨rfl, b⟩
  have S3 : Hid (w2.heap.size ≤ w3.heap.size) := hide b.size
  have K : Hid (Below w.heap.size w w3 ∧ OwnSS w3 g2 w2.heap.size sl1 zss) := hide ((unhide KEPT) _ _ (unhide K) b)
  clear b
  have K : Hid (Below w.heap.size w w3) := hide (unhide K).1
  clear KEPT
  have KEPT : Hid (∀ W u3, (Below w.heap.size w W) → Below W.heap.size W u3 → (Below w.heap.size w u3)) := hide (fun W u3 h b => h.trans (b.mono h.size))
  go_wp2_with fail
  obtain ⟨g3, hg3⟩ : ∃ G, w3.heap.size = G := ⟨_, rfl⟩
  refine (toIntSS_own _ _ _ _ _ ((unhide Rs).below (unhide K)) hs1 (unhide HAs)).mono ?_
  rintro x w4 ⟨rfl, oc, b⟩
  rw [hg3] at oc ⊢
  have Bg3 := hide hg3
  clear hg3
  have S4 : Hid (w3.heap.size = g3) := hide (unhide Bg3)
  have S5 : Hid (w3.heap.size ≤ w4.heap.size) := hide b.size
  have K : Hid (Below w.heap.size w w4) := hide ((unhide KEPT) _ _ (unhide K) b)
  have K : Hid (Below w.heap.size w w4 ∧ OwnSS w4 g3 w4.heap.size sl1 zss) := hide ⟨(unhide K), oc⟩
  clear KEPT oc b
  have KEPT : Hid (∀ W u3, (Below w.heap.size w W ∧ OwnSS W g3 w4.heap.size sl1 zss) → Below W.heap.size W u3 → (Below w.heap.size w u3 ∧ OwnSS u3 g3 w4.heap.size sl1 zss)) := hide (fun W u3 h b => ⟨h.1.trans (b.mono h.1.size), h.2.below b⟩)
  go_wp2_with fail
  refine (implRecordOk_any _ _ _ _ _ (unhide K).2.row ).mono ?_
  rintro x w5 ⟨rfl, b⟩
  have S6 : Hid (w4.heap.size ≤ w5.heap.size) := hide b.size
  have K : Hid (Below w.heap.size w w5 ∧ OwnSS w5 g3 w4.heap.size sl1 zss) := hide ((unhide KEPT) _ _ (unhide K) b)
  clear b
  go_wp2_with fail
  obtain ⟨g4, hg4⟩ : ∃ G, w5.heap.size = G := ⟨_, rfl⟩
  refine (toIntSS_own _ _ _ _ _ ((unhide Rs).below (unhide K).1) hs1 (unhide HAs)).mono ?_
  rintro x w6 ⟨rfl, oc, b⟩
  rw [hg4] at oc ⊢
  have Bg4 := hide hg4
  clear hg4
  have S7 : Hid (w5.heap.size = g4) := hide (unhide Bg4)
  have IC := hide oc.row
  have S8 : Hid (w5.heap.size ≤ w6.heap.size) := hide b.size
  have K : Hid (Below w.heap.size w w6 ∧ OwnSS w6 g3 w4.heap.size sl1 zss) := hide ((unhide KEPT) _ _ (unhide K) b)
  clear oc b
  go_wp2_with fail
  refine (eqIntSS_same _ _ _ _ _ _ _ _ (unhide K).2.row (unhide IC)).mono ?_
  rintro x w7 ⟨rfl, b⟩
  have S9 : Hid (w6.heap.size ≤ w7.heap.size) := hide b.size
  have K : Hid (Below w.heap.size w w7 ∧ OwnSS w7 g3 w4.heap.size sl1 zss) := hide ((unhide KEPT) _ _ (unhide K) b)
  clear b IC
  go_wp2_with fail
  go_ret
  exact ⟨rfl, (unhide K).1⟩
end Go.Proofs.Ythdnokilfmbgobc
