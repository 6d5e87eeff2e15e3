/-
  The law FnExactGap16 returns true at every argument and writes nothing that was there: the walk. No condition.
-/
import Derived.Test.YtnhcmokkankcmazBuAny
import Derived.Test.YtnhcmokkankcmazOnly
import Derived.Deep.RegionHeld3
namespace Go.Proofs.Ytnhcmokkankcmaz
open Go.RowKit
set_option maxRecDepth 20000 in
set_option maxHeartbeats 8000000 in
theorem lawGap16 (da1 : Option Addr) (dl1 dc1 : Nat) (gs : List Int) (link : Int) (w : World) (hrd : Row w da1 dl1 gs)  :
    Calls Try.prog 4 #[.slice da1 dl1 dc1, .int .i64 link] w fun x w' => x = .returned (.bool true) ∧ Below w.heap.size w w' := by
  have Rd := hide hrd
  have smd1 := hrd.small
  have Ed1 := hide hrd.len_eq
  clear hrd
  by_cases gd : (1048576 : Int) < dl1
  · go_enter Try.func4, Try.ntmps4
    go_wp2_with fail
    go_ret
    exact ⟨rfl, Below.refl _ _⟩
  have hd1 : dl1 ≤ 1048576 := by omega
  have hq0 : (gpR gs link != gpR gs link) = false := by simp
  have hq1 : (gpB gs link != gpB gs link) = false := by simp
  go_enter Try.func4, Try.ntmps4
  go_wp2_with fail
  have K : Hid (Below w.heap.size w w) := hide (Below.refl _ _)
  have KEPT : Hid (∀ W u3, (Below w.heap.size w W) → Below W.heap.size W u3 → (Below w.heap.size w u3)) := hide (fun W u3 h b => h.trans (b.mono h.size))
  obtain ⟨g1, hg1⟩ : ∃ G, w.heap.size = G := ⟨_, rfl⟩
  refine (toIntS_own _ _ _ _ _ ((unhide Rd).below (unhide K)) hd1).mono ?_
  rintro x w1 ⟨rfl, oc, b⟩
  rw [hg1] at oc ⊢
  have Bg1 := hide hg1
  clear hg1
  have LT1 : Hid (∀ g, (Value.slice (some ⟨g1, 0, none⟩) dl1 dl1).ownBlock = some g → w.heap.size ≤ g ∧ g < w1.heap.size) := hide (by have e := unhide Bg1; have l := oc.lies; rw [← e] at l ⊢; exact l)
  have S0 : Hid (w.heap.size ≤ w1.heap.size) := hide b.size
  have K : Hid (Below w.heap.size w w1) := hide ((unhide KEPT) _ _ (unhide K) b)
  have K : Hid (Below w.heap.size w w1 ∧ OwnI w1 w.heap.size (.slice (some ⟨g1, 0, none⟩) dl1 dl1) gs) := hide ⟨(unhide K), (by have e := unhide Bg1; rw [e]; exact oc)⟩
  clear KEPT oc b
  have KEPT : Hid (∀ W u3, (Below w.heap.size w W ∧ OwnI W w.heap.size (.slice (some ⟨g1, 0, none⟩) dl1 dl1) gs) → Below W.heap.size W u3 → (Below w.heap.size w u3 ∧ OwnI u3 w.heap.size (.slice (some ⟨g1, 0, none⟩) dl1 dl1) gs)) := hide (fun W u3 h b => ⟨h.1.trans (b.mono h.1.size), h.2.below b⟩)
  go_wp2_with fail
  refine (specGap16_any _ _ _ _ _ _ (unhide K).2.row ).mono ?_
  rintro x w2 ⟨rfl, b⟩
  have S1 : Hid (w1.heap.size ≤ w2.heap.size) := hide b.size
  have K : Hid (Below w.heap.size w w2 ∧ OwnI w2 w.heap.size (.slice (some ⟨g1, 0, none⟩) dl1 dl1) gs) := hide ((unhide KEPT) _ _ (unhide K) b)
  clear b
  have K : Hid (Below w.heap.size w w2) := hide (unhide K).1
  clear KEPT
  have KEPT : Hid (∀ W u3, (Below w.heap.size w W) → Below W.heap.size W u3 → (Below w.heap.size w u3)) := hide (fun W u3 h b => h.trans (b.mono h.size))
  go_wp2_with fail
  obtain ⟨g2, hg2⟩ : ∃ G, w2.heap.size = G := ⟨_, rfl⟩
  refine (toIntS_own _ _ _ _ _ ((unhide Rd).below (unhide K)) hd1).mono ?_
  rintro x w3 ⟨rfl, oc, b⟩
  rw [hg2] at oc ⊢
  have Bg2 := hide hg2
  clear hg2
  have LXx0 : Hid (∀ g, (Value.slice (some ⟨g2, 0, none⟩) dl1 dl1).ownBlock = some g → w2.heap.size ≤ g ∧ g < w3.heap.size) := hide (by have e := unhide Bg2; have l := oc.lies; rw [← e] at l ⊢; exact l)
  have S2 : Hid (w2.heap.size ≤ w3.heap.size) := hide b.size
  have K : Hid (Below w.heap.size w w3) := hide ((unhide KEPT) _ _ (unhide K) b)
  have K : Hid (Below w.heap.size w w3 ∧ OwnI w3 w2.heap.size (.slice (some ⟨g2, 0, none⟩) dl1 dl1) gs) := hide ⟨(unhide K), (by have e := unhide Bg2; rw [e]; exact oc)⟩
  clear KEPT oc b
  have KEPT : Hid (∀ W u3, (Below w.heap.size w W ∧ OwnI W w2.heap.size (.slice (some ⟨g2, 0, none⟩) dl1 dl1) gs) → Below W.heap.size W u3 → (Below w.heap.size w u3 ∧ OwnI u3 w2.heap.size (.slice (some ⟨g2, 0, none⟩) dl1 dl1) gs)) := hide (fun W u3 h b => ⟨h.1.trans (b.mono h.1.size), h.2.below b⟩)
  go_wp2_with fail
  refine (implGap16_any _ _ _ _ _ _ (unhide K).2.row ).mono ?_
  rintro x w4 ⟨rfl, b⟩
  have S3 : Hid (w3.heap.size ≤ w4.heap.size) := hide b.size
  have K : Hid (Below w.heap.size w w4 ∧ OwnI w4 w2.heap.size (.slice (some ⟨g2, 0, none⟩) dl1 dl1) gs) := hide ((unhide KEPT) _ _ (unhide K) b)
  clear b
  go_wp2_with fail
  obtain ⟨g3, hg3⟩ : ∃ G, w4.heap.size = G := ⟨_, rfl⟩
  refine (toIntS_own _ _ _ _ _ ((unhide Rd).below (unhide K).1) hd1).mono ?_
  rintro x w5 ⟨rfl, oc, b⟩
  rw [hg3] at oc ⊢
  have Bg3 := hide hg3
  clear hg3
  have IC := hide oc.row
  have S4 : Hid (w4.heap.size ≤ w5.heap.size) := hide b.size
  have K : Hid (Below w.heap.size w w5 ∧ OwnI w5 w2.heap.size (.slice (some ⟨g2, 0, none⟩) dl1 dl1) gs) := hide ((unhide KEPT) _ _ (unhide K) b)
  clear oc b
  go_wp2_with fail
  refine (eqIntS_same _ _ _ _ _ _ _ _ (unhide K).2.row (unhide IC)).mono ?_
  rintro x w6 ⟨rfl, b⟩
  have S5 : Hid (w5.heap.size ≤ w6.heap.size) := hide b.size
  have K : Hid (Below w.heap.size w w6 ∧ OwnI w6 w2.heap.size (.slice (some ⟨g2, 0, none⟩) dl1 dl1) gs) := hide ((unhide KEPT) _ _ (unhide K) b)
  clear b IC
  go_wp2_with fail
  go_ret
  exact ⟨rfl, (unhide K).1⟩
end Go.Proofs.Ytnhcmokkankcmaz
