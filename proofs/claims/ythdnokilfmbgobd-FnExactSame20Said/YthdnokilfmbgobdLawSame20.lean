/-
  The law FnExactSame20 returns true at every argument and writes nothing that was there: the walk. No condition.
-/
import Derived.Test.YthdnokilfmbgobdSaIs
import Derived.Test.YthdnokilfmbgobdSaSp
import Derived.Test.YthdnokilfmbgobdOwnSS
import Derived.Deep.RegionHeld3
namespace Go.Proofs.Ythdnokilfmbgobd
open Go.RowKit
set_option maxRecDepth 20000 in
set_option maxHeartbeats 8000000 in
theorem lawSame20 (sa1 : Option Addr) (sl1 sc1 : Nat) (zss : List (List Int)) (qa1 : Option Addr) (ql1 qc1 : Nat) (yss : List (List Int)) (w : World) (hrs : RowS w sa1 sl1 zss) (hrq : RowS w qa1 ql1 yss)  :
    Calls Try.prog 6 #[.slice sa1 sl1 sc1, .slice qa1 ql1 qc1] w fun x w' => x = .returned (.bool true) ∧ Below w.heap.size w w' := by
  have Rs := hide hrs
  have sms1 := hrs.small
  have Es1 := hide hrs.len_eq
  clear hrs
  have Rq := hide hrq
  have smq1 := hrq.small
  have Eq1 := hide hrq.len_eq
  clear hrq
  have hq0 : (dfR zss yss != dfR zss yss) = false := by simp
  have hq1 : (dfCo zss yss != dfCo zss yss) = false := by simp
  have hq2 : (dfO zss yss != dfO zss yss) = false := by simp
  go_enter Try.func6, Try.ntmps6
  go_wp2_with fail
  have K : Hid (Below w.heap.size w w) := hide (Below.refl _ _)
  have KEPT : Hid (∀ W u3, (Below w.heap.size w W) → Below W.heap.size W u3 → (Below w.heap.size w u3)) := hide (fun W u3 h b => h.trans (b.mono h.size))
  refine (szIntSS_tot _ _ _ _ 1048576 _ ((unhide Rs).below (unhide K)) (by omega) (by omega)).mono ?_
  rintro x w1 ⟨⟨r1, rfl, hl⟩, hw⟩
  have b : Below w.heap.size w w1 := by rw [hw]; exact Below.refl _ _
  clear hw
  have S0 : Hid (w.heap.size ≤ w1.heap.size) := hide b.size
  have K : Hid (Below w.heap.size w w1) := hide ((unhide KEPT) _ _ (unhide K) b)
  clear b
  rcases hl with hl | ⟨hl, hle, hs1, hTs, hall⟩
  · go_wp2_with fail
    go_ret
    exact ⟨rfl, (unhide K)⟩
  have nr1 : ¬ r1 < 0 := by omega
  have HAs := hide hall
  clear hall
  go_wp2_with fail
  refine (szIntSS_tot _ _ _ _ r1 _ ((unhide Rq).below (unhide K)) (by omega) (by omega)).mono ?_
  rintro x w2 ⟨⟨r2, rfl, hl⟩, hw⟩
  have b : Below w1.heap.size w1 w2 := by rw [hw]; exact Below.refl _ _
  clear hw
  have S1 : Hid (w1.heap.size ≤ w2.heap.size) := hide b.size
  have K : Hid (Below w.heap.size w w2) := hide ((unhide KEPT) _ _ (unhide K) b)
  clear b
  rcases hl with hl | ⟨hl, hle, hq1, hTq, hall⟩
  · go_wp2_with fail
    go_ret
    exact ⟨rfl, (unhide K)⟩
  have nr2 : ¬ r2 < 0 := by omega
  have HAq := hide hall
  clear hall
  go_wp2_with fail
  obtain ⟨g3, hg3⟩ : ∃ G, w2.heap.size = G := ⟨_, rfl⟩
  refine (toIntSS_own _ _ _ _ _ ((unhide Rs).below (unhide K)) hs1 (unhide HAs)).mono ?_
  rintro x w3 ⟨rfl, oc, b⟩
  rw [hg3] at oc ⊢
  have Bg3 := hide hg3
  clear hg3
  have S2 : Hid (w2.heap.size = g3) := hide (unhide Bg3)
  have S3 : Hid (w2.heap.size ≤ w3.heap.size) := hide b.size
  have K : Hid (Below w.heap.size w w3) := hide ((unhide KEPT) _ _ (unhide K) b)
  have K : Hid (Below w.heap.size w w3 ∧ OwnSS w3 g3 w3.heap.size sl1 zss) := hide ⟨(unhide K), oc⟩
  clear KEPT oc b
  have KEPT : Hid (∀ W u3, (Below w.heap.size w W ∧ OwnSS W g3 w3.heap.size sl1 zss) → Below W.heap.size W u3 → (Below w.heap.size w u3 ∧ OwnSS u3 g3 w3.heap.size sl1 zss)) := hide (fun W u3 h b => ⟨h.1.trans (b.mono h.1.size), h.2.below b⟩)
  go_wp2_with fail
  obtain ⟨g4, hg4⟩ : ∃ G, w3.heap.size = G := ⟨_, rfl⟩
  refine (toIntSS_own _ _ _ _ _ ((unhide Rq).below (unhide K).1) hq1 (unhide HAq)).mono ?_
  rintro x w4 ⟨rfl, oc, b⟩
  rw [hg4] at oc ⊢
  have Bg4 := hide hg4
  clear hg4
  have S4 : Hid (w3.heap.size = g4) := hide (unhide Bg4)
  have S5 : Hid (w3.heap.size ≤ w4.heap.size) := hide b.size
  have K : Hid (Below w.heap.size w w4 ∧ OwnSS w4 g3 w3.heap.size sl1 zss) := hide ((unhide KEPT) _ _ (unhide K) b)
  have K : Hid (Below w.heap.size w w4 ∧ OwnSS w4 g3 w3.heap.size sl1 zss ∧ OwnSS w4 g4 w4.heap.size ql1 yss) := hide ⟨(unhide K).1, (unhide K).2, oc⟩
  clear KEPT oc b
  have KEPT : Hid (∀ W u3, (Below w.heap.size w W ∧ OwnSS W g3 w3.heap.size sl1 zss ∧ OwnSS W g4 w4.heap.size ql1 yss) → Below W.heap.size W u3 → (Below w.heap.size w u3 ∧ OwnSS u3 g3 w3.heap.size sl1 zss ∧ OwnSS u3 g4 w4.heap.size ql1 yss)) := hide (fun W u3 h b => ⟨h.1.trans (b.mono h.1.size), h.2.1.below b, h.2.2.below b⟩)
  go_wp2_with fail
  refine (specSame20_any _ _ _ _ _ _ _ _ _ (unhide K).2.1.row (unhide K).2.2.row ).mono ?_
  rintro x w5 ⟨rfl, b⟩
  have S6 : Hid (w4.heap.size ≤ w5.heap.size) := hide b.size
  have K : Hid (Below w.heap.size w w5 ∧ OwnSS w5 g3 w3.heap.size sl1 zss ∧ OwnSS w5 g4 w4.heap.size ql1 yss) := hide ((unhide KEPT) _ _ (unhide K) b)
  clear b
  have K : Hid (Below w.heap.size w w5) := hide (unhide K).1
  clear KEPT
  have KEPT : Hid (∀ W u3, (Below w.heap.size w W) → Below W.heap.size W u3 → (Below w.heap.size w u3)) := hide (fun W u3 h b => h.trans (b.mono h.size))
  go_wp2_with fail
  obtain ⟨g5, hg5⟩ : ∃ G, w5.heap.size = G := ⟨_, rfl⟩
  refine (toIntSS_own _ _ _ _ _ ((unhide Rs).below (unhide K)) hs1 (unhide HAs)).mono ?_
  rintro x w6 ⟨rfl, oc, b⟩
  rw [hg5] at oc ⊢
  have Bg5 := hide hg5
  clear hg5
  have S7 : Hid (w5.heap.size = g5) := hide (unhide Bg5)
  have S8 : Hid (w5.heap.size ≤ w6.heap.size) := hide b.size
  have K : Hid (Below w.heap.size w w6) := hide ((unhide KEPT) _ _ (unhide K) b)
  have K : Hid (Below w.heap.size w w6 ∧ OwnSS w6 g5 w6.heap.size sl1 zss) := hide ⟨(unhide K), oc⟩
  clear KEPT oc b
  have KEPT : Hid (∀ W u3, (Below w.heap.size w W ∧ OwnSS W g5 w6.heap.size sl1 zss) → Below W.heap.size W u3 → (Below w.heap.size w u3 ∧ OwnSS u3 g5 w6.heap.size sl1 zss)) := hide (fun W u3 h b => ⟨h.1.trans (b.mono h.1.size), h.2.below b⟩)
  go_wp2_with fail
  obtain ⟨g6, hg6⟩ : ∃ G, w6.heap.size = G := ⟨_, rfl⟩
  refine (toIntSS_own _ _ _ _ _ ((unhide Rq).below (unhide K).1) hq1 (unhide HAq)).mono ?_
  rintro x w7 ⟨rfl, oc, b⟩
  rw [hg6] at oc ⊢
  have Bg6 := hide hg6
  clear hg6
  have S9 : Hid (w6.heap.size = g6) := hide (unhide Bg6)
  have S10 : Hid (w6.heap.size ≤ w7.heap.size) := hide b.size
  have K : Hid (Below w.heap.size w w7 ∧ OwnSS w7 g5 w6.heap.size sl1 zss) := hide ((unhide KEPT) _ _ (unhide K) b)
  have K : Hid (Below w.heap.size w w7 ∧ OwnSS w7 g5 w6.heap.size sl1 zss ∧ OwnSS w7 g6 w7.heap.size ql1 yss) := hide ⟨(unhide K).1, (unhide K).2, oc⟩
  clear KEPT oc b
  have KEPT : Hid (∀ W u3, (Below w.heap.size w W ∧ OwnSS W g5 w6.heap.size sl1 zss ∧ OwnSS W g6 w7.heap.size ql1 yss) → Below W.heap.size W u3 → (Below w.heap.size w u3 ∧ OwnSS u3 g5 w6.heap.size sl1 zss ∧ OwnSS u3 g6 w7.heap.size ql1 yss)) := hide (fun W u3 h b => ⟨h.1.trans (b.mono h.1.size), h.2.1.below b, h.2.2.below b⟩)
  go_wp2_with fail
  refine (implSame20_any _ _ _ _ _ _ _ _ _ (unhide K).2.1.row (unhide K).2.2.row ).mono ?_
  rintro x w8 ⟨rfl, b⟩
  have S11 : Hid (w7.heap.size ≤ w8.heap.size) := hide b.size
  have K : Hid (Below w.heap.size w w8 ∧ OwnSS w8 g5 w6.heap.size sl1 zss ∧ OwnSS w8 g6 w7.heap.size ql1 yss) := hide ((unhide KEPT) _ _ (unhide K) b)
  clear b
  go_wp2_with fail
  obtain ⟨g7, hg7⟩ : ∃ G, w8.heap.size = G := ⟨_, rfl⟩
  refine (toIntSS_own _ _ _ _ _ ((unhide Rs).below (unhide K).1) hs1 (unhide HAs)).mono ?_
  rintro x w9 ⟨rfl, oc, b⟩
  rw [hg7] at oc ⊢
  have Bg7 := hide hg7
  clear hg7
  have S12 : Hid (w8.heap.size = g7) := hide (unhide Bg7)
  have IC := hide oc.row
  have S13 : Hid (w8.heap.size ≤ w9.heap.size) := hide b.size
  have K : Hid (Below w.heap.size w w9 ∧ OwnSS w9 g5 w6.heap.size sl1 zss ∧ OwnSS w9 g6 w7.heap.size ql1 yss) := hide ((unhide KEPT) _ _ (unhide K) b)
  clear oc b
  go_wp2_with fail
  refine (eqIntSS_same _ _ _ _ _ _ _ _ (unhide K).2.1.row (unhide IC)).mono ?_
  rintro x w10 ⟨rfl, b⟩
  have S14 : Hid (w9.heap.size ≤ w10.heap.size) := hide b.size
  have K : Hid (Below w.heap.size w w10 ∧ OwnSS w10 g5 w6.heap.size sl1 zss ∧ OwnSS w10 g6 w7.heap.size ql1 yss) := hide ((unhide KEPT) _ _ (unhide K) b)
  clear b IC
  go_wp2_with fail
  obtain ⟨g8, hg8⟩ : ∃ G, w10.heap.size = G := ⟨_, rfl⟩
  refine (toIntSS_own _ _ _ _ _ ((unhide Rq).below (unhide K).1) hq1 (unhide HAq)).mono ?_
  rintro x w11 ⟨rfl, oc, b⟩
  rw [hg8] at oc ⊢
  have Bg8 := hide hg8
  clear hg8
  have S15 : Hid (w10.heap.size = g8) := hide (unhide Bg8)
  have IC := hide oc.row
  have S16 : Hid (w10.heap.size ≤ w11.heap.size) := hide b.size
  have K : Hid (Below w.heap.size w w11 ∧ OwnSS w11 g5 w6.heap.size sl1 zss ∧ OwnSS w11 g6 w7.heap.size ql1 yss) := hide ((unhide KEPT) _ _ (unhide K) b)
  clear oc b
  go_wp2_with fail
  refine (eqIntSS_same _ _ _ _ _ _ _ _ (unhide K).2.2.row (unhide IC)).mono ?_
  rintro x w12 ⟨rfl, b⟩
  have S17 : Hid (w11.heap.size ≤ w12.heap.size) := hide b.size
  have K : Hid (Below w.heap.size w w12 ∧ OwnSS w12 g5 w6.heap.size sl1 zss ∧ OwnSS w12 g6 w7.heap.size ql1 yss) := hide ((unhide KEPT) _ _ (unhide K) b)
  clear b IC
  go_wp2_with fail
  go_ret
  exact ⟨rfl, (unhide K).1⟩
end Go.Proofs.Ythdnokilfmbgobd
