/-
  The law FnExactColumn returns true at every argument and writes nothing that was there: the walk. No condition.
-/
import Derived.Test.YthdnokilfmbgobdCoIs
import Derived.Test.YthdnokilfmbgobdOwnSS
import Derived.Deep.RegionHeld3
namespace Go.Proofs.Ythdnokilfmbgobd
open Go.RowKit
set_option maxRecDepth 20000 in
set_option maxHeartbeats 8000000 in
theorem lawColumn (sa1 : Option Addr) (sl1 sc1 : Nat) (zss : List (List Int)) (t : Int) (w : World) (hrs : RowS w sa1 sl1 zss)  :
    Calls Try.prog 4 #[.slice sa1 sl1 sc1, .int .i64 t] w fun x w' => x = .returned (.bool true) ∧ Below w.heap.size w w' := by
  have Rs := hide hrs
  have sms1 := hrs.small
  have Es1 := hide hrs.len_eq
  clear hrs
  have hfv : (coL zss t).length ≤ 200 := coL_len zss t
  have hq : (coB zss t != coB zss t) = false := by simp
  go_enter Try.func4, Try.ntmps4
  go_wp2_with fail
  have K : Hid (Below w.heap.size w w) := hide (Below.refl _ _)
  have KEPT : Hid (∀ W u3, (Below w.heap.size w W) → Below W.heap.size W u3 → (Below w.heap.size w u3)) := hide (fun W u3 h b => h.trans (b.mono h.size))
  refine (szIntSS_tot _ _ _ _ 1048576 _ ((unhide Rs).below (unhide K)) (by omega) (by omega)).mono ?_
  rintro x w1 ⟨⟨r1, rfl, hl⟩, hw⟩
  have b : Below w.heap.size w w1 := by rw [hw]; exact Below.refl _ _
  clear hw
  have S0 : Hid (w.heap.size ≤ w1.heap.size) := hide b.size
  have K : Hid (Below w.heap.size w w1) := hide ((unhide KEPT) _ _ (unhide K) b)
  clear b
  rcases hl with hl | ⟨hl, hle, hs1, hTs, hall⟩
  · go_wp2_with fail
    go_ret
    exact ⟨rfl, (unhide K)⟩
  have nr1 : ¬ r1 < 0 := by omega
  have HAs := hide hall
  clear hall
  go_wp2_with fail
  obtain ⟨g2, hg2⟩ : ∃ G, w1.heap.size = G := ⟨_, rfl⟩
  refine (toIntSS_own _ _ _ _ _ ((unhide Rs).below (unhide K)) hs1 (unhide HAs)).mono ?_
  rintro x w2 ⟨rfl, oc, b⟩
  rw [hg2] at oc ⊢
  have Bg2 := hide hg2
  clear hg2
  have S1 : Hid (w1.heap.size = g2) := hide (unhide Bg2)
  have S2 : Hid (w1.heap.size ≤ w2.heap.size) := hide b.size
  have K : Hid (Below w.heap.size w w2) := hide ((unhide KEPT) _ _ (unhide K) b)
  have K : Hid (Below w.heap.size w w2 ∧ OwnSS w2 g2 w2.heap.size sl1 zss) := hide ⟨(unhide K), oc⟩
  clear KEPT oc b
  have KEPT : Hid (∀ W u3, (Below w.heap.size w W ∧ OwnSS W g2 w2.heap.size sl1 zss) → Below W.heap.size W u3 → (Below w.heap.size w u3 ∧ OwnSS u3 g2 w2.heap.size sl1 zss)) := hide (fun W u3 h b => ⟨h.1.trans (b.mono h.1.size), h.2.below b⟩)
  go_wp2_with fail
  refine (specColumn_any _ _ _ _ _ _ (unhide K).2.row ).mono ?_
  rintro x w3 ⟨a3, c4, rfl, oW_0, b⟩
  have LW0 : Hid (∀ g, (Value.slice a3 ((coL zss t).length) c4).ownBlock = some g → w2.heap.size ≤ g ∧ g < w3.heap.size) := hide oW_0.lies
  have S3 : Hid (w2.heap.size ≤ w3.heap.size) := hide b.size
  have K : Hid (Below w.heap.size w w3 ∧ OwnSS w3 g2 w2.heap.size sl1 zss) := hide ((unhide KEPT) _ _ (unhide K) b)
  have K : Hid (Below w.heap.size w w3 ∧ OwnSS w3 g2 w2.heap.size sl1 zss ∧ OwnI w3 w2.heap.size (.slice a3 ((coL zss t).length) c4) (coL zss t)) := hide ⟨(unhide K).1, (unhide K).2, oW_0⟩
  clear KEPT
  have KEPT : Hid (∀ W u3, (Below w.heap.size w W ∧ OwnSS W g2 w2.heap.size sl1 zss ∧ OwnI W w2.heap.size (.slice a3 ((coL zss t).length) c4) (coL zss t)) → Below W.heap.size W u3 → (Below w.heap.size w u3 ∧ OwnSS u3 g2 w2.heap.size sl1 zss ∧ OwnI u3 w2.heap.size (.slice a3 ((coL zss t).length) c4) (coL zss t))) := hide (fun W u3 h b => ⟨h.1.trans (b.mono h.1.size), h.2.1.below b, h.2.2.below b⟩)
  clear oW_0
  clear b
  have K : Hid (Below w.heap.size w w3 ∧ OwnI w3 w2.heap.size (.slice a3 ((coL zss t).length) c4) (coL zss t)) := hide ⟨(unhide K).1, (unhide K).2.2⟩
  clear KEPT
  have KEPT : Hid (∀ W u3, (Below w.heap.size w W ∧ OwnI W w2.heap.size (.slice a3 ((coL zss t).length) c4) (coL zss t)) → Below W.heap.size W u3 → (Below w.heap.size w u3 ∧ OwnI u3 w2.heap.size (.slice a3 ((coL zss t).length) c4) (coL zss t))) := hide (fun W u3 h b => ⟨h.1.trans (b.mono h.1.size), h.2.below b⟩)
  go_wp2_with fail
  obtain ⟨g5, hg5⟩ : ∃ G, w3.heap.size = G := ⟨_, rfl⟩
  refine (toIntSS_own _ _ _ _ _ ((unhide Rs).below (unhide K).1) hs1 (unhide HAs)).mono ?_
  rintro x w4 ⟨rfl, oc, b⟩
  rw [hg5] at oc ⊢
  have Bg5 := hide hg5
  clear hg5
  have S4 : Hid (w3.heap.size = g5) := hide (unhide Bg5)
  have S5 : Hid (w3.heap.size ≤ w4.heap.size) := hide b.size
  have K : Hid (Below w.heap.size w w4 ∧ OwnI w4 w2.heap.size (.slice a3 ((coL zss t).length) c4) (coL zss t)) := hide ((unhide KEPT) _ _ (unhide K) b)
  have K : Hid (Below w.heap.size w w4 ∧ OwnI w4 w2.heap.size (.slice a3 ((coL zss t).length) c4) (coL zss t) ∧ OwnSS w4 g5 w4.heap.size sl1 zss) := hide ⟨(unhide K).1, (unhide K).2, oc⟩
  clear KEPT oc b
  have KEPT : Hid (∀ W u3, (Below w.heap.size w W ∧ OwnI W w2.heap.size (.slice a3 ((coL zss t).length) c4) (coL zss t) ∧ OwnSS W g5 w4.heap.size sl1 zss) → Below W.heap.size W u3 → (Below w.heap.size w u3 ∧ OwnI u3 w2.heap.size (.slice a3 ((coL zss t).length) c4) (coL zss t) ∧ OwnSS u3 g5 w4.heap.size sl1 zss)) := hide (fun W u3 h b => ⟨h.1.trans (b.mono h.1.size), h.2.1.below b, h.2.2.below b⟩)
  go_wp2_with fail
  refine (implColumn_any _ _ _ _ _ _ (unhide K).2.2.row ).mono ?_
  rintro x w5 ⟨a6, c7, rfl, oG_0, b⟩
  have LG0 : Hid (∀ g, (Value.slice a6 ((coL zss t).length) c7).ownBlock = some g → w4.heap.size ≤ g ∧ g < w5.heap.size) := hide oG_0.lies
  have S6 : Hid (w4.heap.size ≤ w5.heap.size) := hide b.size
  have K : Hid (Below w.heap.size w w5 ∧ OwnI w5 w2.heap.size (.slice a3 ((coL zss t).length) c4) (coL zss t) ∧ OwnSS w5 g5 w4.heap.size sl1 zss) := hide ((unhide KEPT) _ _ (unhide K) b)
  have K : Hid (Below w.heap.size w w5 ∧ OwnI w5 w2.heap.size (.slice a3 ((coL zss t).length) c4) (coL zss t) ∧ OwnSS w5 g5 w4.heap.size sl1 zss ∧ OwnI w5 w4.heap.size (.slice a6 ((coL zss t).length) c7) (coL zss t)) := hide ⟨(unhide K).1, (unhide K).2.1, (unhide K).2.2, oG_0⟩
  clear KEPT
  have KEPT : Hid (∀ W u3, (Below w.heap.size w W ∧ OwnI W w2.heap.size (.slice a3 ((coL zss t).length) c4) (coL zss t) ∧ OwnSS W g5 w4.heap.size sl1 zss ∧ OwnI W w4.heap.size (.slice a6 ((coL zss t).length) c7) (coL zss t)) → Below W.heap.size W u3 → (Below w.heap.size w u3 ∧ OwnI u3 w2.heap.size (.slice a3 ((coL zss t).length) c4) (coL zss t) ∧ OwnSS u3 g5 w4.heap.size sl1 zss ∧ OwnI u3 w4.heap.size (.slice a6 ((coL zss t).length) c7) (coL zss t))) := hide (fun W u3 h b => ⟨h.1.trans (b.mono h.1.size), h.2.1.below b, h.2.2.1.below b, h.2.2.2.below b⟩)
  clear oG_0
  clear b
  go_wp2_with fail
  refine (eqIntS_same _ _ _ _ _ _ _ _ (unhide K).2.2.2.row (unhide K).2.1.row).mono ?_
  rintro x w6 ⟨rfl, b⟩
  have S7 : Hid (w5.heap.size ≤ w6.heap.size) := hide b.size
  have K : Hid (Below w.heap.size w w6 ∧ OwnI w6 w2.heap.size (.slice a3 ((coL zss t).length) c4) (coL zss t) ∧ OwnSS w6 g5 w4.heap.size sl1 zss ∧ OwnI w6 w4.heap.size (.slice a6 ((coL zss t).length) c7) (coL zss t)) := hide ((unhide KEPT) _ _ (unhide K) b)
  clear b
  go_wp2_with fail
  obtain ⟨g8, hg8⟩ : ∃ G, w6.heap.size = G := ⟨_, rfl⟩
  refine (toIntSS_own _ _ _ _ _ ((unhide Rs).below (unhide K).1) hs1 (unhide HAs)).mono ?_
  rintro x w7 ⟨rfl, oc, b⟩
  rw [hg8] at oc ⊢
  have Bg8 := hide hg8
  clear hg8
  have S8 : Hid (w6.heap.size = g8) := hide (unhide Bg8)
  have IC := hide oc.row
  have S9 : Hid (w6.heap.size ≤ w7.heap.size) := hide b.size
  have K : Hid (Below w.heap.size w w7 ∧ OwnI w7 w2.heap.size (.slice a3 ((coL zss t).length) c4) (coL zss t) ∧ OwnSS w7 g5 w4.heap.size sl1 zss ∧ OwnI w7 w4.heap.size (.slice a6 ((coL zss t).length) c7) (coL zss t)) := hide ((unhide KEPT) _ _ (unhide K) b)
  clear oc b
  go_wp2_with fail
  refine (eqIntSS_same _ _ _ _ _ _ _ _ (unhide K).2.2.1.row (unhide IC)).mono ?_
  rintro x w8 ⟨rfl, b⟩
  have S10 : Hid (w7.heap.size ≤ w8.heap.size) := hide b.size
  have K : Hid (Below w.heap.size w w8 ∧ OwnI w8 w2.heap.size (.slice a3 ((coL zss t).length) c4) (coL zss t) ∧ OwnSS w8 g5 w4.heap.size sl1 zss ∧ OwnI w8 w4.heap.size (.slice a6 ((coL zss t).length) c7) (coL zss t)) := hide ((unhide KEPT) _ _ (unhide K) b)
  clear b IC
  go_wp2_with fail
  refine (markIntSS_own _ _ _ _ 1 _ (unhide K).2.2.1 (by omega) (by omega) (unhide HAs) hTs).mono ?_
  rintro x w9 ⟨rfl, on⟩
  have S11 : Hid (w8.heap.size ≤ w9.heap.size) := hide on.size
  have K : Hid (Below w.heap.size w w9 ∧ OwnI w9 w2.heap.size (.slice a3 ((coL zss t).length) c4) (coL zss t) ∧ OwnI w9 w4.heap.size (.slice a6 ((coL zss t).length) c7) (coL zss t)) := hide ⟨below_only (unhide K).1 on (by have s0 := unhide S0; have s1 := unhide S1; have s2 := unhide S2; have s3 := unhide S3; have s4 := unhide S4; have s5 := unhide S5; have s6 := unhide S6; have s7 := unhide S7; have s8 := unhide S8; have s9 := unhide S9; have s10 := unhide S10; have s11 := unhide S11; omega) (Nat.le_refl _), (unhide K).2.1.only on (fun g hg => by have := (unhide LW0) g hg; have s0 := unhide S0; have s1 := unhide S1; have s2 := unhide S2; have s3 := unhide S3; have s4 := unhide S4; have s5 := unhide S5; have s6 := unhide S6; have s7 := unhide S7; have s8 := unhide S8; have s9 := unhide S9; have s10 := unhide S10; have s11 := unhide S11; omega), (unhide K).2.2.2.only on (fun g hg => by have := (unhide LG0) g hg; have s0 := unhide S0; have s1 := unhide S1; have s2 := unhide S2; have s3 := unhide S3; have s4 := unhide S4; have s5 := unhide S5; have s6 := unhide S6; have s7 := unhide S7; have s8 := unhide S8; have s9 := unhide S9; have s10 := unhide S10; have s11 := unhide S11; omega)⟩
  clear KEPT on
  have KEPT : Hid (∀ W u3, (Below w.heap.size w W ∧ OwnI W w2.heap.size (.slice a3 ((coL zss t).length) c4) (coL zss t) ∧ OwnI W w4.heap.size (.slice a6 ((coL zss t).length) c7) (coL zss t)) → Below W.heap.size W u3 → (Below w.heap.size w u3 ∧ OwnI u3 w2.heap.size (.slice a3 ((coL zss t).length) c4) (coL zss t) ∧ OwnI u3 w4.heap.size (.slice a6 ((coL zss t).length) c7) (coL zss t))) := hide (fun W u3 h b => ⟨h.1.trans (b.mono h.1.size), h.2.1.below b, h.2.2.below b⟩)
  have nk9 : ¬ (1 + (totTo zss sl1 : Int) < 0) := by omega
  go_wp2_with fail
  refine (eqIntS_same _ _ _ _ _ _ _ _ (unhide K).2.2.row (unhide K).2.1.row).mono ?_
  rintro x w10 ⟨rfl, b⟩
  have S12 : Hid (w9.heap.size ≤ w10.heap.size) := hide b.size
  have K : Hid (Below w.heap.size w w10 ∧ OwnI w10 w2.heap.size (.slice a3 ((coL zss t).length) c4) (coL zss t) ∧ OwnI w10 w4.heap.size (.slice a6 ((coL zss t).length) c7) (coL zss t)) := hide ((unhide KEPT) _ _ (unhide K) b)
  clear b
  go_wp2_with fail
  refine (markIntS_own _ _ _ _ _ 1 _ (unhide K).2.2 (rfl) (by have := hfv; omega) (by omega) (by omega)).mono ?_
  rintro x w11 ⟨rfl, om, gr⟩
  have on := Only.of_row (lo := w4.heap.size) (hi := w5.heap.size) gr (unhide LG0)
  have S13 : Hid (w10.heap.size ≤ w11.heap.size) := hide on.size
  have K : Hid (Below w.heap.size w w11 ∧ OwnI w11 w2.heap.size (.slice a3 ((coL zss t).length) c4) (coL zss t) ∧ OwnI w11 w4.heap.size (.slice a6 ((coL zss t).length) c7) (markI (coL zss t) 1 ((coL zss t).length))) := hide ⟨below_only (unhide K).1 on (by have s0 := unhide S0; have s1 := unhide S1; have s2 := unhide S2; have s3 := unhide S3; have s4 := unhide S4; have s5 := unhide S5; have s6 := unhide S6; have s7 := unhide S7; have s8 := unhide S8; have s9 := unhide S9; have s10 := unhide S10; have s11 := unhide S11; have s12 := unhide S12; have s13 := unhide S13; omega) (Nat.le_refl _), (unhide K).2.1.only on (fun g hg => by have := (unhide LW0) g hg; have s0 := unhide S0; have s1 := unhide S1; have s2 := unhide S2; have s3 := unhide S3; have s4 := unhide S4; have s5 := unhide S5; have s6 := unhide S6; have s7 := unhide S7; have s8 := unhide S8; have s9 := unhide S9; have s10 := unhide S10; have s11 := unhide S11; have s12 := unhide S12; have s13 := unhide S13; omega), om⟩
  clear KEPT om on gr
  have KEPT : Hid (∀ W u3, (Below w.heap.size w W ∧ OwnI W w2.heap.size (.slice a3 ((coL zss t).length) c4) (coL zss t) ∧ OwnI W w4.heap.size (.slice a6 ((coL zss t).length) c7) (markI (coL zss t) 1 ((coL zss t).length))) → Below W.heap.size W u3 → (Below w.heap.size w u3 ∧ OwnI u3 w2.heap.size (.slice a3 ((coL zss t).length) c4) (coL zss t) ∧ OwnI u3 w4.heap.size (.slice a6 ((coL zss t).length) c7) (markI (coL zss t) 1 ((coL zss t).length)))) := hide (fun W u3 h b => ⟨h.1.trans (b.mono h.1.size), h.2.1.below b, h.2.2.below b⟩)
  go_wp2_with fail
  refine (heldIntS_any _ _ _ _ _ 1 _ (unhide K).2.2 (rfl) (by have := hfv; omega) (by omega) (by omega)).mono ?_
  rintro x w12 ⟨rfl, hw⟩
  have b : Below w11.heap.size w11 w12 := by rw [hw]; exact Below.refl _ _
  clear hw
  have S14 : Hid (w11.heap.size ≤ w12.heap.size) := hide b.size
  have K : Hid (Below w.heap.size w w12 ∧ OwnI w12 w2.heap.size (.slice a3 ((coL zss t).length) c4) (coL zss t) ∧ OwnI w12 w4.heap.size (.slice a6 ((coL zss t).length) c7) (markI (coL zss t) 1 ((coL zss t).length))) := hide ((unhide KEPT) _ _ (unhide K) b)
  clear b
  have nq12 : ¬ (1 + ((coL zss t).length : Int) < 0) := by omega
  have nn12 : (1 + ((coL zss t).length : Int) != 1 + ((coL zss t).length : Int)) = false := by simp
  go_wp2_with fail
  obtain ⟨g9, hg9⟩ : ∃ G, w12.heap.size = G := ⟨_, rfl⟩
  refine (toIntSS_own _ _ _ _ _ ((unhide Rs).below (unhide K).1) hs1 (unhide HAs)).mono ?_
  rintro x w13 ⟨rfl, oc, b⟩
  rw [hg9] at oc ⊢
  have Bg9 := hide hg9
  clear hg9
  have S15 : Hid (w12.heap.size = g9) := hide (unhide Bg9)
  have S16 : Hid (w12.heap.size ≤ w13.heap.size) := hide b.size
  have K : Hid (Below w.heap.size w w13 ∧ OwnI w13 w2.heap.size (.slice a3 ((coL zss t).length) c4) (coL zss t) ∧ OwnI w13 w4.heap.size (.slice a6 ((coL zss t).length) c7) (markI (coL zss t) 1 ((coL zss t).length))) := hide ((unhide KEPT) _ _ (unhide K) b)
  have K : Hid (Below w.heap.size w w13 ∧ OwnI w13 w2.heap.size (.slice a3 ((coL zss t).length) c4) (coL zss t) ∧ OwnI w13 w4.heap.size (.slice a6 ((coL zss t).length) c7) (markI (coL zss t) 1 ((coL zss t).length)) ∧ OwnSS w13 g9 w13.heap.size sl1 zss) := hide ⟨(unhide K).1, (unhide K).2.1, (unhide K).2.2, oc⟩
  clear KEPT oc b
  have KEPT : Hid (∀ W u3, (Below w.heap.size w W ∧ OwnI W w2.heap.size (.slice a3 ((coL zss t).length) c4) (coL zss t) ∧ OwnI W w4.heap.size (.slice a6 ((coL zss t).length) c7) (markI (coL zss t) 1 ((coL zss t).length)) ∧ OwnSS W g9 w13.heap.size sl1 zss) → Below W.heap.size W u3 → (Below w.heap.size w u3 ∧ OwnI u3 w2.heap.size (.slice a3 ((coL zss t).length) c4) (coL zss t) ∧ OwnI u3 w4.heap.size (.slice a6 ((coL zss t).length) c7) (markI (coL zss t) 1 ((coL zss t).length)) ∧ OwnSS u3 g9 w13.heap.size sl1 zss)) := hide (fun W u3 h b => ⟨h.1.trans (b.mono h.1.size), h.2.1.below b, h.2.2.1.below b, h.2.2.2.below b⟩)
  go_wp2_with fail
  refine (implColumn_any _ _ _ _ _ _ (unhide K).2.2.2.row ).mono ?_
  rintro x w14 ⟨a10, c11, rfl, oH_0, b⟩
  have LH0 : Hid (∀ g, (Value.slice a10 ((coL zss t).length) c11).ownBlock = some g → w13.heap.size ≤ g ∧ g < w14.heap.size) := hide oH_0.lies
  have S17 : Hid (w13.heap.size ≤ w14.heap.size) := hide b.size
  have K : Hid (Below w.heap.size w w14 ∧ OwnI w14 w2.heap.size (.slice a3 ((coL zss t).length) c4) (coL zss t) ∧ OwnI w14 w4.heap.size (.slice a6 ((coL zss t).length) c7) (markI (coL zss t) 1 ((coL zss t).length)) ∧ OwnSS w14 g9 w13.heap.size sl1 zss) := hide ((unhide KEPT) _ _ (unhide K) b)
  have K : Hid (Below w.heap.size w w14 ∧ OwnI w14 w2.heap.size (.slice a3 ((coL zss t).length) c4) (coL zss t) ∧ OwnI w14 w4.heap.size (.slice a6 ((coL zss t).length) c7) (markI (coL zss t) 1 ((coL zss t).length)) ∧ OwnSS w14 g9 w13.heap.size sl1 zss ∧ OwnI w14 w13.heap.size (.slice a10 ((coL zss t).length) c11) (coL zss t)) := hide ⟨(unhide K).1, (unhide K).2.1, (unhide K).2.2.1, (unhide K).2.2.2, oH_0⟩
  clear KEPT
  have KEPT : Hid (∀ W u3, (Below w.heap.size w W ∧ OwnI W w2.heap.size (.slice a3 ((coL zss t).length) c4) (coL zss t) ∧ OwnI W w4.heap.size (.slice a6 ((coL zss t).length) c7) (markI (coL zss t) 1 ((coL zss t).length)) ∧ OwnSS W g9 w13.heap.size sl1 zss ∧ OwnI W w13.heap.size (.slice a10 ((coL zss t).length) c11) (coL zss t)) → Below W.heap.size W u3 → (Below w.heap.size w u3 ∧ OwnI u3 w2.heap.size (.slice a3 ((coL zss t).length) c4) (coL zss t) ∧ OwnI u3 w4.heap.size (.slice a6 ((coL zss t).length) c7) (markI (coL zss t) 1 ((coL zss t).length)) ∧ OwnSS u3 g9 w13.heap.size sl1 zss ∧ OwnI u3 w13.heap.size (.slice a10 ((coL zss t).length) c11) (coL zss t))) := hide (fun W u3 h b => ⟨h.1.trans (b.mono h.1.size), h.2.1.below b, h.2.2.1.below b, h.2.2.2.1.below b, h.2.2.2.2.below b⟩)
  clear oH_0
  clear b
  have K : Hid (Below w.heap.size w w14 ∧ OwnI w14 w2.heap.size (.slice a3 ((coL zss t).length) c4) (coL zss t) ∧ OwnI w14 w4.heap.size (.slice a6 ((coL zss t).length) c7) (markI (coL zss t) 1 ((coL zss t).length)) ∧ OwnI w14 w13.heap.size (.slice a10 ((coL zss t).length) c11) (coL zss t)) := hide ⟨(unhide K).1, (unhide K).2.1, (unhide K).2.2.1, (unhide K).2.2.2.2⟩
  clear KEPT
  have KEPT : Hid (∀ W u3, (Below w.heap.size w W ∧ OwnI W w2.heap.size (.slice a3 ((coL zss t).length) c4) (coL zss t) ∧ OwnI W w4.heap.size (.slice a6 ((coL zss t).length) c7) (markI (coL zss t) 1 ((coL zss t).length)) ∧ OwnI W w13.heap.size (.slice a10 ((coL zss t).length) c11) (coL zss t)) → Below W.heap.size W u3 → (Below w.heap.size w u3 ∧ OwnI u3 w2.heap.size (.slice a3 ((coL zss t).length) c4) (coL zss t) ∧ OwnI u3 w4.heap.size (.slice a6 ((coL zss t).length) c7) (markI (coL zss t) 1 ((coL zss t).length)) ∧ OwnI u3 w13.heap.size (.slice a10 ((coL zss t).length) c11) (coL zss t))) := hide (fun W u3 h b => ⟨h.1.trans (b.mono h.1.size), h.2.1.below b, h.2.2.1.below b, h.2.2.2.below b⟩)
  go_wp2_with fail
  refine (eqIntS_same _ _ _ _ _ _ _ _ (unhide K).2.2.2.row (unhide K).2.1.row).mono ?_
  rintro x w15 ⟨rfl, b⟩
  have S18 : Hid (w14.heap.size ≤ w15.heap.size) := hide b.size
  have K : Hid (Below w.heap.size w w15 ∧ OwnI w15 w2.heap.size (.slice a3 ((coL zss t).length) c4) (coL zss t) ∧ OwnI w15 w4.heap.size (.slice a6 ((coL zss t).length) c7) (markI (coL zss t) 1 ((coL zss t).length)) ∧ OwnI w15 w13.heap.size (.slice a10 ((coL zss t).length) c11) (coL zss t)) := hide ((unhide KEPT) _ _ (unhide K) b)
  clear b
  go_wp2_with fail
  refine (heldIntS_any _ _ _ _ _ 1 _ (unhide K).2.2.1 (rfl) (by have := hfv; omega) (by omega) (by omega)).mono ?_
  rintro x w16 ⟨rfl, hw⟩
  have b : Below w15.heap.size w15 w16 := by rw [hw]; exact Below.refl _ _
  clear hw
  have S19 : Hid (w15.heap.size ≤ w16.heap.size) := hide b.size
  have K : Hid (Below w.heap.size w w16 ∧ OwnI w16 w2.heap.size (.slice a3 ((coL zss t).length) c4) (coL zss t) ∧ OwnI w16 w4.heap.size (.slice a6 ((coL zss t).length) c7) (markI (coL zss t) 1 ((coL zss t).length)) ∧ OwnI w16 w13.heap.size (.slice a10 ((coL zss t).length) c11) (coL zss t)) := hide ((unhide KEPT) _ _ (unhide K) b)
  clear b
  have nq16 : ¬ (1 + ((coL zss t).length : Int) < 0) := by omega
  have nn16 : (1 + ((coL zss t).length : Int) != 1 + ((coL zss t).length : Int)) = false := by simp
  go_wp2_with fail
  go_ret
  exact ⟨rfl, (unhide K).1⟩
end Go.Proofs.Ythdnokilfmbgobd
