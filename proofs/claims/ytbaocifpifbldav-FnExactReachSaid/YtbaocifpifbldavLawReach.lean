/-
  The law FnExactReach returns true at every argument and writes nothing that was there: the walk. No condition.
-/
import Derived.Test.YtbaocifpifbldavRowPo
import Derived.Test.YtbaocifpifbldavMarkPo
import Derived.Test.YtbaocifpifbldavPfRch
import Derived.Test.YtbaocifpifbldavPfImpl
import Derived.Test.YtbaocifpifbldavOnly
import Derived.Deep.RegionHeld3
namespace Go.Proofs.Ytbaocifpifbldav
open Go.RowKit
set_option maxRecDepth 20000 in
set_option maxHeartbeats 8000000 in
theorem lawReach (la1 : Option Addr) (ll1 lc1 : Nat) (ps : List Po) (up : Int) (down : Int) (w : World) (hrl : RowE 3 poC w la1 ll1 ps)  :
    Calls Try.prog 4 #[.slice la1 ll1 lc1, .int .i64 up, .int .i64 down] w fun x w' => x = .returned (.bool true) ∧ Below w.heap.size w w' := by
  have Rl := hide hrl
  have sml1 := hrl.small
  have El1 := hide hrl.len_eq
  clear hrl
  have hq : (rchK ps up down != rchK ps up down) = false := by simp
  have hq2 : (rchB ps up down != rchB ps up down) = false := by simp
  have hsm := rchL_small ps up down
  go_enter Try.func4, Try.ntmps4
  go_wp2_with fail
  have K : Hid (Below w.heap.size w w) := hide (Below.refl _ _)
  have KEPT : Hid (∀ W u3, (Below w.heap.size w W) → Below W.heap.size W u3 → (Below w.heap.size w u3)) := hide (fun W u3 h b => h.trans (b.mono h.size))
  refine (szPointS_any _ _ _ 1048576 _ sml1 (by omega) (by omega)).mono ?_
  rintro x w1 ⟨⟨r1, rfl, hl⟩, b⟩
  have S0 : Hid (w.heap.size ≤ w1.heap.size) := hide b.size
  have K : Hid (Below w.heap.size w w1) := hide ((unhide KEPT) _ _ (unhide K) b)
  clear b
  rcases hl with hl | ⟨hl, hle, hl1⟩
  · go_wp2_with fail
    go_ret
    exact ⟨rfl, (unhide K)⟩
  have nr1 : ¬ r1 < 0 := by omega
  go_wp2_with fail
  obtain ⟨g2, hg2⟩ : ∃ G, w1.heap.size = G := ⟨_, rfl⟩
  refine (toPointS_own _ _ _ _ _ ((unhide Rl).below (unhide K)) hl1).mono ?_
  rintro x w2 ⟨rfl, oc, b⟩
  rw [hg2] at oc ⊢
  have Bg2 := hide hg2
  clear hg2
  have LT2 : Hid (∀ g, (Value.slice (some ⟨g2, 0, none⟩) ll1 ll1).ownBlock = some g → w1.heap.size ≤ g ∧ g < w2.heap.size) := hide (by have e := unhide Bg2; have l := oc.lies; rw [← e] at l ⊢; exact l)
  have S1 : Hid (w1.heap.size ≤ w2.heap.size) := hide b.size
  have K : Hid (Below w.heap.size w w2) := hide ((unhide KEPT) _ _ (unhide K) b)
  have K : Hid (Below w.heap.size w w2 ∧ OwnE 3 poC w2 w1.heap.size 51 (.slice (some ⟨g2, 0, none⟩) ll1 ll1) ps) := hide ⟨(unhide K), (by have e := unhide Bg2; rw [e]; exact oc)⟩
  clear KEPT oc b
  have KEPT : Hid (∀ W u3, (Below w.heap.size w W ∧ OwnE 3 poC W w1.heap.size 51 (.slice (some ⟨g2, 0, none⟩) ll1 ll1) ps) → Below W.heap.size W u3 → (Below w.heap.size w u3 ∧ OwnE 3 poC u3 w1.heap.size 51 (.slice (some ⟨g2, 0, none⟩) ll1 ll1) ps)) := hide (fun W u3 h b => ⟨h.1.trans (b.mono h.1.size), h.2.below b⟩)
  go_wp2_with fail
  refine (specReach_any _ _ _ _ _ _ _ (unhide K).2.row ).mono ?_
  rintro x w3 ⟨a3, c4, rfl, oW_0, b⟩
  have LW0 : Hid (∀ g, (Value.slice a3 ((rchL ps up down).length) c4).ownBlock = some g → w2.heap.size ≤ g ∧ g < w3.heap.size) := hide oW_0.lies
  have S2 : Hid (w2.heap.size ≤ w3.heap.size) := hide b.size
  have K : Hid (Below w.heap.size w w3 ∧ OwnE 3 poC w3 w1.heap.size 51 (.slice (some ⟨g2, 0, none⟩) ll1 ll1) ps) := hide ((unhide KEPT) _ _ (unhide K) b)
  have K : Hid (Below w.heap.size w w3 ∧ OwnE 3 poC w3 w1.heap.size 51 (.slice (some ⟨g2, 0, none⟩) ll1 ll1) ps ∧ OwnE 3 poC w3 w2.heap.size 51 (.slice a3 ((rchL ps up down).length) c4) (rchL ps up down)) := hide ⟨(unhide K).1, (unhide K).2, oW_0⟩
  clear KEPT
  have KEPT : Hid (∀ W u3, (Below w.heap.size w W ∧ OwnE 3 poC W w1.heap.size 51 (.slice (some ⟨g2, 0, none⟩) ll1 ll1) ps ∧ OwnE 3 poC W w2.heap.size 51 (.slice a3 ((rchL ps up down).length) c4) (rchL ps up down)) → Below W.heap.size W u3 → (Below w.heap.size w u3 ∧ OwnE 3 poC u3 w1.heap.size 51 (.slice (some ⟨g2, 0, none⟩) ll1 ll1) ps ∧ OwnE 3 poC u3 w2.heap.size 51 (.slice a3 ((rchL ps up down).length) c4) (rchL ps up down))) := hide (fun W u3 h b => ⟨h.1.trans (b.mono h.1.size), h.2.1.below b, h.2.2.below b⟩)
  clear oW_0
  clear b
  have K : Hid (Below w.heap.size w w3 ∧ OwnE 3 poC w3 w2.heap.size 51 (.slice a3 ((rchL ps up down).length) c4) (rchL ps up down)) := hide ⟨(unhide K).1, (unhide K).2.2⟩
  clear KEPT
  have KEPT : Hid (∀ W u3, (Below w.heap.size w W ∧ OwnE 3 poC W w2.heap.size 51 (.slice a3 ((rchL ps up down).length) c4) (rchL ps up down)) → Below W.heap.size W u3 → (Below w.heap.size w u3 ∧ OwnE 3 poC u3 w2.heap.size 51 (.slice a3 ((rchL ps up down).length) c4) (rchL ps up down))) := hide (fun W u3 h b => ⟨h.1.trans (b.mono h.1.size), h.2.below b⟩)
  go_wp2_with fail
  obtain ⟨g5, hg5⟩ : ∃ G, w3.heap.size = G := ⟨_, rfl⟩
  refine (toPointS_own _ _ _ _ _ ((unhide Rl).below (unhide K).1) hl1).mono ?_
  rintro x w4 ⟨rfl, oc, b⟩
  rw [hg5] at oc ⊢
  have Bg5 := hide hg5
  clear hg5
  have LXx0 : Hid (∀ g, (Value.slice (some ⟨g5, 0, none⟩) ll1 ll1).ownBlock = some g → w3.heap.size ≤ g ∧ g < w4.heap.size) := hide (by have e := unhide Bg5; have l := oc.lies; rw [← e] at l ⊢; exact l)
  have S3 : Hid (w3.heap.size ≤ w4.heap.size) := hide b.size
  have K : Hid (Below w.heap.size w w4 ∧ OwnE 3 poC w4 w2.heap.size 51 (.slice a3 ((rchL ps up down).length) c4) (rchL ps up down)) := hide ((unhide KEPT) _ _ (unhide K) b)
  have K : Hid (Below w.heap.size w w4 ∧ OwnE 3 poC w4 w2.heap.size 51 (.slice a3 ((rchL ps up down).length) c4) (rchL ps up down) ∧ OwnE 3 poC w4 w3.heap.size 51 (.slice (some ⟨g5, 0, none⟩) ll1 ll1) ps) := hide ⟨(unhide K).1, (unhide K).2, (by have e := unhide Bg5; rw [e]; exact oc)⟩
  clear KEPT oc b
  have KEPT : Hid (∀ W u3, (Below w.heap.size w W ∧ OwnE 3 poC W w2.heap.size 51 (.slice a3 ((rchL ps up down).length) c4) (rchL ps up down) ∧ OwnE 3 poC W w3.heap.size 51 (.slice (some ⟨g5, 0, none⟩) ll1 ll1) ps) → Below W.heap.size W u3 → (Below w.heap.size w u3 ∧ OwnE 3 poC u3 w2.heap.size 51 (.slice a3 ((rchL ps up down).length) c4) (rchL ps up down) ∧ OwnE 3 poC u3 w3.heap.size 51 (.slice (some ⟨g5, 0, none⟩) ll1 ll1) ps)) := hide (fun W u3 h b => ⟨h.1.trans (b.mono h.1.size), h.2.1.below b, h.2.2.below b⟩)
  go_wp2_with fail
  refine (implReach_any _ _ _ _ _ _ _ (unhide K).2.2.row ).mono ?_
  rintro x w5 ⟨a6, c7, rfl, oG_0, b⟩
  have LG0 : Hid (∀ g, (Value.slice a6 ((rchL ps up down).length) c7).ownBlock = some g → w4.heap.size ≤ g ∧ g < w5.heap.size) := hide oG_0.lies
  have S4 : Hid (w4.heap.size ≤ w5.heap.size) := hide b.size
  have K : Hid (Below w.heap.size w w5 ∧ OwnE 3 poC w5 w2.heap.size 51 (.slice a3 ((rchL ps up down).length) c4) (rchL ps up down) ∧ OwnE 3 poC w5 w3.heap.size 51 (.slice (some ⟨g5, 0, none⟩) ll1 ll1) ps) := hide ((unhide KEPT) _ _ (unhide K) b)
  have K : Hid (Below w.heap.size w w5 ∧ OwnE 3 poC w5 w2.heap.size 51 (.slice a3 ((rchL ps up down).length) c4) (rchL ps up down) ∧ OwnE 3 poC w5 w3.heap.size 51 (.slice (some ⟨g5, 0, none⟩) ll1 ll1) ps ∧ OwnE 3 poC w5 w4.heap.size 51 (.slice a6 ((rchL ps up down).length) c7) (rchL ps up down)) := hide ⟨(unhide K).1, (unhide K).2.1, (unhide K).2.2, oG_0⟩
  clear KEPT
  have KEPT : Hid (∀ W u3, (Below w.heap.size w W ∧ OwnE 3 poC W w2.heap.size 51 (.slice a3 ((rchL ps up down).length) c4) (rchL ps up down) ∧ OwnE 3 poC W w3.heap.size 51 (.slice (some ⟨g5, 0, none⟩) ll1 ll1) ps ∧ OwnE 3 poC W w4.heap.size 51 (.slice a6 ((rchL ps up down).length) c7) (rchL ps up down)) → Below W.heap.size W u3 → (Below w.heap.size w u3 ∧ OwnE 3 poC u3 w2.heap.size 51 (.slice a3 ((rchL ps up down).length) c4) (rchL ps up down) ∧ OwnE 3 poC u3 w3.heap.size 51 (.slice (some ⟨g5, 0, none⟩) ll1 ll1) ps ∧ OwnE 3 poC u3 w4.heap.size 51 (.slice a6 ((rchL ps up down).length) c7) (rchL ps up down))) := hide (fun W u3 h b => ⟨h.1.trans (b.mono h.1.size), h.2.1.below b, h.2.2.1.below b, h.2.2.2.below b⟩)
  clear oG_0
  clear b
  go_wp2_with fail
  refine (eqPointS_same _ _ _ _ _ _ _ _ (unhide K).2.2.2.row (unhide K).2.1.row).mono ?_
  rintro x w6 ⟨rfl, b⟩
  have S5 : Hid (w5.heap.size ≤ w6.heap.size) := hide b.size
  have K : Hid (Below w.heap.size w w6 ∧ OwnE 3 poC w6 w2.heap.size 51 (.slice a3 ((rchL ps up down).length) c4) (rchL ps up down) ∧ OwnE 3 poC w6 w3.heap.size 51 (.slice (some ⟨g5, 0, none⟩) ll1 ll1) ps ∧ OwnE 3 poC w6 w4.heap.size 51 (.slice a6 ((rchL ps up down).length) c7) (rchL ps up down)) := hide ((unhide KEPT) _ _ (unhide K) b)
  clear b
  go_wp2_with fail
  obtain ⟨g8, hg8⟩ : ∃ G, w6.heap.size = G := ⟨_, rfl⟩
  refine (toPointS_own _ _ _ _ _ ((unhide Rl).below (unhide K).1) hl1).mono ?_
  rintro x w7 ⟨rfl, oc, b⟩
  rw [hg8] at oc ⊢
  have Bg8 := hide hg8
  clear hg8
  have IC := hide oc.row
  have S6 : Hid (w6.heap.size ≤ w7.heap.size) := hide b.size
  have K : Hid (Below w.heap.size w w7 ∧ OwnE 3 poC w7 w2.heap.size 51 (.slice a3 ((rchL ps up down).length) c4) (rchL ps up down) ∧ OwnE 3 poC w7 w3.heap.size 51 (.slice (some ⟨g5, 0, none⟩) ll1 ll1) ps ∧ OwnE 3 poC w7 w4.heap.size 51 (.slice a6 ((rchL ps up down).length) c7) (rchL ps up down)) := hide ((unhide KEPT) _ _ (unhide K) b)
  clear oc b
  go_wp2_with fail
  refine (eqPointS_same _ _ _ _ _ _ _ _ (unhide K).2.2.1.row (unhide IC)).mono ?_
  rintro x w8 ⟨rfl, b⟩
  have S7 : Hid (w7.heap.size ≤ w8.heap.size) := hide b.size
  have K : Hid (Below w.heap.size w w8 ∧ OwnE 3 poC w8 w2.heap.size 51 (.slice a3 ((rchL ps up down).length) c4) (rchL ps up down) ∧ OwnE 3 poC w8 w3.heap.size 51 (.slice (some ⟨g5, 0, none⟩) ll1 ll1) ps ∧ OwnE 3 poC w8 w4.heap.size 51 (.slice a6 ((rchL ps up down).length) c7) (rchL ps up down)) := hide ((unhide KEPT) _ _ (unhide K) b)
  clear b IC
  go_wp2_with fail
  refine (markPointS_any _ _ _ _ _ 1 _ (unhide K).2.2.1 (unhide El1) (hl1) (by omega) (by omega)).mono ?_
  rintro x w9 ⟨rfl, om, gr⟩
  have on := Only.of_row (lo := w3.heap.size) (hi := w4.heap.size) gr (unhide LXx0)
  have S8 : Hid (w8.heap.size ≤ w9.heap.size) := hide on.size
  have K : Hid (Below w.heap.size w w9 ∧ OwnE 3 poC w9 w2.heap.size 51 (.slice a3 ((rchL ps up down).length) c4) (rchL ps up down) ∧ OwnE 3 poC w9 w4.heap.size 51 (.slice a6 ((rchL ps up down).length) c7) (rchL ps up down)) := hide ⟨below_only (unhide K).1 on (by have s0 := unhide S0; have s1 := unhide S1; have s2 := unhide S2; have s3 := unhide S3; have s4 := unhide S4; have s5 := unhide S5; have s6 := unhide S6; have s7 := unhide S7; have s8 := unhide S8; omega) (Nat.le_refl _), (unhide K).2.1.only on (fun g hg => by have := (unhide LW0) g hg; have s0 := unhide S0; have s1 := unhide S1; have s2 := unhide S2; have s3 := unhide S3; have s4 := unhide S4; have s5 := unhide S5; have s6 := unhide S6; have s7 := unhide S7; have s8 := unhide S8; omega), (unhide K).2.2.2.only on (fun g hg => by have := (unhide LG0) g hg; have s0 := unhide S0; have s1 := unhide S1; have s2 := unhide S2; have s3 := unhide S3; have s4 := unhide S4; have s5 := unhide S5; have s6 := unhide S6; have s7 := unhide S7; have s8 := unhide S8; omega)⟩
  clear KEPT om on gr
  have KEPT : Hid (∀ W u3, (Below w.heap.size w W ∧ OwnE 3 poC W w2.heap.size 51 (.slice a3 ((rchL ps up down).length) c4) (rchL ps up down) ∧ OwnE 3 poC W w4.heap.size 51 (.slice a6 ((rchL ps up down).length) c7) (rchL ps up down)) → Below W.heap.size W u3 → (Below w.heap.size w u3 ∧ OwnE 3 poC u3 w2.heap.size 51 (.slice a3 ((rchL ps up down).length) c4) (rchL ps up down) ∧ OwnE 3 poC u3 w4.heap.size 51 (.slice a6 ((rchL ps up down).length) c7) (rchL ps up down))) := hide (fun W u3 h b => ⟨h.1.trans (b.mono h.1.size), h.2.1.below b, h.2.2.below b⟩)
  have nk9 : ¬ (1 + 3 * (ll1 : Int) < 0) := by omega
  go_wp2_with fail
  refine (eqPointS_same _ _ _ _ _ _ _ _ (unhide K).2.2.row (unhide K).2.1.row).mono ?_
  rintro x w10 ⟨rfl, b⟩
  have S9 : Hid (w9.heap.size ≤ w10.heap.size) := hide b.size
  have K : Hid (Below w.heap.size w w10 ∧ OwnE 3 poC w10 w2.heap.size 51 (.slice a3 ((rchL ps up down).length) c4) (rchL ps up down) ∧ OwnE 3 poC w10 w4.heap.size 51 (.slice a6 ((rchL ps up down).length) c7) (rchL ps up down)) := hide ((unhide KEPT) _ _ (unhide K) b)
  clear b
  go_wp2_with fail
  refine (markPointS_any _ _ _ _ _ 1 _ (unhide K).2.2 (rfl) (by have := hsm; omega) (by omega) (by omega)).mono ?_
  rintro x w11 ⟨rfl, om, gr⟩
  have on := Only.of_row (lo := w4.heap.size) (hi := w5.heap.size) gr (unhide LG0)
  have S10 : Hid (w10.heap.size ≤ w11.heap.size) := hide on.size
  have K : Hid (Below w.heap.size w w11 ∧ OwnE 3 poC w11 w2.heap.size 51 (.slice a3 ((rchL ps up down).length) c4) (rchL ps up down) ∧ OwnE 3 poC w11 w4.heap.size 51 (.slice a6 ((rchL ps up down).length) c7) (markL mkPo 3 (rchL ps up down) 1 ((rchL ps up down).length))) := hide ⟨below_only (unhide K).1 on (by have s0 := unhide S0; have s1 := unhide S1; have s2 := unhide S2; have s3 := unhide S3; have s4 := unhide S4; have s5 := unhide S5; have s6 := unhide S6; have s7 := unhide S7; have s8 := unhide S8; have s9 := unhide S9; have s10 := unhide S10; omega) (Nat.le_refl _), (unhide K).2.1.only on (fun g hg => by have := (unhide LW0) g hg; have s0 := unhide S0; have s1 := unhide S1; have s2 := unhide S2; have s3 := unhide S3; have s4 := unhide S4; have s5 := unhide S5; have s6 := unhide S6; have s7 := unhide S7; have s8 := unhide S8; have s9 := unhide S9; have s10 := unhide S10; omega), om⟩
  clear KEPT om on gr
  have KEPT : Hid (∀ W u3, (Below w.heap.size w W ∧ OwnE 3 poC W w2.heap.size 51 (.slice a3 ((rchL ps up down).length) c4) (rchL ps up down) ∧ OwnE 3 poC W w4.heap.size 51 (.slice a6 ((rchL ps up down).length) c7) (markL mkPo 3 (rchL ps up down) 1 ((rchL ps up down).length))) → Below W.heap.size W u3 → (Below w.heap.size w u3 ∧ OwnE 3 poC u3 w2.heap.size 51 (.slice a3 ((rchL ps up down).length) c4) (rchL ps up down) ∧ OwnE 3 poC u3 w4.heap.size 51 (.slice a6 ((rchL ps up down).length) c7) (markL mkPo 3 (rchL ps up down) 1 ((rchL ps up down).length)))) := hide (fun W u3 h b => ⟨h.1.trans (b.mono h.1.size), h.2.1.below b, h.2.2.below b⟩)
  go_wp2_with fail
  refine (heldPointS_any _ _ _ _ _ 1 _ (unhide K).2.2 (rfl) (by have := hsm; omega) (by omega) (by omega)).mono ?_
  rintro x w12 ⟨rfl, hw⟩
  have b : Below w11.heap.size w11 w12 := by rw [hw]; exact Below.refl _ _
  clear hw
  have S11 : Hid (w11.heap.size ≤ w12.heap.size) := hide b.size
  have K : Hid (Below w.heap.size w w12 ∧ OwnE 3 poC w12 w2.heap.size 51 (.slice a3 ((rchL ps up down).length) c4) (rchL ps up down) ∧ OwnE 3 poC w12 w4.heap.size 51 (.slice a6 ((rchL ps up down).length) c7) (markL mkPo 3 (rchL ps up down) 1 ((rchL ps up down).length))) := hide ((unhide KEPT) _ _ (unhide K) b)
  clear b
  have nq12 : ¬ (1 + 3 * ((rchL ps up down).length : Int) < 0) := by omega
  have nn12 : (1 + 3 * ((rchL ps up down).length : Int) != 1 + 3 * ((rchL ps up down).length : Int)) = false := by simp
  go_wp2_with fail
  obtain ⟨g9, hg9⟩ : ∃ G, w12.heap.size = G := ⟨_, rfl⟩
  refine (toPointS_own _ _ _ _ _ ((unhide Rl).below (unhide K).1) hl1).mono ?_
  rintro x w13 ⟨rfl, oc, b⟩
  rw [hg9] at oc ⊢
  have Bg9 := hide hg9
  clear hg9
  have LT13 : Hid (∀ g, (Value.slice (some ⟨g9, 0, none⟩) ll1 ll1).ownBlock = some g → w12.heap.size ≤ g ∧ g < w13.heap.size) := hide (by have e := unhide Bg9; have l := oc.lies; rw [← e] at l ⊢; exact l)
  have S12 : Hid (w12.heap.size ≤ w13.heap.size) := hide b.size
  have K : Hid (Below w.heap.size w w13 ∧ OwnE 3 poC w13 w2.heap.size 51 (.slice a3 ((rchL ps up down).length) c4) (rchL ps up down) ∧ OwnE 3 poC w13 w4.heap.size 51 (.slice a6 ((rchL ps up down).length) c7) (markL mkPo 3 (rchL ps up down) 1 ((rchL ps up down).length))) := hide ((unhide KEPT) _ _ (unhide K) b)
  have K : Hid (Below w.heap.size w w13 ∧ OwnE 3 poC w13 w2.heap.size 51 (.slice a3 ((rchL ps up down).length) c4) (rchL ps up down) ∧ OwnE 3 poC w13 w4.heap.size 51 (.slice a6 ((rchL ps up down).length) c7) (markL mkPo 3 (rchL ps up down) 1 ((rchL ps up down).length)) ∧ OwnE 3 poC w13 w12.heap.size 51 (.slice (some ⟨g9, 0, none⟩) ll1 ll1) ps) := hide ⟨(unhide K).1, (unhide K).2.1, (unhide K).2.2, (by have e := unhide Bg9; rw [e]; exact oc)⟩
  clear KEPT oc b
  have KEPT : Hid (∀ W u3, (Below w.heap.size w W ∧ OwnE 3 poC W w2.heap.size 51 (.slice a3 ((rchL ps up down).length) c4) (rchL ps up down) ∧ OwnE 3 poC W w4.heap.size 51 (.slice a6 ((rchL ps up down).length) c7) (markL mkPo 3 (rchL ps up down) 1 ((rchL ps up down).length)) ∧ OwnE 3 poC W w12.heap.size 51 (.slice (some ⟨g9, 0, none⟩) ll1 ll1) ps) → Below W.heap.size W u3 → (Below w.heap.size w u3 ∧ OwnE 3 poC u3 w2.heap.size 51 (.slice a3 ((rchL ps up down).length) c4) (rchL ps up down) ∧ OwnE 3 poC u3 w4.heap.size 51 (.slice a6 ((rchL ps up down).length) c7) (markL mkPo 3 (rchL ps up down) 1 ((rchL ps up down).length)) ∧ OwnE 3 poC u3 w12.heap.size 51 (.slice (some ⟨g9, 0, none⟩) ll1 ll1) ps)) := hide (fun W u3 h b => ⟨h.1.trans (b.mono h.1.size), h.2.1.below b, h.2.2.1.below b, h.2.2.2.below b⟩)
  go_wp2_with fail
  refine (implReach_any _ _ _ _ _ _ _ (unhide K).2.2.2.row ).mono ?_
  rintro x w14 ⟨a10, c11, rfl, oH_0, b⟩
  have LH0 : Hid (∀ g, (Value.slice a10 ((rchL ps up down).length) c11).ownBlock = some g → w13.heap.size ≤ g ∧ g < w14.heap.size) := hide oH_0.lies
  have S13 : Hid (w13.heap.size ≤ w14.heap.size) := hide b.size
  have K : Hid (Below w.heap.size w w14 ∧ OwnE 3 poC w14 w2.heap.size 51 (.slice a3 ((rchL ps up down).length) c4) (rchL ps up down) ∧ OwnE 3 poC w14 w4.heap.size 51 (.slice a6 ((rchL ps up down).length) c7) (markL mkPo 3 (rchL ps up down) 1 ((rchL ps up down).length)) ∧ OwnE 3 poC w14 w12.heap.size 51 (.slice (some ⟨g9, 0, none⟩) ll1 ll1) ps) := hide ((unhide KEPT) _ _ (unhide K) b)
  have K : Hid (Below w.heap.size w w14 ∧ OwnE 3 poC w14 w2.heap.size 51 (.slice a3 ((rchL ps up down).length) c4) (rchL ps up down) ∧ OwnE 3 poC w14 w4.heap.size 51 (.slice a6 ((rchL ps up down).length) c7) (markL mkPo 3 (rchL ps up down) 1 ((rchL ps up down).length)) ∧ OwnE 3 poC w14 w12.heap.size 51 (.slice (some ⟨g9, 0, none⟩) ll1 ll1) ps ∧ OwnE 3 poC w14 w13.heap.size 51 (.slice a10 ((rchL ps up down).length) c11) (rchL ps up down)) := hide ⟨(unhide K).1, (unhide K).2.1, (unhide K).2.2.1, (unhide K).2.2.2, oH_0⟩
  clear KEPT
  have KEPT : Hid (∀ W u3, (Below w.heap.size w W ∧ OwnE 3 poC W w2.heap.size 51 (.slice a3 ((rchL ps up down).length) c4) (rchL ps up down) ∧ OwnE 3 poC W w4.heap.size 51 (.slice a6 ((rchL ps up down).length) c7) (markL mkPo 3 (rchL ps up down) 1 ((rchL ps up down).length)) ∧ OwnE 3 poC W w12.heap.size 51 (.slice (some ⟨g9, 0, none⟩) ll1 ll1) ps ∧ OwnE 3 poC W w13.heap.size 51 (.slice a10 ((rchL ps up down).length) c11) (rchL ps up down)) → Below W.heap.size W u3 → (Below w.heap.size w u3 ∧ OwnE 3 poC u3 w2.heap.size 51 (.slice a3 ((rchL ps up down).length) c4) (rchL ps up down) ∧ OwnE 3 poC u3 w4.heap.size 51 (.slice a6 ((rchL ps up down).length) c7) (markL mkPo 3 (rchL ps up down) 1 ((rchL ps up down).length)) ∧ OwnE 3 poC u3 w12.heap.size 51 (.slice (some ⟨g9, 0, none⟩) ll1 ll1) ps ∧ OwnE 3 poC u3 w13.heap.size 51 (.slice a10 ((rchL ps up down).length) c11) (rchL ps up down))) := hide (fun W u3 h b => ⟨h.1.trans (b.mono h.1.size), h.2.1.below b, h.2.2.1.below b, h.2.2.2.1.below b, h.2.2.2.2.below b⟩)
  clear oH_0
  clear b
  have K : Hid (Below w.heap.size w w14 ∧ OwnE 3 poC w14 w2.heap.size 51 (.slice a3 ((rchL ps up down).length) c4) (rchL ps up down) ∧ OwnE 3 poC w14 w4.heap.size 51 (.slice a6 ((rchL ps up down).length) c7) (markL mkPo 3 (rchL ps up down) 1 ((rchL ps up down).length)) ∧ OwnE 3 poC w14 w13.heap.size 51 (.slice a10 ((rchL ps up down).length) c11) (rchL ps up down)) := hide ⟨(unhide K).1, (unhide K).2.1, (unhide K).2.2.1, (unhide K).2.2.2.2⟩
  clear KEPT
  have KEPT : Hid (∀ W u3, (Below w.heap.size w W ∧ OwnE 3 poC W w2.heap.size 51 (.slice a3 ((rchL ps up down).length) c4) (rchL ps up down) ∧ OwnE 3 poC W w4.heap.size 51 (.slice a6 ((rchL ps up down).length) c7) (markL mkPo 3 (rchL ps up down) 1 ((rchL ps up down).length)) ∧ OwnE 3 poC W w13.heap.size 51 (.slice a10 ((rchL ps up down).length) c11) (rchL ps up down)) → Below W.heap.size W u3 → (Below w.heap.size w u3 ∧ OwnE 3 poC u3 w2.heap.size 51 (.slice a3 ((rchL ps up down).length) c4) (rchL ps up down) ∧ OwnE 3 poC u3 w4.heap.size 51 (.slice a6 ((rchL ps up down).length) c7) (markL mkPo 3 (rchL ps up down) 1 ((rchL ps up down).length)) ∧ OwnE 3 poC u3 w13.heap.size 51 (.slice a10 ((rchL ps up down).length) c11) (rchL ps up down))) := hide (fun W u3 h b => ⟨h.1.trans (b.mono h.1.size), h.2.1.below b, h.2.2.1.below b, h.2.2.2.below b⟩)
  go_wp2_with fail
  refine (eqPointS_same _ _ _ _ _ _ _ _ (unhide K).2.2.2.row (unhide K).2.1.row).mono ?_
  rintro x w15 ⟨rfl, b⟩
  have S14 : Hid (w14.heap.size ≤ w15.heap.size) := hide b.size
  have K : Hid (Below w.heap.size w w15 ∧ OwnE 3 poC w15 w2.heap.size 51 (.slice a3 ((rchL ps up down).length) c4) (rchL ps up down) ∧ OwnE 3 poC w15 w4.heap.size 51 (.slice a6 ((rchL ps up down).length) c7) (markL mkPo 3 (rchL ps up down) 1 ((rchL ps up down).length)) ∧ OwnE 3 poC w15 w13.heap.size 51 (.slice a10 ((rchL ps up down).length) c11) (rchL ps up down)) := hide ((unhide KEPT) _ _ (unhide K) b)
  clear b
  go_wp2_with fail
  refine (heldPointS_any _ _ _ _ _ 1 _ (unhide K).2.2.1 (rfl) (by have := hsm; omega) (by omega) (by omega)).mono ?_
  rintro x w16 ⟨rfl, hw⟩
  have b : Below w15.heap.size w15 w16 := by rw [hw]; exact Below.refl _ _
  clear hw
  have S15 : Hid (w15.heap.size ≤ w16.heap.size) := hide b.size
  have K : Hid (Below w.heap.size w w16 ∧ OwnE 3 poC w16 w2.heap.size 51 (.slice a3 ((rchL ps up down).length) c4) (rchL ps up down) ∧ OwnE 3 poC w16 w4.heap.size 51 (.slice a6 ((rchL ps up down).length) c7) (markL mkPo 3 (rchL ps up down) 1 ((rchL ps up down).length)) ∧ OwnE 3 poC w16 w13.heap.size 51 (.slice a10 ((rchL ps up down).length) c11) (rchL ps up down)) := hide ((unhide KEPT) _ _ (unhide K) b)
  clear b
  have nq16 : ¬ (1 + 3 * ((rchL ps up down).length : Int) < 0) := by omega
  have nn16 : (1 + 3 * ((rchL ps up down).length : Int) != 1 + 3 * ((rchL ps up down).length : Int)) = false := by simp
  go_wp2_with fail
  go_ret
  exact ⟨rfl, (unhide K).1⟩
end Go.Proofs.Ytbaocifpifbldav
