/-
  The law FnExactUnpack20 returns true at every argument and writes nothing that was there: the walk. No condition.
-/
import Derived.Test.YthdnokilfmbgobdUnAny
import Derived.Test.YthdnokilfmbgobdRowBy
import Derived.Test.YthdnokilfmbgobdOnly
import Derived.Deep.RegionHeld3
namespace Go.Proofs.Ythdnokilfmbgobd
open Go.RowKit
set_option maxRecDepth 20000 in
set_option maxHeartbeats 8000000 in
theorem lawUnpack20 (ba1 : Option Addr) (bl1 bc1 : Nat) (bs : List Int) (w : World) (hrb : RowE 1 byC w ba1 bl1 bs) (hby : ∀ i, i < bl1 → 0 ≤ elAt bs i ∧ elAt bs i ≤ 255) :
    Calls Try.prog 3 #[.slice ba1 bl1 bc1] w fun x w' => x = .returned (.bool true) ∧ Below w.heap.size w w' := by
  have Rb := hide hrb
  have smb1 := hrb.small
  have Eb1 := hide hrb.len_eq
  clear hrb
  have HBY := hide hby
  clear hby
  by_cases gb : (1048576 : Int) < bl1
  · go_enter Try.func3, Try.ntmps3
    go_wp2_with fail
    go_ret
    exact ⟨rfl, Below.refl _ _⟩
  have hb1 : bl1 ≤ 1048576 := by omega
  have hq0 : (unCo bs != unCo bs) = false := by simp
  have hq1 : (unPl bs != unPl bs) = false := by simp
  go_enter Try.func3, Try.ntmps3
  go_wp2_with fail
  have K : Hid (Below w.heap.size w w) := hide (Below.refl _ _)
  have KEPT : Hid (∀ W u3, (Below w.heap.size w W) → Below W.heap.size W u3 → (Below w.heap.size w u3)) := hide (fun W u3 h b => h.trans (b.mono h.size))
  obtain ⟨g1, hg1⟩ : ∃ G, w.heap.size = G := ⟨_, rfl⟩
  refine (toByteS_own _ _ _ _ _ ((unhide Rb).below (unhide K)) hb1).mono ?_
  rintro x w1 ⟨rfl, oc, b⟩
  rw [hg1] at oc ⊢
  have Bg1 := hide hg1
  clear hg1
  have LT1 : Hid (∀ g, (Value.slice (some ⟨g1, 0, none⟩) bl1 bl1).ownBlock = some g → w.heap.size ≤ g ∧ g < w1.heap.size) := hide (by have e := unhide Bg1; have l := oc.lies; rw [← e] at l ⊢; exact l)
  have S0 : Hid (w.heap.size ≤ w1.heap.size) := hide b.size
  have K : Hid (Below w.heap.size w w1) := hide ((unhide KEPT) _ _ (unhide K) b)
  have K : Hid (Below w.heap.size w w1 ∧ OwnE 1 byC w1 w.heap.size 5 (.slice (some ⟨g1, 0, none⟩) bl1 bl1) bs) := hide ⟨(unhide K), (by have e := unhide Bg1; rw [e]; exact oc)⟩
  clear KEPT oc b
  have KEPT : Hid (∀ W u3, (Below w.heap.size w W ∧ OwnE 1 byC W w.heap.size 5 (.slice (some ⟨g1, 0, none⟩) bl1 bl1) bs) → Below W.heap.size W u3 → (Below w.heap.size w u3 ∧ OwnE 1 byC u3 w.heap.size 5 (.slice (some ⟨g1, 0, none⟩) bl1 bl1) bs)) := hide (fun W u3 h b => ⟨h.1.trans (b.mono h.1.size), h.2.below b⟩)
  go_wp2_with fail
  refine (specUnpack20_any _ _ _ _ _ (unhide K).2.row (unhide HBY) hb1).mono ?_
  rintro x w2 ⟨g2, c3, ws4, rfl, oW_0, b⟩
  have LW0 : Hid (RrLies w1.heap.size w2.heap.size (.slice (some ⟨g2, 0, none⟩) ((unLs bs).length) c3) ws4) := hide oW_0.lies
  have FW0 := hide (oW_0.fit (unLs_fit (fun i hi => (unhide HBY) i (by rw [← unhide Eb1]; exact hi))).1 (unLs_fit (fun i hi => (unhide HBY) i (by rw [← unhide Eb1]; exact hi))).2)
  have S1 : Hid (w1.heap.size ≤ w2.heap.size) := hide b.size
  have K : Hid (Below w.heap.size w w2 ∧ OwnE 1 byC w2 w.heap.size 5 (.slice (some ⟨g1, 0, none⟩) bl1 bl1) bs) := hide ((unhide KEPT) _ _ (unhide K) b)
  have K : Hid (Below w.heap.size w w2 ∧ OwnE 1 byC w2 w.heap.size 5 (.slice (some ⟨g1, 0, none⟩) bl1 bl1) bs ∧ OwnRT w2 w1.heap.size (.slice (some ⟨g2, 0, none⟩) ((unLs bs).length) c3) ws4 (unLs bs)) := hide ⟨(unhide K).1, (unhide K).2, oW_0⟩
  clear KEPT
  have KEPT : Hid (∀ W u3, (Below w.heap.size w W ∧ OwnE 1 byC W w.heap.size 5 (.slice (some ⟨g1, 0, none⟩) bl1 bl1) bs ∧ OwnRT W w1.heap.size (.slice (some ⟨g2, 0, none⟩) ((unLs bs).length) c3) ws4 (unLs bs)) → Below W.heap.size W u3 → (Below w.heap.size w u3 ∧ OwnE 1 byC u3 w.heap.size 5 (.slice (some ⟨g1, 0, none⟩) bl1 bl1) bs ∧ OwnRT u3 w1.heap.size (.slice (some ⟨g2, 0, none⟩) ((unLs bs).length) c3) ws4 (unLs bs))) := hide (fun W u3 h b => ⟨h.1.trans (b.mono h.1.size), h.2.1.below b, h.2.2.below b⟩)
  clear oW_0
  clear b
  have K : Hid (Below w.heap.size w w2 ∧ OwnRT w2 w1.heap.size (.slice (some ⟨g2, 0, none⟩) ((unLs bs).length) c3) ws4 (unLs bs)) := hide ⟨(unhide K).1, (unhide K).2.2⟩
  clear KEPT
  have KEPT : Hid (∀ W u3, (Below w.heap.size w W ∧ OwnRT W w1.heap.size (.slice (some ⟨g2, 0, none⟩) ((unLs bs).length) c3) ws4 (unLs bs)) → Below W.heap.size W u3 → (Below w.heap.size w u3 ∧ OwnRT u3 w1.heap.size (.slice (some ⟨g2, 0, none⟩) ((unLs bs).length) c3) ws4 (unLs bs))) := hide (fun W u3 h b => ⟨h.1.trans (b.mono h.1.size), h.2.below b⟩)
  go_wp2_with fail
  obtain ⟨g5, hg5⟩ : ∃ G, w2.heap.size = G := ⟨_, rfl⟩
  refine (toByteS_own _ _ _ _ _ ((unhide Rb).below (unhide K).1) hb1).mono ?_
  rintro x w3 ⟨rfl, oc, b⟩
  rw [hg5] at oc ⊢
  have Bg5 := hide hg5
  clear hg5
  have LXx0 : Hid (∀ g, (Value.slice (some ⟨g5, 0, none⟩) bl1 bl1).ownBlock = some g → w2.heap.size ≤ g ∧ g < w3.heap.size) := hide (by have e := unhide Bg5; have l := oc.lies; rw [← e] at l ⊢; exact l)
  have S2 : Hid (w2.heap.size ≤ w3.heap.size) := hide b.size
  have K : Hid (Below w.heap.size w w3 ∧ OwnRT w3 w1.heap.size (.slice (some ⟨g2, 0, none⟩) ((unLs bs).length) c3) ws4 (unLs bs)) := hide ((unhide KEPT) _ _ (unhide K) b)
  have K : Hid (Below w.heap.size w w3 ∧ OwnRT w3 w1.heap.size (.slice (some ⟨g2, 0, none⟩) ((unLs bs).length) c3) ws4 (unLs bs) ∧ OwnE 1 byC w3 w2.heap.size 5 (.slice (some ⟨g5, 0, none⟩) bl1 bl1) bs) := hide ⟨(unhide K).1, (unhide K).2, (by have e := unhide Bg5; rw [e]; exact oc)⟩
  clear KEPT oc b
  have KEPT : Hid (∀ W u3, (Below w.heap.size w W ∧ OwnRT W w1.heap.size (.slice (some ⟨g2, 0, none⟩) ((unLs bs).length) c3) ws4 (unLs bs) ∧ OwnE 1 byC W w2.heap.size 5 (.slice (some ⟨g5, 0, none⟩) bl1 bl1) bs) → Below W.heap.size W u3 → (Below w.heap.size w u3 ∧ OwnRT u3 w1.heap.size (.slice (some ⟨g2, 0, none⟩) ((unLs bs).length) c3) ws4 (unLs bs) ∧ OwnE 1 byC u3 w2.heap.size 5 (.slice (some ⟨g5, 0, none⟩) bl1 bl1) bs)) := hide (fun W u3 h b => ⟨h.1.trans (b.mono h.1.size), h.2.1.below b, h.2.2.below b⟩)
  go_wp2_with fail
  refine (implUnpack20_own _ _ _ _ _ _ (unhide K).2.2 (by simp) (unhide HBY) hb1).mono ?_
  rintro x w4 ⟨g6, c7, ws8, rfl, oG_0, b⟩
  have LG0 : Hid (RrLies w3.heap.size w4.heap.size (.slice (some ⟨g6, 0, none⟩) ((unLs bs).length) c7) ws8) := hide oG_0.lies
  have FG0 := hide (oG_0.fit (unLs_fit (fun i hi => (unhide HBY) i (by rw [← unhide Eb1]; exact hi))).1 (unLs_fit (fun i hi => (unhide HBY) i (by rw [← unhide Eb1]; exact hi))).2)
  have S3 : Hid (w3.heap.size ≤ w4.heap.size) := hide b.size
  have K : Hid (Below w.heap.size w w4 ∧ OwnRT w4 w1.heap.size (.slice (some ⟨g2, 0, none⟩) ((unLs bs).length) c3) ws4 (unLs bs) ∧ OwnE 1 byC w4 w2.heap.size 5 (.slice (some ⟨g5, 0, none⟩) bl1 bl1) bs) := hide ((unhide KEPT) _ _ (unhide K) b)
  have K : Hid (Below w.heap.size w w4 ∧ OwnRT w4 w1.heap.size (.slice (some ⟨g2, 0, none⟩) ((unLs bs).length) c3) ws4 (unLs bs) ∧ OwnE 1 byC w4 w2.heap.size 5 (.slice (some ⟨g5, 0, none⟩) bl1 bl1) bs ∧ OwnRT w4 w3.heap.size (.slice (some ⟨g6, 0, none⟩) ((unLs bs).length) c7) ws8 (unLs bs)) := hide ⟨(unhide K).1, (unhide K).2.1, (unhide K).2.2, oG_0⟩
  clear KEPT
  have KEPT : Hid (∀ W u3, (Below w.heap.size w W ∧ OwnRT W w1.heap.size (.slice (some ⟨g2, 0, none⟩) ((unLs bs).length) c3) ws4 (unLs bs) ∧ OwnE 1 byC W w2.heap.size 5 (.slice (some ⟨g5, 0, none⟩) bl1 bl1) bs ∧ OwnRT W w3.heap.size (.slice (some ⟨g6, 0, none⟩) ((unLs bs).length) c7) ws8 (unLs bs)) → Below W.heap.size W u3 → (Below w.heap.size w u3 ∧ OwnRT u3 w1.heap.size (.slice (some ⟨g2, 0, none⟩) ((unLs bs).length) c3) ws4 (unLs bs) ∧ OwnE 1 byC u3 w2.heap.size 5 (.slice (some ⟨g5, 0, none⟩) bl1 bl1) bs ∧ OwnRT u3 w3.heap.size (.slice (some ⟨g6, 0, none⟩) ((unLs bs).length) c7) ws8 (unLs bs))) := hide (fun W u3 h b => ⟨h.1.trans (b.mono h.1.size), h.2.1.below b, h.2.2.1.below b, h.2.2.2.below b⟩)
  clear oG_0
  clear b
  go_wp2_with fail
  refine (eqIntSSR_same _ _ _ _ _ _ _ _ _ (unhide K).2.2.2.o (unhide K).2.1.o ((unhide K).2.2.2.con.trans (unhide K).2.1.con.symm) (by rw [(unhide FG0).len]; exact (unhide FG0).few) (by rw [(unhide FW0).len]; exact (unhide FW0).few)).mono ?_
  rintro x w5 ⟨rfl, b⟩
  have S4 : Hid (w4.heap.size ≤ w5.heap.size) := hide b.size
  have K : Hid (Below w.heap.size w w5 ∧ OwnRT w5 w1.heap.size (.slice (some ⟨g2, 0, none⟩) ((unLs bs).length) c3) ws4 (unLs bs) ∧ OwnE 1 byC w5 w2.heap.size 5 (.slice (some ⟨g5, 0, none⟩) bl1 bl1) bs ∧ OwnRT w5 w3.heap.size (.slice (some ⟨g6, 0, none⟩) ((unLs bs).length) c7) ws8 (unLs bs)) := hide ((unhide KEPT) _ _ (unhide K) b)
  clear b
  go_wp2_with fail
  obtain ⟨g9, hg9⟩ : ∃ G, w5.heap.size = G := ⟨_, rfl⟩
  refine (toByteS_own _ _ _ _ _ ((unhide Rb).below (unhide K).1) hb1).mono ?_
  rintro x w6 ⟨rfl, oc, b⟩
  rw [hg9] at oc ⊢
  have Bg9 := hide hg9
  clear hg9
  have IC := hide oc.row
  have S5 : Hid (w5.heap.size ≤ w6.heap.size) := hide b.size
  have K : Hid (Below w.heap.size w w6 ∧ OwnRT w6 w1.heap.size (.slice (some ⟨g2, 0, none⟩) ((unLs bs).length) c3) ws4 (unLs bs) ∧ OwnE 1 byC w6 w2.heap.size 5 (.slice (some ⟨g5, 0, none⟩) bl1 bl1) bs ∧ OwnRT w6 w3.heap.size (.slice (some ⟨g6, 0, none⟩) ((unLs bs).length) c7) ws8 (unLs bs)) := hide ((unhide KEPT) _ _ (unhide K) b)
  clear oc b
  go_wp2_with fail
  refine (eqByteS_same _ _ _ _ _ _ _ _ (unhide K).2.2.1.row (unhide IC)).mono ?_
  rintro x w7 ⟨rfl, b⟩
  have S6 : Hid (w6.heap.size ≤ w7.heap.size) := hide b.size
  have K : Hid (Below w.heap.size w w7 ∧ OwnRT w7 w1.heap.size (.slice (some ⟨g2, 0, none⟩) ((unLs bs).length) c3) ws4 (unLs bs) ∧ OwnE 1 byC w7 w2.heap.size 5 (.slice (some ⟨g5, 0, none⟩) bl1 bl1) bs ∧ OwnRT w7 w3.heap.size (.slice (some ⟨g6, 0, none⟩) ((unLs bs).length) c7) ws8 (unLs bs)) := hide ((unhide KEPT) _ _ (unhide K) b)
  clear b IC
  go_wp2_with fail
  refine (markByteS_any _ _ _ _ _ 1 _ (unhide K).2.2.1 (unhide Eb1) (hb1) (by omega) (by omega)).mono ?_
  rintro x w8 ⟨rfl, om, gr⟩
  have on := Only.of_row (lo := w2.heap.size) (hi := w3.heap.size) gr (unhide LXx0)
  have S7 : Hid (w7.heap.size ≤ w8.heap.size) := hide on.size
  have K : Hid (Below w.heap.size w w8 ∧ OwnRT w8 w1.heap.size (.slice (some ⟨g2, 0, none⟩) ((unLs bs).length) c3) ws4 (unLs bs) ∧ OwnRT w8 w3.heap.size (.slice (some ⟨g6, 0, none⟩) ((unLs bs).length) c7) ws8 (unLs bs)) := hide ⟨below_only (unhide K).1 on (by have s0 := unhide S0; have s1 := unhide S1; have s2 := unhide S2; have s3 := unhide S3; have s4 := unhide S4; have s5 := unhide S5; have s6 := unhide S6; have s7 := unhide S7; omega) (Nat.le_refl _), (unhide K).2.1.only on (unhide LW0) (by have s0 := unhide S0; have s1 := unhide S1; have s2 := unhide S2; have s3 := unhide S3; have s4 := unhide S4; have s5 := unhide S5; have s6 := unhide S6; have s7 := unhide S7; omega), (unhide K).2.2.2.only on (unhide LG0) (by have s0 := unhide S0; have s1 := unhide S1; have s2 := unhide S2; have s3 := unhide S3; have s4 := unhide S4; have s5 := unhide S5; have s6 := unhide S6; have s7 := unhide S7; omega)⟩
  clear KEPT om on gr
  have KEPT : Hid (∀ W u3, (Below w.heap.size w W ∧ OwnRT W w1.heap.size (.slice (some ⟨g2, 0, none⟩) ((unLs bs).length) c3) ws4 (unLs bs) ∧ OwnRT W w3.heap.size (.slice (some ⟨g6, 0, none⟩) ((unLs bs).length) c7) ws8 (unLs bs)) → Below W.heap.size W u3 → (Below w.heap.size w u3 ∧ OwnRT u3 w1.heap.size (.slice (some ⟨g2, 0, none⟩) ((unLs bs).length) c3) ws4 (unLs bs) ∧ OwnRT u3 w3.heap.size (.slice (some ⟨g6, 0, none⟩) ((unLs bs).length) c7) ws8 (unLs bs))) := hide (fun W u3 h b => ⟨h.1.trans (b.mono h.1.size), h.2.1.below b, h.2.2.below b⟩)
  have nk8 : ¬ (1 + (bl1 : Int) < 0) := by omega
  go_wp2_with fail
  refine (eqIntSSR_same _ _ _ _ _ _ _ _ _ (unhide K).2.2.o (unhide K).2.1.o ((unhide K).2.2.con.trans (unhide K).2.1.con.symm) (by rw [(unhide FG0).len]; exact (unhide FG0).few) (by rw [(unhide FW0).len]; exact (unhide FW0).few)).mono ?_
  rintro x w9 ⟨rfl, b⟩
  have S8 : Hid (w8.heap.size ≤ w9.heap.size) := hide b.size
  have K : Hid (Below w.heap.size w w9 ∧ OwnRT w9 w1.heap.size (.slice (some ⟨g2, 0, none⟩) ((unLs bs).length) c3) ws4 (unLs bs) ∧ OwnRT w9 w3.heap.size (.slice (some ⟨g6, 0, none⟩) ((unLs bs).length) c7) ws8 (unLs bs)) := hide ((unhide KEPT) _ _ (unhide K) b)
  clear b
  go_wp2_with fail
  refine (markIntSSR_own _ _ _ _ ws8 1 _ (unhide K).2.2.o (unhide FG0).len (by have := (unhide FG0).few; omega) (unhide FG0).d32 (by omega) (by omega) _ _ (unhide LG0)).mono ?_
  rintro x w10 ⟨rfl, om, on⟩
  have kb10 := kR_le (unhide FG0) 1
  have S9 : Hid (w9.heap.size ≤ w10.heap.size) := hide on.size
  have K : Hid (Below w.heap.size w w10 ∧ OwnRT w10 w1.heap.size (.slice (some ⟨g2, 0, none⟩) ((unLs bs).length) c3) ws4 (unLs bs) ∧ OwnRr w10 w3.heap.size (.slice (some ⟨g6, 0, none⟩) ((unLs bs).length) c7) (markRr ws8 1 ((unLs bs).length))) := hide ⟨below_only (unhide K).1 on (by have s0 := unhide S0; have s1 := unhide S1; have s2 := unhide S2; have s3 := unhide S3; have s4 := unhide S4; have s5 := unhide S5; have s6 := unhide S6; have s7 := unhide S7; have s8 := unhide S8; have s9 := unhide S9; omega) (Nat.le_refl _), (unhide K).2.1.only on (unhide LW0) (by have s0 := unhide S0; have s1 := unhide S1; have s2 := unhide S2; have s3 := unhide S3; have s4 := unhide S4; have s5 := unhide S5; have s6 := unhide S6; have s7 := unhide S7; have s8 := unhide S8; have s9 := unhide S9; omega), om⟩
  clear KEPT om on
  have KEPT : Hid (∀ W u3, (Below w.heap.size w W ∧ OwnRT W w1.heap.size (.slice (some ⟨g2, 0, none⟩) ((unLs bs).length) c3) ws4 (unLs bs) ∧ OwnRr W w3.heap.size (.slice (some ⟨g6, 0, none⟩) ((unLs bs).length) c7) (markRr ws8 1 ((unLs bs).length))) → Below W.heap.size W u3 → (Below w.heap.size w u3 ∧ OwnRT u3 w1.heap.size (.slice (some ⟨g2, 0, none⟩) ((unLs bs).length) c3) ws4 (unLs bs) ∧ OwnRr u3 w3.heap.size (.slice (some ⟨g6, 0, none⟩) ((unLs bs).length) c7) (markRr ws8 1 ((unLs bs).length)))) := hide (fun W u3 h b => ⟨h.1.trans (b.mono h.1.size), h.2.1.below b, h.2.2.below b⟩)
  go_wp2_with fail
  refine (heldIntSSR_any _ _ _ _ ws8 1 _ (unhide K).2.2 (unhide FG0).len (by have := (unhide FG0).few; omega) (unhide FG0).d32 (unhide FG0).dn (by omega) (by omega)).mono ?_
  rintro x w11 ⟨rfl, hw⟩
  have b : Below w10.heap.size w10 w11 := by rw [hw]; exact Below.refl _ _
  clear hw
  have S10 : Hid (w10.heap.size ≤ w11.heap.size) := hide b.size
  have K : Hid (Below w.heap.size w w11 ∧ OwnRT w11 w1.heap.size (.slice (some ⟨g2, 0, none⟩) ((unLs bs).length) c3) ws4 (unLs bs) ∧ OwnRr w11 w3.heap.size (.slice (some ⟨g6, 0, none⟩) ((unLs bs).length) c7) (markRr ws8 1 ((unLs bs).length))) := hide ((unhide KEPT) _ _ (unhide K) b)
  clear b
  have nq11 : ¬ (kR ws8 1 ((unLs bs).length) < 0) := by omega
  have nn11 : (kR ws8 1 ((unLs bs).length) != kR ws8 1 ((unLs bs).length)) = false := by simp
  go_wp2_with fail
  obtain ⟨g10, hg10⟩ : ∃ G, w11.heap.size = G := ⟨_, rfl⟩
  refine (toByteS_own _ _ _ _ _ ((unhide Rb).below (unhide K).1) hb1).mono ?_
  rintro x w12 ⟨rfl, oc, b⟩
  rw [hg10] at oc ⊢
  have Bg10 := hide hg10
  clear hg10
  have LT12 : Hid (∀ g, (Value.slice (some ⟨g10, 0, none⟩) bl1 bl1).ownBlock = some g → w11.heap.size ≤ g ∧ g < w12.heap.size) := hide (by have e := unhide Bg10; have l := oc.lies; rw [← e] at l ⊢; exact l)
  have S11 : Hid (w11.heap.size ≤ w12.heap.size) := hide b.size
  have K : Hid (Below w.heap.size w w12 ∧ OwnRT w12 w1.heap.size (.slice (some ⟨g2, 0, none⟩) ((unLs bs).length) c3) ws4 (unLs bs) ∧ OwnRr w12 w3.heap.size (.slice (some ⟨g6, 0, none⟩) ((unLs bs).length) c7) (markRr ws8 1 ((unLs bs).length))) := hide ((unhide KEPT) _ _ (unhide K) b)
  have K : Hid (Below w.heap.size w w12 ∧ OwnRT w12 w1.heap.size (.slice (some ⟨g2, 0, none⟩) ((unLs bs).length) c3) ws4 (unLs bs) ∧ OwnRr w12 w3.heap.size (.slice (some ⟨g6, 0, none⟩) ((unLs bs).length) c7) (markRr ws8 1 ((unLs bs).length)) ∧ OwnE 1 byC w12 w11.heap.size 5 (.slice (some ⟨g10, 0, none⟩) bl1 bl1) bs) := hide ⟨(unhide K).1, (unhide K).2.1, (unhide K).2.2, (by have e := unhide Bg10; rw [e]; exact oc)⟩
  clear KEPT oc b
  have KEPT : Hid (∀ W u3, (Below w.heap.size w W ∧ OwnRT W w1.heap.size (.slice (some ⟨g2, 0, none⟩) ((unLs bs).length) c3) ws4 (unLs bs) ∧ OwnRr W w3.heap.size (.slice (some ⟨g6, 0, none⟩) ((unLs bs).length) c7) (markRr ws8 1 ((unLs bs).length)) ∧ OwnE 1 byC W w11.heap.size 5 (.slice (some ⟨g10, 0, none⟩) bl1 bl1) bs) → Below W.heap.size W u3 → (Below w.heap.size w u3 ∧ OwnRT u3 w1.heap.size (.slice (some ⟨g2, 0, none⟩) ((unLs bs).length) c3) ws4 (unLs bs) ∧ OwnRr u3 w3.heap.size (.slice (some ⟨g6, 0, none⟩) ((unLs bs).length) c7) (markRr ws8 1 ((unLs bs).length)) ∧ OwnE 1 byC u3 w11.heap.size 5 (.slice (some ⟨g10, 0, none⟩) bl1 bl1) bs)) := hide (fun W u3 h b => ⟨h.1.trans (b.mono h.1.size), h.2.1.below b, h.2.2.1.below b, h.2.2.2.below b⟩)
  go_wp2_with fail
  refine (implUnpack20_own _ _ _ _ _ _ (unhide K).2.2.2 (by simp) (unhide HBY) hb1).mono ?_
  rintro x w13 ⟨g11, c12, ws13, rfl, oH_0, b⟩
  have LH0 : Hid (RrLies w12.heap.size w13.heap.size (.slice (some ⟨g11, 0, none⟩) ((unLs bs).length) c12) ws13) := hide oH_0.lies
  have FH0 := hide (oH_0.fit (unLs_fit (fun i hi => (unhide HBY) i (by rw [← unhide Eb1]; exact hi))).1 (unLs_fit (fun i hi => (unhide HBY) i (by rw [← unhide Eb1]; exact hi))).2)
  have S12 : Hid (w12.heap.size ≤ w13.heap.size) := hide b.size
  have K : Hid (Below w.heap.size w w13 ∧ OwnRT w13 w1.heap.size (.slice (some ⟨g2, 0, none⟩) ((unLs bs).length) c3) ws4 (unLs bs) ∧ OwnRr w13 w3.heap.size (.slice (some ⟨g6, 0, none⟩) ((unLs bs).length) c7) (markRr ws8 1 ((unLs bs).length)) ∧ OwnE 1 byC w13 w11.heap.size 5 (.slice (some ⟨g10, 0, none⟩) bl1 bl1) bs) := hide ((unhide KEPT) _ _ (unhide K) b)
  have K : Hid (Below w.heap.size w w13 ∧ OwnRT w13 w1.heap.size (.slice (some ⟨g2, 0, none⟩) ((unLs bs).length) c3) ws4 (unLs bs) ∧ OwnRr w13 w3.heap.size (.slice (some ⟨g6, 0, none⟩) ((unLs bs).length) c7) (markRr ws8 1 ((unLs bs).length)) ∧ OwnE 1 byC w13 w11.heap.size 5 (.slice (some ⟨g10, 0, none⟩) bl1 bl1) bs ∧ OwnRT w13 w12.heap.size (.slice (some ⟨g11, 0, none⟩) ((unLs bs).length) c12) ws13 (unLs bs)) := hide ⟨(unhide K).1, (unhide K).2.1, (unhide K).2.2.1, (unhide K).2.2.2, oH_0⟩
  clear KEPT
  have KEPT : Hid (∀ W u3, (Below w.heap.size w W ∧ OwnRT W w1.heap.size (.slice (some ⟨g2, 0, none⟩) ((unLs bs).length) c3) ws4 (unLs bs) ∧ OwnRr W w3.heap.size (.slice (some ⟨g6, 0, none⟩) ((unLs bs).length) c7) (markRr ws8 1 ((unLs bs).length)) ∧ OwnE 1 byC W w11.heap.size 5 (.slice (some ⟨g10, 0, none⟩) bl1 bl1) bs ∧ OwnRT W w12.heap.size (.slice (some ⟨g11, 0, none⟩) ((unLs bs).length) c12) ws13 (unLs bs)) → Below W.heap.size W u3 → (Below w.heap.size w u3 ∧ OwnRT u3 w1.heap.size (.slice (some ⟨g2, 0, none⟩) ((unLs bs).length) c3) ws4 (unLs bs) ∧ OwnRr u3 w3.heap.size (.slice (some ⟨g6, 0, none⟩) ((unLs bs).length) c7) (markRr ws8 1 ((unLs bs).length)) ∧ OwnE 1 byC u3 w11.heap.size 5 (.slice (some ⟨g10, 0, none⟩) bl1 bl1) bs ∧ OwnRT u3 w12.heap.size (.slice (some ⟨g11, 0, none⟩) ((unLs bs).length) c12) ws13 (unLs bs))) := hide (fun W u3 h b => ⟨h.1.trans (b.mono h.1.size), h.2.1.below b, h.2.2.1.below b, h.2.2.2.1.below b, h.2.2.2.2.below b⟩)
  clear oH_0
  clear b
  have K : Hid (Below w.heap.size w w13 ∧ OwnRT w13 w1.heap.size (.slice (some ⟨g2, 0, none⟩) ((unLs bs).length) c3) ws4 (unLs bs) ∧ OwnRr w13 w3.heap.size (.slice (some ⟨g6, 0, none⟩) ((unLs bs).length) c7) (markRr ws8 1 ((unLs bs).length)) ∧ OwnRT w13 w12.heap.size (.slice (some ⟨g11, 0, none⟩) ((unLs bs).length) c12) ws13 (unLs bs)) := hide ⟨(unhide K).1, (unhide K).2.1, (unhide K).2.2.1, (unhide K).2.2.2.2⟩
  clear KEPT
  have KEPT : Hid (∀ W u3, (Below w.heap.size w W ∧ OwnRT W w1.heap.size (.slice (some ⟨g2, 0, none⟩) ((unLs bs).length) c3) ws4 (unLs bs) ∧ OwnRr W w3.heap.size (.slice (some ⟨g6, 0, none⟩) ((unLs bs).length) c7) (markRr ws8 1 ((unLs bs).length)) ∧ OwnRT W w12.heap.size (.slice (some ⟨g11, 0, none⟩) ((unLs bs).length) c12) ws13 (unLs bs)) → Below W.heap.size W u3 → (Below w.heap.size w u3 ∧ OwnRT u3 w1.heap.size (.slice (some ⟨g2, 0, none⟩) ((unLs bs).length) c3) ws4 (unLs bs) ∧ OwnRr u3 w3.heap.size (.slice (some ⟨g6, 0, none⟩) ((unLs bs).length) c7) (markRr ws8 1 ((unLs bs).length)) ∧ OwnRT u3 w12.heap.size (.slice (some ⟨g11, 0, none⟩) ((unLs bs).length) c12) ws13 (unLs bs))) := hide (fun W u3 h b => ⟨h.1.trans (b.mono h.1.size), h.2.1.below b, h.2.2.1.below b, h.2.2.2.below b⟩)
  go_wp2_with fail
  refine (eqIntSSR_same _ _ _ _ _ _ _ _ _ (unhide K).2.2.2.o (unhide K).2.1.o ((unhide K).2.2.2.con.trans (unhide K).2.1.con.symm) (by rw [(unhide FH0).len]; exact (unhide FH0).few) (by rw [(unhide FW0).len]; exact (unhide FW0).few)).mono ?_
  rintro x w14 ⟨rfl, b⟩
  have S13 : Hid (w13.heap.size ≤ w14.heap.size) := hide b.size
  have K : Hid (Below w.heap.size w w14 ∧ OwnRT w14 w1.heap.size (.slice (some ⟨g2, 0, none⟩) ((unLs bs).length) c3) ws4 (unLs bs) ∧ OwnRr w14 w3.heap.size (.slice (some ⟨g6, 0, none⟩) ((unLs bs).length) c7) (markRr ws8 1 ((unLs bs).length)) ∧ OwnRT w14 w12.heap.size (.slice (some ⟨g11, 0, none⟩) ((unLs bs).length) c12) ws13 (unLs bs)) := hide ((unhide KEPT) _ _ (unhide K) b)
  clear b
  go_wp2_with fail
  refine (heldIntSSR_any _ _ _ _ ws8 1 _ (unhide K).2.2.1 (unhide FG0).len (by have := (unhide FG0).few; omega) (unhide FG0).d32 (unhide FG0).dn (by omega) (by omega)).mono ?_
  rintro x w15 ⟨rfl, hw⟩
  have b : Below w14.heap.size w14 w15 := by rw [hw]; exact Below.refl _ _
  clear hw
  have S14 : Hid (w14.heap.size ≤ w15.heap.size) := hide b.size
  have K : Hid (Below w.heap.size w w15 ∧ OwnRT w15 w1.heap.size (.slice (some ⟨g2, 0, none⟩) ((unLs bs).length) c3) ws4 (unLs bs) ∧ OwnRr w15 w3.heap.size (.slice (some ⟨g6, 0, none⟩) ((unLs bs).length) c7) (markRr ws8 1 ((unLs bs).length)) ∧ OwnRT w15 w12.heap.size (.slice (some ⟨g11, 0, none⟩) ((unLs bs).length) c12) ws13 (unLs bs)) := hide ((unhide KEPT) _ _ (unhide K) b)
  clear b
  have nq15 : ¬ (kR ws8 1 ((unLs bs).length) < 0) := by omega
  have nn15 : (kR ws8 1 ((unLs bs).length) != kR ws8 1 ((unLs bs).length)) = false := by simp
  go_wp2_with fail
  go_ret
  exact ⟨rfl, (unhide K).1⟩
end Go.Proofs.Ythdnokilfmbgobd
