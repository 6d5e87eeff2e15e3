/-
  The law FnExactBoth16 returns true at every argument and writes nothing that was there: the walk. No condition.
-/
import Derived.Test.YtnhcmokkankcmayToRv
import Derived.Test.YtnhcmokkankcmayOwnSB
import Derived.Test.YtnhcmokkankcmayBoAny
import Derived.Test.YtnhcmokkankcmayOnly
import Derived.Deep.RegionHeld3
namespace Go.Proofs.Ytnhcmokkankcmay
open Go.RowKit
set_option maxRecDepth 20000 in
set_option maxHeartbeats 8000000 in
theorem lawBoth16 (rl rn rk : Int) (pa1 : Option Addr) (pl1 pc1 : Nat) (X : List (List Int)) (sa1 : Option Addr) (sl1 sc1 : Nat) (Y : List (List Int)) (w : World) (hrp : RowSB w pa1 pl1 X) (hrs : RowSB w sa1 sl1 Y) (hbp : ∀ zs ∈ X, BytesIn zs) (hbs : ∀ zs ∈ Y, BytesIn zs) :
    Calls Try.prog 8 #[.agg #[.int .i64 rl, .int .i64 rn, .int .i64 rk], .slice pa1 pl1 pc1, .slice sa1 sl1 sc1] w fun x w' => x = .returned (.bool true) ∧ Below w.heap.size w w' := by
  have Rp := hide hrp
  have smp1 := hrp.small
  have Ep1 := hide hrp.len_eq
  clear hrp
  have Rs := hide hrs
  have sms1 := hrs.small
  have Es1 := hide hrs.len_eq
  clear hrs
  have HBP := hide hbp
  have HBS := hide hbs
  clear hbp hbs
  have hq : ((boR rl rn rk X Y).m != (boR rl rn rk X Y).m) = false := by simp
  go_enter Try.func8, Try.ntmps8
  go_wp2_with fail
  obtain ⟨w1, hw1⟩ : ∃ W, W = (w.alloc (Obj.cells #[.int .i64 rl, .int .i64 rn, .int .i64 rk] 41)) := ⟨_, rfl⟩
  rw [← hw1]
  have K : Hid (Below w.heap.size w w1 ∧ Blk w1 w.heap.size [.int .i64 rl, .int .i64 rn, .int .i64 rk]) := hide ⟨(by rw [hw1]; exact bel1 _), (by rw [hw1]; exact Blk.new _ _)⟩
  have S0 : Hid (w.heap.size + 1 ≤ w1.heap.size) := hide (by rw [hw1]; simp; try omega)
  clear hw1
  have KEPT : Hid (∀ W u3, (Below w.heap.size w W ∧ Blk W w.heap.size [.int .i64 rl, .int .i64 rn, .int .i64 rk]) → Below W.heap.size W u3 → (Below w.heap.size w u3 ∧ Blk u3 w.heap.size [.int .i64 rl, .int .i64 rn, .int .i64 rk])) := hide (fun W u3 h b => ⟨h.1.trans (b.mono h.1.size), h.2.below b⟩)
  refine (szByteSS_tot _ _ _ _ 1048576 _ ((unhide Rp).below (unhide K).1) (by omega) (by omega)).mono ?_
  rintro x w2 ⟨⟨r1, rfl, hl⟩, hw⟩
  have b : Below w1.heap.size w1 w2 := by rw [hw]; exact Below.refl _ _
  clear hw
  have S1 : Hid (w1.heap.size ≤ w2.heap.size) := hide b.size
  have K : Hid (Below w.heap.size w w2 ∧ Blk w2 w.heap.size [.int .i64 rl, .int .i64 rn, .int .i64 rk]) := hide ((unhide KEPT) _ _ (unhide K) b)
  clear b
  rcases hl with hl | ⟨hl, hle, hp1, hTp, hall⟩
  · go_wp2_with fail
    go_ret
    exact ⟨rfl, (unhide K).1⟩
  have nr1 : ¬ r1 < 0 := by omega
  have HAp := hide hall
  clear hall
  have mPd0 : w2.cell? ⟨w.heap.size, 0, none⟩ = some (.int .i64 rl) := (unhide K).2.c 0 (by simp)
  have mPd1 : w2.cell? ⟨w.heap.size, 1, none⟩ = some (.int .i64 rn) := (unhide K).2.c 1 (by simp)
  have mPd2 : w2.cell? ⟨w.heap.size, 2, none⟩ = some (.int .i64 rk) := (unhide K).2.c 2 (by simp)
  go_wp2_with fail
  clear mPd0 mPd1 mPd2
  refine (szByteSS_tot _ _ _ _ r1 _ ((unhide Rs).below (unhide K).1) (by omega) (by omega)).mono ?_
  rintro x w3 ⟨⟨r2, rfl, hl⟩, hw⟩
  have b : Below w2.heap.size w2 w3 := by rw [hw]; exact Below.refl _ _
  clear hw
  have S2 : Hid (w2.heap.size ≤ w3.heap.size) := hide b.size
  have K : Hid (Below w.heap.size w w3 ∧ Blk w3 w.heap.size [.int .i64 rl, .int .i64 rn, .int .i64 rk]) := hide ((unhide KEPT) _ _ (unhide K) b)
  clear b
  rcases hl with hl | ⟨hl, hle, hs1, hTs, hall⟩
  · go_wp2_with fail
    go_ret
    exact ⟨rfl, (unhide K).1⟩
  have nr2 : ¬ r2 < 0 := by omega
  have HAs := hide hall
  clear hall
  have mPd0 : w3.cell? ⟨w.heap.size, 0, none⟩ = some (.int .i64 rl) := (unhide K).2.c 0 (by simp)
  have mPd1 : w3.cell? ⟨w.heap.size, 1, none⟩ = some (.int .i64 rn) := (unhide K).2.c 1 (by simp)
  have mPd2 : w3.cell? ⟨w.heap.size, 2, none⟩ = some (.int .i64 rk) := (unhide K).2.c 2 (by simp)
  go_wp2_with fail
  clear mPd0 mPd1 mPd2
  refine (toReceiver_any _ _ _ _).mono ?_
  rintro x w4 ⟨rfl, b⟩
  have S3 : Hid (w3.heap.size ≤ w4.heap.size) := hide b.size
  have K : Hid (Below w.heap.size w w4 ∧ Blk w4 w.heap.size [.int .i64 rl, .int .i64 rn, .int .i64 rk]) := hide ((unhide KEPT) _ _ (unhide K) b)
  clear b
  have mPd0 : w4.cell? ⟨w.heap.size, 0, none⟩ = some (.int .i64 rl) := (unhide K).2.c 0 (by simp)
  have mPd1 : w4.cell? ⟨w.heap.size, 1, none⟩ = some (.int .i64 rn) := (unhide K).2.c 1 (by simp)
  have mPd2 : w4.cell? ⟨w.heap.size, 2, none⟩ = some (.int .i64 rk) := (unhide K).2.c 2 (by simp)
  go_wp2_with fail
  clear mPd0 mPd1 mPd2
  obtain ⟨g3, hg3⟩ : ∃ G, w4.heap.size = G := ⟨_, rfl⟩
  refine (toByteSS_own _ _ _ _ _ ((unhide Rp).below (unhide K).1) hp1 (unhide HAp)).mono ?_
  rintro x w5 ⟨rfl, oc, b⟩
  rw [hg3] at oc ⊢
  have Bg3 := hide hg3
  clear hg3
  have S4 : Hid (w4.heap.size = g3) := hide (unhide Bg3)
  have S5 : Hid (w4.heap.size ≤ w5.heap.size) := hide b.size
  have K : Hid (Below w.heap.size w w5 ∧ Blk w5 w.heap.size [.int .i64 rl, .int .i64 rn, .int .i64 rk]) := hide ((unhide KEPT) _ _ (unhide K) b)
  have K : Hid (Below w.heap.size w w5 ∧ Blk w5 w.heap.size [.int .i64 rl, .int .i64 rn, .int .i64 rk] ∧ OwnSB w5 g3 w5.heap.size pl1 X) := hide ⟨(unhide K).1, (unhide K).2, oc⟩
  clear KEPT oc b
  have KEPT : Hid (∀ W u3, (Below w.heap.size w W ∧ Blk W w.heap.size [.int .i64 rl, .int .i64 rn, .int .i64 rk] ∧ OwnSB W g3 w5.heap.size pl1 X) → Below W.heap.size W u3 → (Below w.heap.size w u3 ∧ Blk u3 w.heap.size [.int .i64 rl, .int .i64 rn, .int .i64 rk] ∧ OwnSB u3 g3 w5.heap.size pl1 X)) := hide (fun W u3 h b => ⟨h.1.trans (b.mono h.1.size), h.2.1.below b, h.2.2.below b⟩)
  have mPd0 : w5.cell? ⟨w.heap.size, 0, none⟩ = some (.int .i64 rl) := (unhide K).2.1.c 0 (by simp)
  have mPd1 : w5.cell? ⟨w.heap.size, 1, none⟩ = some (.int .i64 rn) := (unhide K).2.1.c 1 (by simp)
  have mPd2 : w5.cell? ⟨w.heap.size, 2, none⟩ = some (.int .i64 rk) := (unhide K).2.1.c 2 (by simp)
  go_wp2_with fail
  clear mPd0 mPd1 mPd2
  obtain ⟨g4, hg4⟩ : ∃ G, w5.heap.size = G := ⟨_, rfl⟩
  refine (toByteSS_own _ _ _ _ _ ((unhide Rs).below (unhide K).1) hs1 (unhide HAs)).mono ?_
  rintro x w6 ⟨rfl, oc, b⟩
  rw [hg4] at oc ⊢
  have Bg4 := hide hg4
  clear hg4
  have S6 : Hid (w5.heap.size = g4) := hide (unhide Bg4)
  have S7 : Hid (w5.heap.size ≤ w6.heap.size) := hide b.size
  have K : Hid (Below w.heap.size w w6 ∧ Blk w6 w.heap.size [.int .i64 rl, .int .i64 rn, .int .i64 rk] ∧ OwnSB w6 g3 w5.heap.size pl1 X) := hide ((unhide KEPT) _ _ (unhide K) b)
  have K : Hid (Below w.heap.size w w6 ∧ Blk w6 w.heap.size [.int .i64 rl, .int .i64 rn, .int .i64 rk] ∧ OwnSB w6 g3 w5.heap.size pl1 X ∧ OwnSB w6 g4 w6.heap.size sl1 Y) := hide ⟨(unhide K).1, (unhide K).2.1, (unhide K).2.2, oc⟩
  clear KEPT oc b
  have KEPT : Hid (∀ W u3, (Below w.heap.size w W ∧ Blk W w.heap.size [.int .i64 rl, .int .i64 rn, .int .i64 rk] ∧ OwnSB W g3 w5.heap.size pl1 X ∧ OwnSB W g4 w6.heap.size sl1 Y) → Below W.heap.size W u3 → (Below w.heap.size w u3 ∧ Blk u3 w.heap.size [.int .i64 rl, .int .i64 rn, .int .i64 rk] ∧ OwnSB u3 g3 w5.heap.size pl1 X ∧ OwnSB u3 g4 w6.heap.size sl1 Y)) := hide (fun W u3 h b => ⟨h.1.trans (b.mono h.1.size), h.2.1.below b, h.2.2.1.below b, h.2.2.2.below b⟩)
  have mPd0 : w6.cell? ⟨w.heap.size, 0, none⟩ = some (.int .i64 rl) := (unhide K).2.1.c 0 (by simp)
  have mPd1 : w6.cell? ⟨w.heap.size, 1, none⟩ = some (.int .i64 rn) := (unhide K).2.1.c 1 (by simp)
  have mPd2 : w6.cell? ⟨w.heap.size, 2, none⟩ = some (.int .i64 rk) := (unhide K).2.1.c 2 (by simp)
  go_wp2_with fail
  clear mPd0 mPd1 mPd2
  refine (specBoth16_any _ _ _ _ _ _ _ _ _ _ _ _ (unhide K).2.2.1.row (unhide K).2.2.2.row (unhide HBP) (unhide HBS)).mono ?_
  rintro x w7 ⟨g5, c6, ws7, rfl, oW_0, b⟩
  have LW0 : Hid (WxLies w6.heap.size w7.heap.size (.slice (some ⟨g5, 0, none⟩) (((boR rl rn rk X Y).t).length) c6) ws7) := hide oW_0.lies
  have FW0 := hide (oW_0.fit (boR_len _ _ _ _ _) (boR_dat _ _ _ _ _))
  have S8 : Hid (w6.heap.size ≤ w7.heap.size) := hide b.size
  have K : Hid (Below w.heap.size w w7 ∧ Blk w7 w.heap.size [.int .i64 rl, .int .i64 rn, .int .i64 rk] ∧ OwnSB w7 g3 w5.heap.size pl1 X ∧ OwnSB w7 g4 w6.heap.size sl1 Y) := hide ((unhide KEPT) _ _ (unhide K) b)
  have K : Hid (Below w.heap.size w w7 ∧ Blk w7 w.heap.size [.int .i64 rl, .int .i64 rn, .int .i64 rk] ∧ OwnSB w7 g3 w5.heap.size pl1 X ∧ OwnSB w7 g4 w6.heap.size sl1 Y ∧ OwnWT w7 w6.heap.size (.slice (some ⟨g5, 0, none⟩) (((boR rl rn rk X Y).t).length) c6) ws7 ((boR rl rn rk X Y).t)) := hide ⟨(unhide K).1, (unhide K).2.1, (unhide K).2.2.1, (unhide K).2.2.2, oW_0⟩
  clear KEPT
  have KEPT : Hid (∀ W u3, (Below w.heap.size w W ∧ Blk W w.heap.size [.int .i64 rl, .int .i64 rn, .int .i64 rk] ∧ OwnSB W g3 w5.heap.size pl1 X ∧ OwnSB W g4 w6.heap.size sl1 Y ∧ OwnWT W w6.heap.size (.slice (some ⟨g5, 0, none⟩) (((boR rl rn rk X Y).t).length) c6) ws7 ((boR rl rn rk X Y).t)) → Below W.heap.size W u3 → (Below w.heap.size w u3 ∧ Blk u3 w.heap.size [.int .i64 rl, .int .i64 rn, .int .i64 rk] ∧ OwnSB u3 g3 w5.heap.size pl1 X ∧ OwnSB u3 g4 w6.heap.size sl1 Y ∧ OwnWT u3 w6.heap.size (.slice (some ⟨g5, 0, none⟩) (((boR rl rn rk X Y).t).length) c6) ws7 ((boR rl rn rk X Y).t))) := hide (fun W u3 h b => ⟨h.1.trans (b.mono h.1.size), h.2.1.below b, h.2.2.1.below b, h.2.2.2.1.below b, h.2.2.2.2.below b⟩)
  clear oW_0
  clear b
  have K : Hid (Below w.heap.size w w7 ∧ Blk w7 w.heap.size [.int .i64 rl, .int .i64 rn, .int .i64 rk] ∧ OwnWT w7 w6.heap.size (.slice (some ⟨g5, 0, none⟩) (((boR rl rn rk X Y).t).length) c6) ws7 ((boR rl rn rk X Y).t)) := hide ⟨(unhide K).1, (unhide K).2.1, (unhide K).2.2.2.2⟩
  clear KEPT
  have KEPT : Hid (∀ W u3, (Below w.heap.size w W ∧ Blk W w.heap.size [.int .i64 rl, .int .i64 rn, .int .i64 rk] ∧ OwnWT W w6.heap.size (.slice (some ⟨g5, 0, none⟩) (((boR rl rn rk X Y).t).length) c6) ws7 ((boR rl rn rk X Y).t)) → Below W.heap.size W u3 → (Below w.heap.size w u3 ∧ Blk u3 w.heap.size [.int .i64 rl, .int .i64 rn, .int .i64 rk] ∧ OwnWT u3 w6.heap.size (.slice (some ⟨g5, 0, none⟩) (((boR rl rn rk X Y).t).length) c6) ws7 ((boR rl rn rk X Y).t))) := hide (fun W u3 h b => ⟨h.1.trans (b.mono h.1.size), h.2.1.below b, h.2.2.below b⟩)
  obtain ⟨w8, hw8⟩ : ∃ V, V = w7.alloc (Obj.cells #[.int .i64 rl, .int .i64 ((boR rl rn rk X Y).n), .int .i64 rk] 43) := ⟨_, rfl⟩
  have b : Below w7.heap.size w7 w8 := by rw [hw8]; exact bel1 _
  have kx : Blk w8 w7.heap.size [.int .i64 rl, .int .i64 ((boR rl rn rk X Y).n), .int .i64 rk] := by rw [hw8]; exact Blk.new _ _
  have S9 : Hid (w7.heap.size + 1 ≤ w8.heap.size) := hide (by rw [hw8]; simp)
  have S10 : Hid (w7.heap.size ≤ w8.heap.size) := hide b.size
  have K : Hid (Below w.heap.size w w8 ∧ Blk w8 w.heap.size [.int .i64 rl, .int .i64 rn, .int .i64 rk] ∧ OwnWT w8 w6.heap.size (.slice (some ⟨g5, 0, none⟩) (((boR rl rn rk X Y).t).length) c6) ws7 ((boR rl rn rk X Y).t)) := hide ((unhide KEPT) _ _ (unhide K) b)
  have mPd0 : w8.cell? ⟨w.heap.size, 0, none⟩ = some (.int .i64 rl) := (unhide K).2.1.c 0 (by simp)
  have mPd1 : w8.cell? ⟨w.heap.size, 1, none⟩ = some (.int .i64 rn) := (unhide K).2.1.c 1 (by simp)
  have mPd2 : w8.cell? ⟨w.heap.size, 2, none⟩ = some (.int .i64 rk) := (unhide K).2.1.c 2 (by simp)
  rw [hw8] at mPd0 mPd1 mPd2
  obtain ⟨X8, hX8⟩ : ∃ X, w7.heap.size = X := ⟨_, rfl⟩
  rw [hX8] at kx
  have S11 : Hid (w7.heap.size = X8) := hide hX8
  have K : Hid (Below w.heap.size w w8 ∧ Blk w8 w.heap.size [.int .i64 rl, .int .i64 rn, .int .i64 rk] ∧ OwnWT w8 w6.heap.size (.slice (some ⟨g5, 0, none⟩) (((boR rl rn rk X Y).t).length) c6) ws7 ((boR rl rn rk X Y).t) ∧ Blk w8 X8 [.int .i64 rl, .int .i64 ((boR rl rn rk X Y).n), .int .i64 rk]) := hide ⟨(unhide K).1, (unhide K).2.1, (unhide K).2.2, kx⟩
  clear KEPT b kx
  have KEPT : Hid (∀ W u3, (Below w.heap.size w W ∧ Blk W w.heap.size [.int .i64 rl, .int .i64 rn, .int .i64 rk] ∧ OwnWT W w6.heap.size (.slice (some ⟨g5, 0, none⟩) (((boR rl rn rk X Y).t).length) c6) ws7 ((boR rl rn rk X Y).t) ∧ Blk W X8 [.int .i64 rl, .int .i64 ((boR rl rn rk X Y).n), .int .i64 rk]) → Below W.heap.size W u3 → (Below w.heap.size w u3 ∧ Blk u3 w.heap.size [.int .i64 rl, .int .i64 rn, .int .i64 rk] ∧ OwnWT u3 w6.heap.size (.slice (some ⟨g5, 0, none⟩) (((boR rl rn rk X Y).t).length) c6) ws7 ((boR rl rn rk X Y).t) ∧ Blk u3 X8 [.int .i64 rl, .int .i64 ((boR rl rn rk X Y).n), .int .i64 rk])) := hide (fun W u3 h b => ⟨h.1.trans (b.mono h.1.size), h.2.1.below b, h.2.2.1.below b, h.2.2.2.below b⟩)
  have Hw8 := hide hw8
  have HX8 := hide hX8
  clear hw8 hX8
  go_wp2_with fail
  try rw [← unhide Hw8]
  try rw [unhide HX8]
  clear Hw8 HX8 mPd0 mPd1 mPd2
  obtain ⟨g9, hg9⟩ : ∃ G, w8.heap.size = G := ⟨_, rfl⟩
  refine (toByteSS_own _ _ _ _ _ ((unhide Rp).below (unhide K).1) hp1 (unhide HAp)).mono ?_
  rintro x w9 ⟨rfl, oc, b⟩
  rw [hg9] at oc ⊢
  have Bg9 := hide hg9
  clear hg9
  have S12 : Hid (w8.heap.size = g9) := hide (unhide Bg9)
  have S13 : Hid (w8.heap.size ≤ w9.heap.size) := hide b.size
  have K : Hid (Below w.heap.size w w9 ∧ Blk w9 w.heap.size [.int .i64 rl, .int .i64 rn, .int .i64 rk] ∧ OwnWT w9 w6.heap.size (.slice (some ⟨g5, 0, none⟩) (((boR rl rn rk X Y).t).length) c6) ws7 ((boR rl rn rk X Y).t) ∧ Blk w9 X8 [.int .i64 rl, .int .i64 ((boR rl rn rk X Y).n), .int .i64 rk]) := hide ((unhide KEPT) _ _ (unhide K) b)
  have K : Hid (Below w.heap.size w w9 ∧ Blk w9 w.heap.size [.int .i64 rl, .int .i64 rn, .int .i64 rk] ∧ OwnWT w9 w6.heap.size (.slice (some ⟨g5, 0, none⟩) (((boR rl rn rk X Y).t).length) c6) ws7 ((boR rl rn rk X Y).t) ∧ Blk w9 X8 [.int .i64 rl, .int .i64 ((boR rl rn rk X Y).n), .int .i64 rk] ∧ OwnSB w9 g9 w9.heap.size pl1 X) := hide ⟨(unhide K).1, (unhide K).2.1, (unhide K).2.2.1, (unhide K).2.2.2, oc⟩
  clear KEPT oc b
  have KEPT : Hid (∀ W u3, (Below w.heap.size w W ∧ Blk W w.heap.size [.int .i64 rl, .int .i64 rn, .int .i64 rk] ∧ OwnWT W w6.heap.size (.slice (some ⟨g5, 0, none⟩) (((boR rl rn rk X Y).t).length) c6) ws7 ((boR rl rn rk X Y).t) ∧ Blk W X8 [.int .i64 rl, .int .i64 ((boR rl rn rk X Y).n), .int .i64 rk] ∧ OwnSB W g9 w9.heap.size pl1 X) → Below W.heap.size W u3 → (Below w.heap.size w u3 ∧ Blk u3 w.heap.size [.int .i64 rl, .int .i64 rn, .int .i64 rk] ∧ OwnWT u3 w6.heap.size (.slice (some ⟨g5, 0, none⟩) (((boR rl rn rk X Y).t).length) c6) ws7 ((boR rl rn rk X Y).t) ∧ Blk u3 X8 [.int .i64 rl, .int .i64 ((boR rl rn rk X Y).n), .int .i64 rk] ∧ OwnSB u3 g9 w9.heap.size pl1 X)) := hide (fun W u3 h b => ⟨h.1.trans (b.mono h.1.size), h.2.1.below b, h.2.2.1.below b, h.2.2.2.1.below b, h.2.2.2.2.below b⟩)
  have mPd0 : w9.cell? ⟨w.heap.size, 0, none⟩ = some (.int .i64 rl) := (unhide K).2.1.c 0 (by simp)
  have mPd1 : w9.cell? ⟨w.heap.size, 1, none⟩ = some (.int .i64 rn) := (unhide K).2.1.c 1 (by simp)
  have mPd2 : w9.cell? ⟨w.heap.size, 2, none⟩ = some (.int .i64 rk) := (unhide K).2.1.c 2 (by simp)
  have mQWp20 : w9.cell? ⟨X8, 0, none⟩ = some (.int .i64 rl) := (unhide K).2.2.2.1.c 0 (by simp)
  have mQWp21 : w9.cell? ⟨X8, 1, none⟩ = some (.int .i64 ((boR rl rn rk X Y).n)) := (unhide K).2.2.2.1.c 1 (by simp)
  have mQWp22 : w9.cell? ⟨X8, 2, none⟩ = some (.int .i64 rk) := (unhide K).2.2.2.1.c 2 (by simp)
  go_wp2_with fail
  clear mPd0 mPd1 mPd2 mQWp20 mQWp21 mQWp22
  obtain ⟨g10, hg10⟩ : ∃ G, w9.heap.size = G := ⟨_, rfl⟩
  refine (toByteSS_own _ _ _ _ _ ((unhide Rs).below (unhide K).1) hs1 (unhide HAs)).mono ?_
  rintro x w10 ⟨rfl, oc, b⟩
  rw [hg10] at oc ⊢
  have Bg10 := hide hg10
  clear hg10
  have S14 : Hid (w9.heap.size = g10) := hide (unhide Bg10)
  have S15 : Hid (w9.heap.size ≤ w10.heap.size) := hide b.size
  have K : Hid (Below w.heap.size w w10 ∧ Blk w10 w.heap.size [.int .i64 rl, .int .i64 rn, .int .i64 rk] ∧ OwnWT w10 w6.heap.size (.slice (some ⟨g5, 0, none⟩) (((boR rl rn rk X Y).t).length) c6) ws7 ((boR rl rn rk X Y).t) ∧ Blk w10 X8 [.int .i64 rl, .int .i64 ((boR rl rn rk X Y).n), .int .i64 rk] ∧ OwnSB w10 g9 w9.heap.size pl1 X) := hide ((unhide KEPT) _ _ (unhide K) b)
  have K : Hid (Below w.heap.size w w10 ∧ Blk w10 w.heap.size [.int .i64 rl, .int .i64 rn, .int .i64 rk] ∧ OwnWT w10 w6.heap.size (.slice (some ⟨g5, 0, none⟩) (((boR rl rn rk X Y).t).length) c6) ws7 ((boR rl rn rk X Y).t) ∧ Blk w10 X8 [.int .i64 rl, .int .i64 ((boR rl rn rk X Y).n), .int .i64 rk] ∧ OwnSB w10 g9 w9.heap.size pl1 X ∧ OwnSB w10 g10 w10.heap.size sl1 Y) := hide ⟨(unhide K).1, (unhide K).2.1, (unhide K).2.2.1, (unhide K).2.2.2.1, (unhide K).2.2.2.2, oc⟩
  clear KEPT oc b
  have KEPT : Hid (∀ W u3, (Below w.heap.size w W ∧ Blk W w.heap.size [.int .i64 rl, .int .i64 rn, .int .i64 rk] ∧ OwnWT W w6.heap.size (.slice (some ⟨g5, 0, none⟩) (((boR rl rn rk X Y).t).length) c6) ws7 ((boR rl rn rk X Y).t) ∧ Blk W X8 [.int .i64 rl, .int .i64 ((boR rl rn rk X Y).n), .int .i64 rk] ∧ OwnSB W g9 w9.heap.size pl1 X ∧ OwnSB W g10 w10.heap.size sl1 Y) → Below W.heap.size W u3 → (Below w.heap.size w u3 ∧ Blk u3 w.heap.size [.int .i64 rl, .int .i64 rn, .int .i64 rk] ∧ OwnWT u3 w6.heap.size (.slice (some ⟨g5, 0, none⟩) (((boR rl rn rk X Y).t).length) c6) ws7 ((boR rl rn rk X Y).t) ∧ Blk u3 X8 [.int .i64 rl, .int .i64 ((boR rl rn rk X Y).n), .int .i64 rk] ∧ OwnSB u3 g9 w9.heap.size pl1 X ∧ OwnSB u3 g10 w10.heap.size sl1 Y)) := hide (fun W u3 h b => ⟨h.1.trans (b.mono h.1.size), h.2.1.below b, h.2.2.1.below b, h.2.2.2.1.below b, h.2.2.2.2.1.below b, h.2.2.2.2.2.below b⟩)
  have mPd0 : w10.cell? ⟨w.heap.size, 0, none⟩ = some (.int .i64 rl) := (unhide K).2.1.c 0 (by simp)
  have mPd1 : w10.cell? ⟨w.heap.size, 1, none⟩ = some (.int .i64 rn) := (unhide K).2.1.c 1 (by simp)
  have mPd2 : w10.cell? ⟨w.heap.size, 2, none⟩ = some (.int .i64 rk) := (unhide K).2.1.c 2 (by simp)
  have mQWp20 : w10.cell? ⟨X8, 0, none⟩ = some (.int .i64 rl) := (unhide K).2.2.2.1.c 0 (by simp)
  have mQWp21 : w10.cell? ⟨X8, 1, none⟩ = some (.int .i64 ((boR rl rn rk X Y).n)) := (unhide K).2.2.2.1.c 1 (by simp)
  have mQWp22 : w10.cell? ⟨X8, 2, none⟩ = some (.int .i64 rk) := (unhide K).2.2.2.1.c 2 (by simp)
  go_wp2_with fail
  clear mPd0 mPd1 mPd2 mQWp20 mQWp21 mQWp22
  refine (toReceiver_any _ _ _ _).mono ?_
  rintro x w11 ⟨rfl, b⟩
  have S16 : Hid (w10.heap.size ≤ w11.heap.size) := hide b.size
  have K : Hid (Below w.heap.size w w11 ∧ Blk w11 w.heap.size [.int .i64 rl, .int .i64 rn, .int .i64 rk] ∧ OwnWT w11 w6.heap.size (.slice (some ⟨g5, 0, none⟩) (((boR rl rn rk X Y).t).length) c6) ws7 ((boR rl rn rk X Y).t) ∧ Blk w11 X8 [.int .i64 rl, .int .i64 ((boR rl rn rk X Y).n), .int .i64 rk] ∧ OwnSB w11 g9 w9.heap.size pl1 X ∧ OwnSB w11 g10 w10.heap.size sl1 Y) := hide ((unhide KEPT) _ _ (unhide K) b)
  clear b
  have mPd0 : w11.cell? ⟨w.heap.size, 0, none⟩ = some (.int .i64 rl) := (unhide K).2.1.c 0 (by simp)
  have mPd1 : w11.cell? ⟨w.heap.size, 1, none⟩ = some (.int .i64 rn) := (unhide K).2.1.c 1 (by simp)
  have mPd2 : w11.cell? ⟨w.heap.size, 2, none⟩ = some (.int .i64 rk) := (unhide K).2.1.c 2 (by simp)
  have mQWp20 : w11.cell? ⟨X8, 0, none⟩ = some (.int .i64 rl) := (unhide K).2.2.2.1.c 0 (by simp)
  have mQWp21 : w11.cell? ⟨X8, 1, none⟩ = some (.int .i64 ((boR rl rn rk X Y).n)) := (unhide K).2.2.2.1.c 1 (by simp)
  have mQWp22 : w11.cell? ⟨X8, 2, none⟩ = some (.int .i64 rk) := (unhide K).2.2.2.1.c 2 (by simp)
  go_wp2_with fail
  clear mPd0 mPd1 mPd2 mQWp20 mQWp21 mQWp22
  refine (implBoth16_any _ _ _ _ _ _ _ _ _ _ _ _ (unhide K).2.2.2.2.1.row (unhide K).2.2.2.2.2.row (unhide HBP) (unhide HBS)).mono ?_
  rintro x w12 ⟨g11, c12, ws13, rfl, oG_0, b⟩
  have LG0 : Hid (WxLies w11.heap.size w12.heap.size (.slice (some ⟨g11, 0, none⟩) (((boR rl rn rk X Y).t).length) c12) ws13) := hide oG_0.lies
  have FG0 := hide (oG_0.fit (boR_len _ _ _ _ _) (boR_dat _ _ _ _ _))
  have S17 : Hid (w11.heap.size ≤ w12.heap.size) := hide b.size
  have K : Hid (Below w.heap.size w w12 ∧ Blk w12 w.heap.size [.int .i64 rl, .int .i64 rn, .int .i64 rk] ∧ OwnWT w12 w6.heap.size (.slice (some ⟨g5, 0, none⟩) (((boR rl rn rk X Y).t).length) c6) ws7 ((boR rl rn rk X Y).t) ∧ Blk w12 X8 [.int .i64 rl, .int .i64 ((boR rl rn rk X Y).n), .int .i64 rk] ∧ OwnSB w12 g9 w9.heap.size pl1 X ∧ OwnSB w12 g10 w10.heap.size sl1 Y) := hide ((unhide KEPT) _ _ (unhide K) b)
  have K : Hid (Below w.heap.size w w12 ∧ Blk w12 w.heap.size [.int .i64 rl, .int .i64 rn, .int .i64 rk] ∧ OwnWT w12 w6.heap.size (.slice (some ⟨g5, 0, none⟩) (((boR rl rn rk X Y).t).length) c6) ws7 ((boR rl rn rk X Y).t) ∧ Blk w12 X8 [.int .i64 rl, .int .i64 ((boR rl rn rk X Y).n), .int .i64 rk] ∧ OwnSB w12 g9 w9.heap.size pl1 X ∧ OwnSB w12 g10 w10.heap.size sl1 Y ∧ OwnWT w12 w11.heap.size (.slice (some ⟨g11, 0, none⟩) (((boR rl rn rk X Y).t).length) c12) ws13 ((boR rl rn rk X Y).t)) := hide ⟨(unhide K).1, (unhide K).2.1, (unhide K).2.2.1, (unhide K).2.2.2.1, (unhide K).2.2.2.2.1, (unhide K).2.2.2.2.2, oG_0⟩
  clear KEPT
  have KEPT : Hid (∀ W u3, (Below w.heap.size w W ∧ Blk W w.heap.size [.int .i64 rl, .int .i64 rn, .int .i64 rk] ∧ OwnWT W w6.heap.size (.slice (some ⟨g5, 0, none⟩) (((boR rl rn rk X Y).t).length) c6) ws7 ((boR rl rn rk X Y).t) ∧ Blk W X8 [.int .i64 rl, .int .i64 ((boR rl rn rk X Y).n), .int .i64 rk] ∧ OwnSB W g9 w9.heap.size pl1 X ∧ OwnSB W g10 w10.heap.size sl1 Y ∧ OwnWT W w11.heap.size (.slice (some ⟨g11, 0, none⟩) (((boR rl rn rk X Y).t).length) c12) ws13 ((boR rl rn rk X Y).t)) → Below W.heap.size W u3 → (Below w.heap.size w u3 ∧ Blk u3 w.heap.size [.int .i64 rl, .int .i64 rn, .int .i64 rk] ∧ OwnWT u3 w6.heap.size (.slice (some ⟨g5, 0, none⟩) (((boR rl rn rk X Y).t).length) c6) ws7 ((boR rl rn rk X Y).t) ∧ Blk u3 X8 [.int .i64 rl, .int .i64 ((boR rl rn rk X Y).n), .int .i64 rk] ∧ OwnSB u3 g9 w9.heap.size pl1 X ∧ OwnSB u3 g10 w10.heap.size sl1 Y ∧ OwnWT u3 w11.heap.size (.slice (some ⟨g11, 0, none⟩) (((boR rl rn rk X Y).t).length) c12) ws13 ((boR rl rn rk X Y).t))) := hide (fun W u3 h b => ⟨h.1.trans (b.mono h.1.size), h.2.1.below b, h.2.2.1.below b, h.2.2.2.1.below b, h.2.2.2.2.1.below b, h.2.2.2.2.2.1.below b, h.2.2.2.2.2.2.below b⟩)
  clear oG_0
  clear b
  obtain ⟨w13, hw13⟩ : ∃ V, V = w12.alloc (Obj.cells #[.int .i64 rl, .int .i64 ((boR rl rn rk X Y).n), .int .i64 rk] 43) := ⟨_, rfl⟩
  have b : Below w12.heap.size w12 w13 := by rw [hw13]; exact bel1 _
  have kx : Blk w13 w12.heap.size [.int .i64 rl, .int .i64 ((boR rl rn rk X Y).n), .int .i64 rk] := by rw [hw13]; exact Blk.new _ _
  have S18 : Hid (w12.heap.size + 1 ≤ w13.heap.size) := hide (by rw [hw13]; simp)
  have S19 : Hid (w12.heap.size ≤ w13.heap.size) := hide b.size
  have K : Hid (Below w.heap.size w w13 ∧ Blk w13 w.heap.size [.int .i64 rl, .int .i64 rn, .int .i64 rk] ∧ OwnWT w13 w6.heap.size (.slice (some ⟨g5, 0, none⟩) (((boR rl rn rk X Y).t).length) c6) ws7 ((boR rl rn rk X Y).t) ∧ Blk w13 X8 [.int .i64 rl, .int .i64 ((boR rl rn rk X Y).n), .int .i64 rk] ∧ OwnSB w13 g9 w9.heap.size pl1 X ∧ OwnSB w13 g10 w10.heap.size sl1 Y ∧ OwnWT w13 w11.heap.size (.slice (some ⟨g11, 0, none⟩) (((boR rl rn rk X Y).t).length) c12) ws13 ((boR rl rn rk X Y).t)) := hide ((unhide KEPT) _ _ (unhide K) b)
  have mPd0 : w13.cell? ⟨w.heap.size, 0, none⟩ = some (.int .i64 rl) := (unhide K).2.1.c 0 (by simp)
  have mPd1 : w13.cell? ⟨w.heap.size, 1, none⟩ = some (.int .i64 rn) := (unhide K).2.1.c 1 (by simp)
  have mPd2 : w13.cell? ⟨w.heap.size, 2, none⟩ = some (.int .i64 rk) := (unhide K).2.1.c 2 (by simp)
  have mQWp20 : w13.cell? ⟨X8, 0, none⟩ = some (.int .i64 rl) := (unhide K).2.2.2.1.c 0 (by simp)
  have mQWp21 : w13.cell? ⟨X8, 1, none⟩ = some (.int .i64 ((boR rl rn rk X Y).n)) := (unhide K).2.2.2.1.c 1 (by simp)
  have mQWp22 : w13.cell? ⟨X8, 2, none⟩ = some (.int .i64 rk) := (unhide K).2.2.2.1.c 2 (by simp)
  rw [hw13] at mPd0 mPd1 mPd2 mQWp20 mQWp21 mQWp22
  obtain ⟨X14, hX14⟩ : ∃ X, w12.heap.size = X := ⟨_, rfl⟩
  rw [hX14] at kx
  have S20 : Hid (w12.heap.size = X14) := hide hX14
  have K : Hid (Below w.heap.size w w13 ∧ Blk w13 w.heap.size [.int .i64 rl, .int .i64 rn, .int .i64 rk] ∧ OwnWT w13 w6.heap.size (.slice (some ⟨g5, 0, none⟩) (((boR rl rn rk X Y).t).length) c6) ws7 ((boR rl rn rk X Y).t) ∧ Blk w13 X8 [.int .i64 rl, .int .i64 ((boR rl rn rk X Y).n), .int .i64 rk] ∧ OwnSB w13 g9 w9.heap.size pl1 X ∧ OwnSB w13 g10 w10.heap.size sl1 Y ∧ OwnWT w13 w11.heap.size (.slice (some ⟨g11, 0, none⟩) (((boR rl rn rk X Y).t).length) c12) ws13 ((boR rl rn rk X Y).t) ∧ Blk w13 X14 [.int .i64 rl, .int .i64 ((boR rl rn rk X Y).n), .int .i64 rk]) := hide ⟨(unhide K).1, (unhide K).2.1, (unhide K).2.2.1, (unhide K).2.2.2.1, (unhide K).2.2.2.2.1, (unhide K).2.2.2.2.2.1, (unhide K).2.2.2.2.2.2, kx⟩
  clear KEPT b kx
  have KEPT : Hid (∀ W u3, (Below w.heap.size w W ∧ Blk W w.heap.size [.int .i64 rl, .int .i64 rn, .int .i64 rk] ∧ OwnWT W w6.heap.size (.slice (some ⟨g5, 0, none⟩) (((boR rl rn rk X Y).t).length) c6) ws7 ((boR rl rn rk X Y).t) ∧ Blk W X8 [.int .i64 rl, .int .i64 ((boR rl rn rk X Y).n), .int .i64 rk] ∧ OwnSB W g9 w9.heap.size pl1 X ∧ OwnSB W g10 w10.heap.size sl1 Y ∧ OwnWT W w11.heap.size (.slice (some ⟨g11, 0, none⟩) (((boR rl rn rk X Y).t).length) c12) ws13 ((boR rl rn rk X Y).t) ∧ Blk W X14 [.int .i64 rl, .int .i64 ((boR rl rn rk X Y).n), .int .i64 rk]) → Below W.heap.size W u3 → (Below w.heap.size w u3 ∧ Blk u3 w.heap.size [.int .i64 rl, .int .i64 rn, .int .i64 rk] ∧ OwnWT u3 w6.heap.size (.slice (some ⟨g5, 0, none⟩) (((boR rl rn rk X Y).t).length) c6) ws7 ((boR rl rn rk X Y).t) ∧ Blk u3 X8 [.int .i64 rl, .int .i64 ((boR rl rn rk X Y).n), .int .i64 rk] ∧ OwnSB u3 g9 w9.heap.size pl1 X ∧ OwnSB u3 g10 w10.heap.size sl1 Y ∧ OwnWT u3 w11.heap.size (.slice (some ⟨g11, 0, none⟩) (((boR rl rn rk X Y).t).length) c12) ws13 ((boR rl rn rk X Y).t) ∧ Blk u3 X14 [.int .i64 rl, .int .i64 ((boR rl rn rk X Y).n), .int .i64 rk])) := hide (fun W u3 h b => ⟨h.1.trans (b.mono h.1.size), h.2.1.below b, h.2.2.1.below b, h.2.2.2.1.below b, h.2.2.2.2.1.below b, h.2.2.2.2.2.1.below b, h.2.2.2.2.2.2.1.below b, h.2.2.2.2.2.2.2.below b⟩)
  have Hw13 := hide hw13
  have HX14 := hide hX14
  clear hw13 hX14
  go_wp2_with fail
  try rw [← unhide Hw13]
  try rw [unhide HX14]
  clear Hw13 HX14 mPd0 mPd1 mPd2 mQWp20 mQWp21 mQWp22
  refine (eqWord16S_same _ _ _ _ _ _ _ _ _ (unhide K).2.2.2.2.2.2.1.o.read (unhide K).2.2.1.o.read ((unhide K).2.2.2.2.2.2.1.con.trans (unhide K).2.2.1.con.symm)).mono ?_
  rintro x w14 ⟨rfl, b⟩
  have S21 : Hid (w13.heap.size ≤ w14.heap.size) := hide b.size
  have K : Hid (Below w.heap.size w w14 ∧ Blk w14 w.heap.size [.int .i64 rl, .int .i64 rn, .int .i64 rk] ∧ OwnWT w14 w6.heap.size (.slice (some ⟨g5, 0, none⟩) (((boR rl rn rk X Y).t).length) c6) ws7 ((boR rl rn rk X Y).t) ∧ Blk w14 X8 [.int .i64 rl, .int .i64 ((boR rl rn rk X Y).n), .int .i64 rk] ∧ OwnSB w14 g9 w9.heap.size pl1 X ∧ OwnSB w14 g10 w10.heap.size sl1 Y ∧ OwnWT w14 w11.heap.size (.slice (some ⟨g11, 0, none⟩) (((boR rl rn rk X Y).t).length) c12) ws13 ((boR rl rn rk X Y).t) ∧ Blk w14 X14 [.int .i64 rl, .int .i64 ((boR rl rn rk X Y).n), .int .i64 rk]) := hide ((unhide KEPT) _ _ (unhide K) b)
  clear b
  have mPd0 : w14.cell? ⟨w.heap.size, 0, none⟩ = some (.int .i64 rl) := (unhide K).2.1.c 0 (by simp)
  have mPd1 : w14.cell? ⟨w.heap.size, 1, none⟩ = some (.int .i64 rn) := (unhide K).2.1.c 1 (by simp)
  have mPd2 : w14.cell? ⟨w.heap.size, 2, none⟩ = some (.int .i64 rk) := (unhide K).2.1.c 2 (by simp)
  have mQWp20 : w14.cell? ⟨X8, 0, none⟩ = some (.int .i64 rl) := (unhide K).2.2.2.1.c 0 (by simp)
  have mQWp21 : w14.cell? ⟨X8, 1, none⟩ = some (.int .i64 ((boR rl rn rk X Y).n)) := (unhide K).2.2.2.1.c 1 (by simp)
  have mQWp22 : w14.cell? ⟨X8, 2, none⟩ = some (.int .i64 rk) := (unhide K).2.2.2.1.c 2 (by simp)
  have mQGp20 : w14.cell? ⟨X14, 0, none⟩ = some (.int .i64 rl) := (unhide K).2.2.2.2.2.2.2.c 0 (by simp)
  have mQGp21 : w14.cell? ⟨X14, 1, none⟩ = some (.int .i64 ((boR rl rn rk X Y).n)) := (unhide K).2.2.2.2.2.2.2.c 1 (by simp)
  have mQGp22 : w14.cell? ⟨X14, 2, none⟩ = some (.int .i64 rk) := (unhide K).2.2.2.2.2.2.2.c 2 (by simp)
  go_wp2_with fail
  clear mPd0 mPd1 mPd2 mQWp20 mQWp21 mQWp22 mQGp20 mQGp21 mQGp22
  refine (eqReceiver_alike _ _ _ _ _ _ _ (rvAlike_refl _)).mono ?_
  rintro x w15 ⟨rfl, b⟩
  have S22 : Hid (w14.heap.size ≤ w15.heap.size) := hide b.size
  have K : Hid (Below w.heap.size w w15 ∧ Blk w15 w.heap.size [.int .i64 rl, .int .i64 rn, .int .i64 rk] ∧ OwnWT w15 w6.heap.size (.slice (some ⟨g5, 0, none⟩) (((boR rl rn rk X Y).t).length) c6) ws7 ((boR rl rn rk X Y).t) ∧ Blk w15 X8 [.int .i64 rl, .int .i64 ((boR rl rn rk X Y).n), .int .i64 rk] ∧ OwnSB w15 g9 w9.heap.size pl1 X ∧ OwnSB w15 g10 w10.heap.size sl1 Y ∧ OwnWT w15 w11.heap.size (.slice (some ⟨g11, 0, none⟩) (((boR rl rn rk X Y).t).length) c12) ws13 ((boR rl rn rk X Y).t) ∧ Blk w15 X14 [.int .i64 rl, .int .i64 ((boR rl rn rk X Y).n), .int .i64 rk]) := hide ((unhide KEPT) _ _ (unhide K) b)
  clear b
  have mPd0 : w15.cell? ⟨w.heap.size, 0, none⟩ = some (.int .i64 rl) := (unhide K).2.1.c 0 (by simp)
  have mPd1 : w15.cell? ⟨w.heap.size, 1, none⟩ = some (.int .i64 rn) := (unhide K).2.1.c 1 (by simp)
  have mPd2 : w15.cell? ⟨w.heap.size, 2, none⟩ = some (.int .i64 rk) := (unhide K).2.1.c 2 (by simp)
  have mQWp20 : w15.cell? ⟨X8, 0, none⟩ = some (.int .i64 rl) := (unhide K).2.2.2.1.c 0 (by simp)
  have mQWp21 : w15.cell? ⟨X8, 1, none⟩ = some (.int .i64 ((boR rl rn rk X Y).n)) := (unhide K).2.2.2.1.c 1 (by simp)
  have mQWp22 : w15.cell? ⟨X8, 2, none⟩ = some (.int .i64 rk) := (unhide K).2.2.2.1.c 2 (by simp)
  have mQGp20 : w15.cell? ⟨X14, 0, none⟩ = some (.int .i64 rl) := (unhide K).2.2.2.2.2.2.2.c 0 (by simp)
  have mQGp21 : w15.cell? ⟨X14, 1, none⟩ = some (.int .i64 ((boR rl rn rk X Y).n)) := (unhide K).2.2.2.2.2.2.2.c 1 (by simp)
  have mQGp22 : w15.cell? ⟨X14, 2, none⟩ = some (.int .i64 rk) := (unhide K).2.2.2.2.2.2.2.c 2 (by simp)
  go_wp2_with fail
  clear mPd0 mPd1 mPd2 mQWp20 mQWp21 mQWp22 mQGp20 mQGp21 mQGp22
  obtain ⟨g15, hg15⟩ : ∃ G, w15.heap.size = G := ⟨_, rfl⟩
  refine (toByteSS_own _ _ _ _ _ ((unhide Rp).below (unhide K).1) hp1 (unhide HAp)).mono ?_
  rintro x w16 ⟨rfl, oc, b⟩
  rw [hg15] at oc ⊢
  have Bg15 := hide hg15
  clear hg15
  have S23 : Hid (w15.heap.size = g15) := hide (unhide Bg15)
  have IC := hide oc.row
  have S24 : Hid (w15.heap.size ≤ w16.heap.size) := hide b.size
  have K : Hid (Below w.heap.size w w16 ∧ Blk w16 w.heap.size [.int .i64 rl, .int .i64 rn, .int .i64 rk] ∧ OwnWT w16 w6.heap.size (.slice (some ⟨g5, 0, none⟩) (((boR rl rn rk X Y).t).length) c6) ws7 ((boR rl rn rk X Y).t) ∧ Blk w16 X8 [.int .i64 rl, .int .i64 ((boR rl rn rk X Y).n), .int .i64 rk] ∧ OwnSB w16 g9 w9.heap.size pl1 X ∧ OwnSB w16 g10 w10.heap.size sl1 Y ∧ OwnWT w16 w11.heap.size (.slice (some ⟨g11, 0, none⟩) (((boR rl rn rk X Y).t).length) c12) ws13 ((boR rl rn rk X Y).t) ∧ Blk w16 X14 [.int .i64 rl, .int .i64 ((boR rl rn rk X Y).n), .int .i64 rk]) := hide ((unhide KEPT) _ _ (unhide K) b)
  clear oc b
  have mPd0 : w16.cell? ⟨w.heap.size, 0, none⟩ = some (.int .i64 rl) := (unhide K).2.1.c 0 (by simp)
  have mPd1 : w16.cell? ⟨w.heap.size, 1, none⟩ = some (.int .i64 rn) := (unhide K).2.1.c 1 (by simp)
  have mPd2 : w16.cell? ⟨w.heap.size, 2, none⟩ = some (.int .i64 rk) := (unhide K).2.1.c 2 (by simp)
  have mQWp20 : w16.cell? ⟨X8, 0, none⟩ = some (.int .i64 rl) := (unhide K).2.2.2.1.c 0 (by simp)
  have mQWp21 : w16.cell? ⟨X8, 1, none⟩ = some (.int .i64 ((boR rl rn rk X Y).n)) := (unhide K).2.2.2.1.c 1 (by simp)
  have mQWp22 : w16.cell? ⟨X8, 2, none⟩ = some (.int .i64 rk) := (unhide K).2.2.2.1.c 2 (by simp)
  have mQGp20 : w16.cell? ⟨X14, 0, none⟩ = some (.int .i64 rl) := (unhide K).2.2.2.2.2.2.2.c 0 (by simp)
  have mQGp21 : w16.cell? ⟨X14, 1, none⟩ = some (.int .i64 ((boR rl rn rk X Y).n)) := (unhide K).2.2.2.2.2.2.2.c 1 (by simp)
  have mQGp22 : w16.cell? ⟨X14, 2, none⟩ = some (.int .i64 rk) := (unhide K).2.2.2.2.2.2.2.c 2 (by simp)
  go_wp2_with fail
  clear mPd0 mPd1 mPd2 mQWp20 mQWp21 mQWp22 mQGp20 mQGp21 mQGp22
  refine (eqByteSS_same _ _ _ _ _ _ _ _ (unhide K).2.2.2.2.1.row (unhide IC)).mono ?_
  rintro x w17 ⟨rfl, b⟩
  have S25 : Hid (w16.heap.size ≤ w17.heap.size) := hide b.size
  have K : Hid (Below w.heap.size w w17 ∧ Blk w17 w.heap.size [.int .i64 rl, .int .i64 rn, .int .i64 rk] ∧ OwnWT w17 w6.heap.size (.slice (some ⟨g5, 0, none⟩) (((boR rl rn rk X Y).t).length) c6) ws7 ((boR rl rn rk X Y).t) ∧ Blk w17 X8 [.int .i64 rl, .int .i64 ((boR rl rn rk X Y).n), .int .i64 rk] ∧ OwnSB w17 g9 w9.heap.size pl1 X ∧ OwnSB w17 g10 w10.heap.size sl1 Y ∧ OwnWT w17 w11.heap.size (.slice (some ⟨g11, 0, none⟩) (((boR rl rn rk X Y).t).length) c12) ws13 ((boR rl rn rk X Y).t) ∧ Blk w17 X14 [.int .i64 rl, .int .i64 ((boR rl rn rk X Y).n), .int .i64 rk]) := hide ((unhide KEPT) _ _ (unhide K) b)
  clear b IC
  have mPd0 : w17.cell? ⟨w.heap.size, 0, none⟩ = some (.int .i64 rl) := (unhide K).2.1.c 0 (by simp)
  have mPd1 : w17.cell? ⟨w.heap.size, 1, none⟩ = some (.int .i64 rn) := (unhide K).2.1.c 1 (by simp)
  have mPd2 : w17.cell? ⟨w.heap.size, 2, none⟩ = some (.int .i64 rk) := (unhide K).2.1.c 2 (by simp)
  have mQWp20 : w17.cell? ⟨X8, 0, none⟩ = some (.int .i64 rl) := (unhide K).2.2.2.1.c 0 (by simp)
  have mQWp21 : w17.cell? ⟨X8, 1, none⟩ = some (.int .i64 ((boR rl rn rk X Y).n)) := (unhide K).2.2.2.1.c 1 (by simp)
  have mQWp22 : w17.cell? ⟨X8, 2, none⟩ = some (.int .i64 rk) := (unhide K).2.2.2.1.c 2 (by simp)
  have mQGp20 : w17.cell? ⟨X14, 0, none⟩ = some (.int .i64 rl) := (unhide K).2.2.2.2.2.2.2.c 0 (by simp)
  have mQGp21 : w17.cell? ⟨X14, 1, none⟩ = some (.int .i64 ((boR rl rn rk X Y).n)) := (unhide K).2.2.2.2.2.2.2.c 1 (by simp)
  have mQGp22 : w17.cell? ⟨X14, 2, none⟩ = some (.int .i64 rk) := (unhide K).2.2.2.2.2.2.2.c 2 (by simp)
  go_wp2_with fail
  clear mPd0 mPd1 mPd2 mQWp20 mQWp21 mQWp22 mQGp20 mQGp21 mQGp22
  obtain ⟨g16, hg16⟩ : ∃ G, w17.heap.size = G := ⟨_, rfl⟩
  refine (toByteSS_own _ _ _ _ _ ((unhide Rs).below (unhide K).1) hs1 (unhide HAs)).mono ?_
  rintro x w18 ⟨rfl, oc, b⟩
  rw [hg16] at oc ⊢
  have Bg16 := hide hg16
  clear hg16
  have S26 : Hid (w17.heap.size = g16) := hide (unhide Bg16)
  have IC := hide oc.row
  have S27 : Hid (w17.heap.size ≤ w18.heap.size) := hide b.size
  have K : Hid (Below w.heap.size w w18 ∧ Blk w18 w.heap.size [.int .i64 rl, .int .i64 rn, .int .i64 rk] ∧ OwnWT w18 w6.heap.size (.slice (some ⟨g5, 0, none⟩) (((boR rl rn rk X Y).t).length) c6) ws7 ((boR rl rn rk X Y).t) ∧ Blk w18 X8 [.int .i64 rl, .int .i64 ((boR rl rn rk X Y).n), .int .i64 rk] ∧ OwnSB w18 g9 w9.heap.size pl1 X ∧ OwnSB w18 g10 w10.heap.size sl1 Y ∧ OwnWT w18 w11.heap.size (.slice (some ⟨g11, 0, none⟩) (((boR rl rn rk X Y).t).length) c12) ws13 ((boR rl rn rk X Y).t) ∧ Blk w18 X14 [.int .i64 rl, .int .i64 ((boR rl rn rk X Y).n), .int .i64 rk]) := hide ((unhide KEPT) _ _ (unhide K) b)
  clear oc b
  have mPd0 : w18.cell? ⟨w.heap.size, 0, none⟩ = some (.int .i64 rl) := (unhide K).2.1.c 0 (by simp)
  have mPd1 : w18.cell? ⟨w.heap.size, 1, none⟩ = some (.int .i64 rn) := (unhide K).2.1.c 1 (by simp)
  have mPd2 : w18.cell? ⟨w.heap.size, 2, none⟩ = some (.int .i64 rk) := (unhide K).2.1.c 2 (by simp)
  have mQWp20 : w18.cell? ⟨X8, 0, none⟩ = some (.int .i64 rl) := (unhide K).2.2.2.1.c 0 (by simp)
  have mQWp21 : w18.cell? ⟨X8, 1, none⟩ = some (.int .i64 ((boR rl rn rk X Y).n)) := (unhide K).2.2.2.1.c 1 (by simp)
  have mQWp22 : w18.cell? ⟨X8, 2, none⟩ = some (.int .i64 rk) := (unhide K).2.2.2.1.c 2 (by simp)
  have mQGp20 : w18.cell? ⟨X14, 0, none⟩ = some (.int .i64 rl) := (unhide K).2.2.2.2.2.2.2.c 0 (by simp)
  have mQGp21 : w18.cell? ⟨X14, 1, none⟩ = some (.int .i64 ((boR rl rn rk X Y).n)) := (unhide K).2.2.2.2.2.2.2.c 1 (by simp)
  have mQGp22 : w18.cell? ⟨X14, 2, none⟩ = some (.int .i64 rk) := (unhide K).2.2.2.2.2.2.2.c 2 (by simp)
  go_wp2_with fail
  clear mPd0 mPd1 mPd2 mQWp20 mQWp21 mQWp22 mQGp20 mQGp21 mQGp22
  refine (eqByteSS_same _ _ _ _ _ _ _ _ (unhide K).2.2.2.2.2.1.row (unhide IC)).mono ?_
  rintro x w19 ⟨rfl, b⟩
  have S28 : Hid (w18.heap.size ≤ w19.heap.size) := hide b.size
  have K : Hid (Below w.heap.size w w19 ∧ Blk w19 w.heap.size [.int .i64 rl, .int .i64 rn, .int .i64 rk] ∧ OwnWT w19 w6.heap.size (.slice (some ⟨g5, 0, none⟩) (((boR rl rn rk X Y).t).length) c6) ws7 ((boR rl rn rk X Y).t) ∧ Blk w19 X8 [.int .i64 rl, .int .i64 ((boR rl rn rk X Y).n), .int .i64 rk] ∧ OwnSB w19 g9 w9.heap.size pl1 X ∧ OwnSB w19 g10 w10.heap.size sl1 Y ∧ OwnWT w19 w11.heap.size (.slice (some ⟨g11, 0, none⟩) (((boR rl rn rk X Y).t).length) c12) ws13 ((boR rl rn rk X Y).t) ∧ Blk w19 X14 [.int .i64 rl, .int .i64 ((boR rl rn rk X Y).n), .int .i64 rk]) := hide ((unhide KEPT) _ _ (unhide K) b)
  clear b IC
  have mPd0 : w19.cell? ⟨w.heap.size, 0, none⟩ = some (.int .i64 rl) := (unhide K).2.1.c 0 (by simp)
  have mPd1 : w19.cell? ⟨w.heap.size, 1, none⟩ = some (.int .i64 rn) := (unhide K).2.1.c 1 (by simp)
  have mPd2 : w19.cell? ⟨w.heap.size, 2, none⟩ = some (.int .i64 rk) := (unhide K).2.1.c 2 (by simp)
  have mQWp20 : w19.cell? ⟨X8, 0, none⟩ = some (.int .i64 rl) := (unhide K).2.2.2.1.c 0 (by simp)
  have mQWp21 : w19.cell? ⟨X8, 1, none⟩ = some (.int .i64 ((boR rl rn rk X Y).n)) := (unhide K).2.2.2.1.c 1 (by simp)
  have mQWp22 : w19.cell? ⟨X8, 2, none⟩ = some (.int .i64 rk) := (unhide K).2.2.2.1.c 2 (by simp)
  have mQGp20 : w19.cell? ⟨X14, 0, none⟩ = some (.int .i64 rl) := (unhide K).2.2.2.2.2.2.2.c 0 (by simp)
  have mQGp21 : w19.cell? ⟨X14, 1, none⟩ = some (.int .i64 ((boR rl rn rk X Y).n)) := (unhide K).2.2.2.2.2.2.2.c 1 (by simp)
  have mQGp22 : w19.cell? ⟨X14, 2, none⟩ = some (.int .i64 rk) := (unhide K).2.2.2.2.2.2.2.c 2 (by simp)
  go_wp2_with fail
  clear mPd0 mPd1 mPd2 mQWp20 mQWp21 mQWp22 mQGp20 mQGp21 mQGp22
  refine (markByteSS_own _ _ _ _ 1 _ (unhide K).2.2.2.2.1 (by omega) (by omega) (unhide HAp) hTp).mono ?_
  rintro x w20 ⟨rfl, on⟩
  have S29 : Hid (w19.heap.size ≤ w20.heap.size) := hide on.size
  have K : Hid (Below w.heap.size w w20 ∧ Blk w20 w.heap.size [.int .i64 rl, .int .i64 rn, .int .i64 rk] ∧ OwnWT w20 w6.heap.size (.slice (some ⟨g5, 0, none⟩) (((boR rl rn rk X Y).t).length) c6) ws7 ((boR rl rn rk X Y).t) ∧ Blk w20 X8 [.int .i64 rl, .int .i64 ((boR rl rn rk X Y).n), .int .i64 rk] ∧ OwnSB w20 g10 w10.heap.size sl1 Y ∧ OwnWT w20 w11.heap.size (.slice (some ⟨g11, 0, none⟩) (((boR rl rn rk X Y).t).length) c12) ws13 ((boR rl rn rk X Y).t) ∧ Blk w20 X14 [.int .i64 rl, .int .i64 ((boR rl rn rk X Y).n), .int .i64 rk]) := hide ⟨below_only (unhide K).1 on (by have s0 := unhide S0; have s1 := unhide S1; have s2 := unhide S2; have s3 := unhide S3; have s4 := unhide S4; have s5 := unhide S5; have s6 := unhide S6; have s7 := unhide S7; have s8 := unhide S8; have s9 := unhide S9; have s10 := unhide S10; have s11 := unhide S11; have s12 := unhide S12; have s13 := unhide S13; have s14 := unhide S14; have s15 := unhide S15; have s16 := unhide S16; have s17 := unhide S17; have s18 := unhide S18; have s19 := unhide S19; have s20 := unhide S20; have s21 := unhide S21; have s22 := unhide S22; have s23 := unhide S23; have s24 := unhide S24; have s25 := unhide S25; have s26 := unhide S26; have s27 := unhide S27; have s28 := unhide S28; have s29 := unhide S29; omega) (Nat.le_refl _), (unhide K).2.1.only on (by have s0 := unhide S0; have s1 := unhide S1; have s2 := unhide S2; have s3 := unhide S3; have s4 := unhide S4; have s5 := unhide S5; have s6 := unhide S6; have s7 := unhide S7; have s8 := unhide S8; have s9 := unhide S9; have s10 := unhide S10; have s11 := unhide S11; have s12 := unhide S12; have s13 := unhide S13; have s14 := unhide S14; have s15 := unhide S15; have s16 := unhide S16; have s17 := unhide S17; have s18 := unhide S18; have s19 := unhide S19; have s20 := unhide S20; have s21 := unhide S21; have s22 := unhide S22; have s23 := unhide S23; have s24 := unhide S24; have s25 := unhide S25; have s26 := unhide S26; have s27 := unhide S27; have s28 := unhide S28; have s29 := unhide S29; omega), (unhide K).2.2.1.only on (unhide LW0) (by have s0 := unhide S0; have s1 := unhide S1; have s2 := unhide S2; have s3 := unhide S3; have s4 := unhide S4; have s5 := unhide S5; have s6 := unhide S6; have s7 := unhide S7; have s8 := unhide S8; have s9 := unhide S9; have s10 := unhide S10; have s11 := unhide S11; have s12 := unhide S12; have s13 := unhide S13; have s14 := unhide S14; have s15 := unhide S15; have s16 := unhide S16; have s17 := unhide S17; have s18 := unhide S18; have s19 := unhide S19; have s20 := unhide S20; have s21 := unhide S21; have s22 := unhide S22; have s23 := unhide S23; have s24 := unhide S24; have s25 := unhide S25; have s26 := unhide S26; have s27 := unhide S27; have s28 := unhide S28; have s29 := unhide S29; omega), (unhide K).2.2.2.1.only on (by have s0 := unhide S0; have s1 := unhide S1; have s2 := unhide S2; have s3 := unhide S3; have s4 := unhide S4; have s5 := unhide S5; have s6 := unhide S6; have s7 := unhide S7; have s8 := unhide S8; have s9 := unhide S9; have s10 := unhide S10; have s11 := unhide S11; have s12 := unhide S12; have s13 := unhide S13; have s14 := unhide S14; have s15 := unhide S15; have s16 := unhide S16; have s17 := unhide S17; have s18 := unhide S18; have s19 := unhide S19; have s20 := unhide S20; have s21 := unhide S21; have s22 := unhide S22; have s23 := unhide S23; have s24 := unhide S24; have s25 := unhide S25; have s26 := unhide S26; have s27 := unhide S27; have s28 := unhide S28; have s29 := unhide S29; omega), (unhide K).2.2.2.2.2.1.only on (by have s0 := unhide S0; have s1 := unhide S1; have s2 := unhide S2; have s3 := unhide S3; have s4 := unhide S4; have s5 := unhide S5; have s6 := unhide S6; have s7 := unhide S7; have s8 := unhide S8; have s9 := unhide S9; have s10 := unhide S10; have s11 := unhide S11; have s12 := unhide S12; have s13 := unhide S13; have s14 := unhide S14; have s15 := unhide S15; have s16 := unhide S16; have s17 := unhide S17; have s18 := unhide S18; have s19 := unhide S19; have s20 := unhide S20; have s21 := unhide S21; have s22 := unhide S22; have s23 := unhide S23; have s24 := unhide S24; have s25 := unhide S25; have s26 := unhide S26; have s27 := unhide S27; have s28 := unhide S28; have s29 := unhide S29; omega), (unhide K).2.2.2.2.2.2.1.only on (unhide LG0) (by have s0 := unhide S0; have s1 := unhide S1; have s2 := unhide S2; have s3 := unhide S3; have s4 := unhide S4; have s5 := unhide S5; have s6 := unhide S6; have s7 := unhide S7; have s8 := unhide S8; have s9 := unhide S9; have s10 := unhide S10; have s11 := unhide S11; have s12 := unhide S12; have s13 := unhide S13; have s14 := unhide S14; have s15 := unhide S15; have s16 := unhide S16; have s17 := unhide S17; have s18 := unhide S18; have s19 := unhide S19; have s20 := unhide S20; have s21 := unhide S21; have s22 := unhide S22; have s23 := unhide S23; have s24 := unhide S24; have s25 := unhide S25; have s26 := unhide S26; have s27 := unhide S27; have s28 := unhide S28; have s29 := unhide S29; omega), (unhide K).2.2.2.2.2.2.2.only on (by have s0 := unhide S0; have s1 := unhide S1; have s2 := unhide S2; have s3 := unhide S3; have s4 := unhide S4; have s5 := unhide S5; have s6 := unhide S6; have s7 := unhide S7; have s8 := unhide S8; have s9 := unhide S9; have s10 := unhide S10; have s11 := unhide S11; have s12 := unhide S12; have s13 := unhide S13; have s14 := unhide S14; have s15 := unhide S15; have s16 := unhide S16; have s17 := unhide S17; have s18 := unhide S18; have s19 := unhide S19; have s20 := unhide S20; have s21 := unhide S21; have s22 := unhide S22; have s23 := unhide S23; have s24 := unhide S24; have s25 := unhide S25; have s26 := unhide S26; have s27 := unhide S27; have s28 := unhide S28; have s29 := unhide S29; omega)⟩
  clear KEPT on
  have KEPT : Hid (∀ W u3, (Below w.heap.size w W ∧ Blk W w.heap.size [.int .i64 rl, .int .i64 rn, .int .i64 rk] ∧ OwnWT W w6.heap.size (.slice (some ⟨g5, 0, none⟩) (((boR rl rn rk X Y).t).length) c6) ws7 ((boR rl rn rk X Y).t) ∧ Blk W X8 [.int .i64 rl, .int .i64 ((boR rl rn rk X Y).n), .int .i64 rk] ∧ OwnSB W g10 w10.heap.size sl1 Y ∧ OwnWT W w11.heap.size (.slice (some ⟨g11, 0, none⟩) (((boR rl rn rk X Y).t).length) c12) ws13 ((boR rl rn rk X Y).t) ∧ Blk W X14 [.int .i64 rl, .int .i64 ((boR rl rn rk X Y).n), .int .i64 rk]) → Below W.heap.size W u3 → (Below w.heap.size w u3 ∧ Blk u3 w.heap.size [.int .i64 rl, .int .i64 rn, .int .i64 rk] ∧ OwnWT u3 w6.heap.size (.slice (some ⟨g5, 0, none⟩) (((boR rl rn rk X Y).t).length) c6) ws7 ((boR rl rn rk X Y).t) ∧ Blk u3 X8 [.int .i64 rl, .int .i64 ((boR rl rn rk X Y).n), .int .i64 rk] ∧ OwnSB u3 g10 w10.heap.size sl1 Y ∧ OwnWT u3 w11.heap.size (.slice (some ⟨g11, 0, none⟩) (((boR rl rn rk X Y).t).length) c12) ws13 ((boR rl rn rk X Y).t) ∧ Blk u3 X14 [.int .i64 rl, .int .i64 ((boR rl rn rk X Y).n), .int .i64 rk])) := hide (fun W u3 h b => ⟨h.1.trans (b.mono h.1.size), h.2.1.below b, h.2.2.1.below b, h.2.2.2.1.below b, h.2.2.2.2.1.below b, h.2.2.2.2.2.1.below b, h.2.2.2.2.2.2.below b⟩)
  have nk20 : ¬ (1 + (totB X pl1 : Int) < 0) := by omega
  have mPd0 : w20.cell? ⟨w.heap.size, 0, none⟩ = some (.int .i64 rl) := (unhide K).2.1.c 0 (by simp)
  have mPd1 : w20.cell? ⟨w.heap.size, 1, none⟩ = some (.int .i64 rn) := (unhide K).2.1.c 1 (by simp)
  have mPd2 : w20.cell? ⟨w.heap.size, 2, none⟩ = some (.int .i64 rk) := (unhide K).2.1.c 2 (by simp)
  have mQWp20 : w20.cell? ⟨X8, 0, none⟩ = some (.int .i64 rl) := (unhide K).2.2.2.1.c 0 (by simp)
  have mQWp21 : w20.cell? ⟨X8, 1, none⟩ = some (.int .i64 ((boR rl rn rk X Y).n)) := (unhide K).2.2.2.1.c 1 (by simp)
  have mQWp22 : w20.cell? ⟨X8, 2, none⟩ = some (.int .i64 rk) := (unhide K).2.2.2.1.c 2 (by simp)
  have mQGp20 : w20.cell? ⟨X14, 0, none⟩ = some (.int .i64 rl) := (unhide K).2.2.2.2.2.2.c 0 (by simp)
  have mQGp21 : w20.cell? ⟨X14, 1, none⟩ = some (.int .i64 ((boR rl rn rk X Y).n)) := (unhide K).2.2.2.2.2.2.c 1 (by simp)
  have mQGp22 : w20.cell? ⟨X14, 2, none⟩ = some (.int .i64 rk) := (unhide K).2.2.2.2.2.2.c 2 (by simp)
  go_wp2_with fail
  clear mPd0 mPd1 mPd2 mQWp20 mQWp21 mQWp22 mQGp20 mQGp21 mQGp22
  refine (markByteSS_own _ _ _ _ (1 + (totB X pl1 : Int)) _ (unhide K).2.2.2.2.1 (by omega) (by omega) (unhide HAs) hTs).mono ?_
  rintro x w21 ⟨rfl, on⟩
  have S30 : Hid (w20.heap.size ≤ w21.heap.size) := hide on.size
  have K : Hid (Below w.heap.size w w21 ∧ Blk w21 w.heap.size [.int .i64 rl, .int .i64 rn, .int .i64 rk] ∧ OwnWT w21 w6.heap.size (.slice (some ⟨g5, 0, none⟩) (((boR rl rn rk X Y).t).length) c6) ws7 ((boR rl rn rk X Y).t) ∧ Blk w21 X8 [.int .i64 rl, .int .i64 ((boR rl rn rk X Y).n), .int .i64 rk] ∧ OwnWT w21 w11.heap.size (.slice (some ⟨g11, 0, none⟩) (((boR rl rn rk X Y).t).length) c12) ws13 ((boR rl rn rk X Y).t) ∧ Blk w21 X14 [.int .i64 rl, .int .i64 ((boR rl rn rk X Y).n), .int .i64 rk]) := hide ⟨below_only (unhide K).1 on (by have s0 := unhide S0; have s1 := unhide S1; have s2 := unhide S2; have s3 := unhide S3; have s4 := unhide S4; have s5 := unhide S5; have s6 := unhide S6; have s7 := unhide S7; have s8 := unhide S8; have s9 := unhide S9; have s10 := unhide S10; have s11 := unhide S11; have s12 := unhide S12; have s13 := unhide S13; have s14 := unhide S14; have s15 := unhide S15; have s16 := unhide S16; have s17 := unhide S17; have s18 := unhide S18; have s19 := unhide S19; have s20 := unhide S20; have s21 := unhide S21; have s22 := unhide S22; have s23 := unhide S23; have s24 := unhide S24; have s25 := unhide S25; have s26 := unhide S26; have s27 := unhide S27; have s28 := unhide S28; have s29 := unhide S29; have s30 := unhide S30; omega) (Nat.le_refl _), (unhide K).2.1.only on (by have s0 := unhide S0; have s1 := unhide S1; have s2 := unhide S2; have s3 := unhide S3; have s4 := unhide S4; have s5 := unhide S5; have s6 := unhide S6; have s7 := unhide S7; have s8 := unhide S8; have s9 := unhide S9; have s10 := unhide S10; have s11 := unhide S11; have s12 := unhide S12; have s13 := unhide S13; have s14 := unhide S14; have s15 := unhide S15; have s16 := unhide S16; have s17 := unhide S17; have s18 := unhide S18; have s19 := unhide S19; have s20 := unhide S20; have s21 := unhide S21; have s22 := unhide S22; have s23 := unhide S23; have s24 := unhide S24; have s25 := unhide S25; have s26 := unhide S26; have s27 := unhide S27; have s28 := unhide S28; have s29 := unhide S29; have s30 := unhide S30; omega), (unhide K).2.2.1.only on (unhide LW0) (by have s0 := unhide S0; have s1 := unhide S1; have s2 := unhide S2; have s3 := unhide S3; have s4 := unhide S4; have s5 := unhide S5; have s6 := unhide S6; have s7 := unhide S7; have s8 := unhide S8; have s9 := unhide S9; have s10 := unhide S10; have s11 := unhide S11; have s12 := unhide S12; have s13 := unhide S13; have s14 := unhide S14; have s15 := unhide S15; have s16 := unhide S16; have s17 := unhide S17; have s18 := unhide S18; have s19 := unhide S19; have s20 := unhide S20; have s21 := unhide S21; have s22 := unhide S22; have s23 := unhide S23; have s24 := unhide S24; have s25 := unhide S25; have s26 := unhide S26; have s27 := unhide S27; have s28 := unhide S28; have s29 := unhide S29; have s30 := unhide S30; omega), (unhide K).2.2.2.1.only on (by have s0 := unhide S0; have s1 := unhide S1; have s2 := unhide S2; have s3 := unhide S3; have s4 := unhide S4; have s5 := unhide S5; have s6 := unhide S6; have s7 := unhide S7; have s8 := unhide S8; have s9 := unhide S9; have s10 := unhide S10; have s11 := unhide S11; have s12 := unhide S12; have s13 := unhide S13; have s14 := unhide S14; have s15 := unhide S15; have s16 := unhide S16; have s17 := unhide S17; have s18 := unhide S18; have s19 := unhide S19; have s20 := unhide S20; have s21 := unhide S21; have s22 := unhide S22; have s23 := unhide S23; have s24 := unhide S24; have s25 := unhide S25; have s26 := unhide S26; have s27 := unhide S27; have s28 := unhide S28; have s29 := unhide S29; have s30 := unhide S30; omega), (unhide K).2.2.2.2.2.1.only on (unhide LG0) (by have s0 := unhide S0; have s1 := unhide S1; have s2 := unhide S2; have s3 := unhide S3; have s4 := unhide S4; have s5 := unhide S5; have s6 := unhide S6; have s7 := unhide S7; have s8 := unhide S8; have s9 := unhide S9; have s10 := unhide S10; have s11 := unhide S11; have s12 := unhide S12; have s13 := unhide S13; have s14 := unhide S14; have s15 := unhide S15; have s16 := unhide S16; have s17 := unhide S17; have s18 := unhide S18; have s19 := unhide S19; have s20 := unhide S20; have s21 := unhide S21; have s22 := unhide S22; have s23 := unhide S23; have s24 := unhide S24; have s25 := unhide S25; have s26 := unhide S26; have s27 := unhide S27; have s28 := unhide S28; have s29 := unhide S29; have s30 := unhide S30; omega), (unhide K).2.2.2.2.2.2.only on (by have s0 := unhide S0; have s1 := unhide S1; have s2 := unhide S2; have s3 := unhide S3; have s4 := unhide S4; have s5 := unhide S5; have s6 := unhide S6; have s7 := unhide S7; have s8 := unhide S8; have s9 := unhide S9; have s10 := unhide S10; have s11 := unhide S11; have s12 := unhide S12; have s13 := unhide S13; have s14 := unhide S14; have s15 := unhide S15; have s16 := unhide S16; have s17 := unhide S17; have s18 := unhide S18; have s19 := unhide S19; have s20 := unhide S20; have s21 := unhide S21; have s22 := unhide S22; have s23 := unhide S23; have s24 := unhide S24; have s25 := unhide S25; have s26 := unhide S26; have s27 := unhide S27; have s28 := unhide S28; have s29 := unhide S29; have s30 := unhide S30; omega)⟩
  clear KEPT on
  have KEPT : Hid (∀ W u3, (Below w.heap.size w W ∧ Blk W w.heap.size [.int .i64 rl, .int .i64 rn, .int .i64 rk] ∧ OwnWT W w6.heap.size (.slice (some ⟨g5, 0, none⟩) (((boR rl rn rk X Y).t).length) c6) ws7 ((boR rl rn rk X Y).t) ∧ Blk W X8 [.int .i64 rl, .int .i64 ((boR rl rn rk X Y).n), .int .i64 rk] ∧ OwnWT W w11.heap.size (.slice (some ⟨g11, 0, none⟩) (((boR rl rn rk X Y).t).length) c12) ws13 ((boR rl rn rk X Y).t) ∧ Blk W X14 [.int .i64 rl, .int .i64 ((boR rl rn rk X Y).n), .int .i64 rk]) → Below W.heap.size W u3 → (Below w.heap.size w u3 ∧ Blk u3 w.heap.size [.int .i64 rl, .int .i64 rn, .int .i64 rk] ∧ OwnWT u3 w6.heap.size (.slice (some ⟨g5, 0, none⟩) (((boR rl rn rk X Y).t).length) c6) ws7 ((boR rl rn rk X Y).t) ∧ Blk u3 X8 [.int .i64 rl, .int .i64 ((boR rl rn rk X Y).n), .int .i64 rk] ∧ OwnWT u3 w11.heap.size (.slice (some ⟨g11, 0, none⟩) (((boR rl rn rk X Y).t).length) c12) ws13 ((boR rl rn rk X Y).t) ∧ Blk u3 X14 [.int .i64 rl, .int .i64 ((boR rl rn rk X Y).n), .int .i64 rk])) := hide (fun W u3 h b => ⟨h.1.trans (b.mono h.1.size), h.2.1.below b, h.2.2.1.below b, h.2.2.2.1.below b, h.2.2.2.2.1.below b, h.2.2.2.2.2.below b⟩)
  have nk21 : ¬ (1 + (totB X pl1 : Int) + (totB Y sl1 : Int) < 0) := by omega
  have mPd0 : w21.cell? ⟨w.heap.size, 0, none⟩ = some (.int .i64 rl) := (unhide K).2.1.c 0 (by simp)
  have mPd1 : w21.cell? ⟨w.heap.size, 1, none⟩ = some (.int .i64 rn) := (unhide K).2.1.c 1 (by simp)
  have mPd2 : w21.cell? ⟨w.heap.size, 2, none⟩ = some (.int .i64 rk) := (unhide K).2.1.c 2 (by simp)
  have mQWp20 : w21.cell? ⟨X8, 0, none⟩ = some (.int .i64 rl) := (unhide K).2.2.2.1.c 0 (by simp)
  have mQWp21 : w21.cell? ⟨X8, 1, none⟩ = some (.int .i64 ((boR rl rn rk X Y).n)) := (unhide K).2.2.2.1.c 1 (by simp)
  have mQWp22 : w21.cell? ⟨X8, 2, none⟩ = some (.int .i64 rk) := (unhide K).2.2.2.1.c 2 (by simp)
  have mQGp20 : w21.cell? ⟨X14, 0, none⟩ = some (.int .i64 rl) := (unhide K).2.2.2.2.2.c 0 (by simp)
  have mQGp21 : w21.cell? ⟨X14, 1, none⟩ = some (.int .i64 ((boR rl rn rk X Y).n)) := (unhide K).2.2.2.2.2.c 1 (by simp)
  have mQGp22 : w21.cell? ⟨X14, 2, none⟩ = some (.int .i64 rk) := (unhide K).2.2.2.2.2.c 2 (by simp)
  go_wp2_with fail
  clear mPd0 mPd1 mPd2 mQWp20 mQWp21 mQWp22 mQGp20 mQGp21 mQGp22
  refine (eqWord16S_same _ _ _ _ _ _ _ _ _ (unhide K).2.2.2.2.1.o.read (unhide K).2.2.1.o.read ((unhide K).2.2.2.2.1.con.trans (unhide K).2.2.1.con.symm)).mono ?_
  rintro x w22 ⟨rfl, b⟩
  have S31 : Hid (w21.heap.size ≤ w22.heap.size) := hide b.size
  have K : Hid (Below w.heap.size w w22 ∧ Blk w22 w.heap.size [.int .i64 rl, .int .i64 rn, .int .i64 rk] ∧ OwnWT w22 w6.heap.size (.slice (some ⟨g5, 0, none⟩) (((boR rl rn rk X Y).t).length) c6) ws7 ((boR rl rn rk X Y).t) ∧ Blk w22 X8 [.int .i64 rl, .int .i64 ((boR rl rn rk X Y).n), .int .i64 rk] ∧ OwnWT w22 w11.heap.size (.slice (some ⟨g11, 0, none⟩) (((boR rl rn rk X Y).t).length) c12) ws13 ((boR rl rn rk X Y).t) ∧ Blk w22 X14 [.int .i64 rl, .int .i64 ((boR rl rn rk X Y).n), .int .i64 rk]) := hide ((unhide KEPT) _ _ (unhide K) b)
  clear b
  have mPd0 : w22.cell? ⟨w.heap.size, 0, none⟩ = some (.int .i64 rl) := (unhide K).2.1.c 0 (by simp)
  have mPd1 : w22.cell? ⟨w.heap.size, 1, none⟩ = some (.int .i64 rn) := (unhide K).2.1.c 1 (by simp)
  have mPd2 : w22.cell? ⟨w.heap.size, 2, none⟩ = some (.int .i64 rk) := (unhide K).2.1.c 2 (by simp)
  have mQWp20 : w22.cell? ⟨X8, 0, none⟩ = some (.int .i64 rl) := (unhide K).2.2.2.1.c 0 (by simp)
  have mQWp21 : w22.cell? ⟨X8, 1, none⟩ = some (.int .i64 ((boR rl rn rk X Y).n)) := (unhide K).2.2.2.1.c 1 (by simp)
  have mQWp22 : w22.cell? ⟨X8, 2, none⟩ = some (.int .i64 rk) := (unhide K).2.2.2.1.c 2 (by simp)
  have mQGp20 : w22.cell? ⟨X14, 0, none⟩ = some (.int .i64 rl) := (unhide K).2.2.2.2.2.c 0 (by simp)
  have mQGp21 : w22.cell? ⟨X14, 1, none⟩ = some (.int .i64 ((boR rl rn rk X Y).n)) := (unhide K).2.2.2.2.2.c 1 (by simp)
  have mQGp22 : w22.cell? ⟨X14, 2, none⟩ = some (.int .i64 rk) := (unhide K).2.2.2.2.2.c 2 (by simp)
  go_wp2_with fail
  clear mPd0 mPd1 mPd2 mQWp20 mQWp21 mQWp22 mQGp20 mQGp21 mQGp22
  refine (eqReceiver_alike _ _ _ _ _ _ _ (rvAlike_refl _)).mono ?_
  rintro x w23 ⟨rfl, b⟩
  have S32 : Hid (w22.heap.size ≤ w23.heap.size) := hide b.size
  have K : Hid (Below w.heap.size w w23 ∧ Blk w23 w.heap.size [.int .i64 rl, .int .i64 rn, .int .i64 rk] ∧ OwnWT w23 w6.heap.size (.slice (some ⟨g5, 0, none⟩) (((boR rl rn rk X Y).t).length) c6) ws7 ((boR rl rn rk X Y).t) ∧ Blk w23 X8 [.int .i64 rl, .int .i64 ((boR rl rn rk X Y).n), .int .i64 rk] ∧ OwnWT w23 w11.heap.size (.slice (some ⟨g11, 0, none⟩) (((boR rl rn rk X Y).t).length) c12) ws13 ((boR rl rn rk X Y).t) ∧ Blk w23 X14 [.int .i64 rl, .int .i64 ((boR rl rn rk X Y).n), .int .i64 rk]) := hide ((unhide KEPT) _ _ (unhide K) b)
  clear b
  have mPd0 : w23.cell? ⟨w.heap.size, 0, none⟩ = some (.int .i64 rl) := (unhide K).2.1.c 0 (by simp)
  have mPd1 : w23.cell? ⟨w.heap.size, 1, none⟩ = some (.int .i64 rn) := (unhide K).2.1.c 1 (by simp)
  have mPd2 : w23.cell? ⟨w.heap.size, 2, none⟩ = some (.int .i64 rk) := (unhide K).2.1.c 2 (by simp)
  have mQWp20 : w23.cell? ⟨X8, 0, none⟩ = some (.int .i64 rl) := (unhide K).2.2.2.1.c 0 (by simp)
  have mQWp21 : w23.cell? ⟨X8, 1, none⟩ = some (.int .i64 ((boR rl rn rk X Y).n)) := (unhide K).2.2.2.1.c 1 (by simp)
  have mQWp22 : w23.cell? ⟨X8, 2, none⟩ = some (.int .i64 rk) := (unhide K).2.2.2.1.c 2 (by simp)
  have mQGp20 : w23.cell? ⟨X14, 0, none⟩ = some (.int .i64 rl) := (unhide K).2.2.2.2.2.c 0 (by simp)
  have mQGp21 : w23.cell? ⟨X14, 1, none⟩ = some (.int .i64 ((boR rl rn rk X Y).n)) := (unhide K).2.2.2.2.2.c 1 (by simp)
  have mQGp22 : w23.cell? ⟨X14, 2, none⟩ = some (.int .i64 rk) := (unhide K).2.2.2.2.2.c 2 (by simp)
  go_wp2_with fail
  clear mPd0 mPd1 mPd2 mQWp20 mQWp21 mQWp22 mQGp20 mQGp21 mQGp22
  refine (markWord16S_own _ _ _ _ ws13 1 _ (unhide K).2.2.2.2.1.o (unhide FG0).len (by have := (unhide FG0).few; omega) (unhide FG0).d32 (by omega) (by omega) _ _ (unhide LG0)).mono ?_
  rintro x w24 ⟨rfl, om, on⟩
  have kb24 := kA_le (unhide FG0) 1
  have S33 : Hid (w23.heap.size ≤ w24.heap.size) := hide on.size
  have K : Hid (Below w.heap.size w w24 ∧ Blk w24 w.heap.size [.int .i64 rl, .int .i64 rn, .int .i64 rk] ∧ OwnWT w24 w6.heap.size (.slice (some ⟨g5, 0, none⟩) (((boR rl rn rk X Y).t).length) c6) ws7 ((boR rl rn rk X Y).t) ∧ Blk w24 X8 [.int .i64 rl, .int .i64 ((boR rl rn rk X Y).n), .int .i64 rk] ∧ OwnWd w24 w11.heap.size (.slice (some ⟨g11, 0, none⟩) (((boR rl rn rk X Y).t).length) c12) (markWx ws13 1 (((boR rl rn rk X Y).t).length)) ∧ Blk w24 X14 [.int .i64 rl, .int .i64 ((boR rl rn rk X Y).n), .int .i64 rk]) := hide ⟨below_only (unhide K).1 on (by have s0 := unhide S0; have s1 := unhide S1; have s2 := unhide S2; have s3 := unhide S3; have s4 := unhide S4; have s5 := unhide S5; have s6 := unhide S6; have s7 := unhide S7; have s8 := unhide S8; have s9 := unhide S9; have s10 := unhide S10; have s11 := unhide S11; have s12 := unhide S12; have s13 := unhide S13; have s14 := unhide S14; have s15 := unhide S15; have s16 := unhide S16; have s17 := unhide S17; have s18 := unhide S18; have s19 := unhide S19; have s20 := unhide S20; have s21 := unhide S21; have s22 := unhide S22; have s23 := unhide S23; have s24 := unhide S24; have s25 := unhide S25; have s26 := unhide S26; have s27 := unhide S27; have s28 := unhide S28; have s29 := unhide S29; have s30 := unhide S30; have s31 := unhide S31; have s32 := unhide S32; have s33 := unhide S33; omega) (Nat.le_refl _), (unhide K).2.1.only on (by have s0 := unhide S0; have s1 := unhide S1; have s2 := unhide S2; have s3 := unhide S3; have s4 := unhide S4; have s5 := unhide S5; have s6 := unhide S6; have s7 := unhide S7; have s8 := unhide S8; have s9 := unhide S9; have s10 := unhide S10; have s11 := unhide S11; have s12 := unhide S12; have s13 := unhide S13; have s14 := unhide S14; have s15 := unhide S15; have s16 := unhide S16; have s17 := unhide S17; have s18 := unhide S18; have s19 := unhide S19; have s20 := unhide S20; have s21 := unhide S21; have s22 := unhide S22; have s23 := unhide S23; have s24 := unhide S24; have s25 := unhide S25; have s26 := unhide S26; have s27 := unhide S27; have s28 := unhide S28; have s29 := unhide S29; have s30 := unhide S30; have s31 := unhide S31; have s32 := unhide S32; have s33 := unhide S33; omega), (unhide K).2.2.1.only on (unhide LW0) (by have s0 := unhide S0; have s1 := unhide S1; have s2 := unhide S2; have s3 := unhide S3; have s4 := unhide S4; have s5 := unhide S5; have s6 := unhide S6; have s7 := unhide S7; have s8 := unhide S8; have s9 := unhide S9; have s10 := unhide S10; have s11 := unhide S11; have s12 := unhide S12; have s13 := unhide S13; have s14 := unhide S14; have s15 := unhide S15; have s16 := unhide S16; have s17 := unhide S17; have s18 := unhide S18; have s19 := unhide S19; have s20 := unhide S20; have s21 := unhide S21; have s22 := unhide S22; have s23 := unhide S23; have s24 := unhide S24; have s25 := unhide S25; have s26 := unhide S26; have s27 := unhide S27; have s28 := unhide S28; have s29 := unhide S29; have s30 := unhide S30; have s31 := unhide S31; have s32 := unhide S32; have s33 := unhide S33; omega), (unhide K).2.2.2.1.only on (by have s0 := unhide S0; have s1 := unhide S1; have s2 := unhide S2; have s3 := unhide S3; have s4 := unhide S4; have s5 := unhide S5; have s6 := unhide S6; have s7 := unhide S7; have s8 := unhide S8; have s9 := unhide S9; have s10 := unhide S10; have s11 := unhide S11; have s12 := unhide S12; have s13 := unhide S13; have s14 := unhide S14; have s15 := unhide S15; have s16 := unhide S16; have s17 := unhide S17; have s18 := unhide S18; have s19 := unhide S19; have s20 := unhide S20; have s21 := unhide S21; have s22 := unhide S22; have s23 := unhide S23; have s24 := unhide S24; have s25 := unhide S25; have s26 := unhide S26; have s27 := unhide S27; have s28 := unhide S28; have s29 := unhide S29; have s30 := unhide S30; have s31 := unhide S31; have s32 := unhide S32; have s33 := unhide S33; omega), om, (unhide K).2.2.2.2.2.only on (by have s0 := unhide S0; have s1 := unhide S1; have s2 := unhide S2; have s3 := unhide S3; have s4 := unhide S4; have s5 := unhide S5; have s6 := unhide S6; have s7 := unhide S7; have s8 := unhide S8; have s9 := unhide S9; have s10 := unhide S10; have s11 := unhide S11; have s12 := unhide S12; have s13 := unhide S13; have s14 := unhide S14; have s15 := unhide S15; have s16 := unhide S16; have s17 := unhide S17; have s18 := unhide S18; have s19 := unhide S19; have s20 := unhide S20; have s21 := unhide S21; have s22 := unhide S22; have s23 := unhide S23; have s24 := unhide S24; have s25 := unhide S25; have s26 := unhide S26; have s27 := unhide S27; have s28 := unhide S28; have s29 := unhide S29; have s30 := unhide S30; have s31 := unhide S31; have s32 := unhide S32; have s33 := unhide S33; omega)⟩
  clear KEPT om on
  have KEPT : Hid (∀ W u3, (Below w.heap.size w W ∧ Blk W w.heap.size [.int .i64 rl, .int .i64 rn, .int .i64 rk] ∧ OwnWT W w6.heap.size (.slice (some ⟨g5, 0, none⟩) (((boR rl rn rk X Y).t).length) c6) ws7 ((boR rl rn rk X Y).t) ∧ Blk W X8 [.int .i64 rl, .int .i64 ((boR rl rn rk X Y).n), .int .i64 rk] ∧ OwnWd W w11.heap.size (.slice (some ⟨g11, 0, none⟩) (((boR rl rn rk X Y).t).length) c12) (markWx ws13 1 (((boR rl rn rk X Y).t).length)) ∧ Blk W X14 [.int .i64 rl, .int .i64 ((boR rl rn rk X Y).n), .int .i64 rk]) → Below W.heap.size W u3 → (Below w.heap.size w u3 ∧ Blk u3 w.heap.size [.int .i64 rl, .int .i64 rn, .int .i64 rk] ∧ OwnWT u3 w6.heap.size (.slice (some ⟨g5, 0, none⟩) (((boR rl rn rk X Y).t).length) c6) ws7 ((boR rl rn rk X Y).t) ∧ Blk u3 X8 [.int .i64 rl, .int .i64 ((boR rl rn rk X Y).n), .int .i64 rk] ∧ OwnWd u3 w11.heap.size (.slice (some ⟨g11, 0, none⟩) (((boR rl rn rk X Y).t).length) c12) (markWx ws13 1 (((boR rl rn rk X Y).t).length)) ∧ Blk u3 X14 [.int .i64 rl, .int .i64 ((boR rl rn rk X Y).n), .int .i64 rk])) := hide (fun W u3 h b => ⟨h.1.trans (b.mono h.1.size), h.2.1.below b, h.2.2.1.below b, h.2.2.2.1.below b, h.2.2.2.2.1.below b, h.2.2.2.2.2.below b⟩)
  have mPd0 : w24.cell? ⟨w.heap.size, 0, none⟩ = some (.int .i64 rl) := (unhide K).2.1.c 0 (by simp)
  have mPd1 : w24.cell? ⟨w.heap.size, 1, none⟩ = some (.int .i64 rn) := (unhide K).2.1.c 1 (by simp)
  have mPd2 : w24.cell? ⟨w.heap.size, 2, none⟩ = some (.int .i64 rk) := (unhide K).2.1.c 2 (by simp)
  have mQWp20 : w24.cell? ⟨X8, 0, none⟩ = some (.int .i64 rl) := (unhide K).2.2.2.1.c 0 (by simp)
  have mQWp21 : w24.cell? ⟨X8, 1, none⟩ = some (.int .i64 ((boR rl rn rk X Y).n)) := (unhide K).2.2.2.1.c 1 (by simp)
  have mQWp22 : w24.cell? ⟨X8, 2, none⟩ = some (.int .i64 rk) := (unhide K).2.2.2.1.c 2 (by simp)
  have mQGp20 : w24.cell? ⟨X14, 0, none⟩ = some (.int .i64 rl) := (unhide K).2.2.2.2.2.c 0 (by simp)
  have mQGp21 : w24.cell? ⟨X14, 1, none⟩ = some (.int .i64 ((boR rl rn rk X Y).n)) := (unhide K).2.2.2.2.2.c 1 (by simp)
  have mQGp22 : w24.cell? ⟨X14, 2, none⟩ = some (.int .i64 rk) := (unhide K).2.2.2.2.2.c 2 (by simp)
  go_wp2_with fail
  clear mPd0 mPd1 mPd2 mQWp20 mQWp21 mQWp22 mQGp20 mQGp21 mQGp22
  refine (heldWord16S_any _ _ _ _ ws13 1 _ (unhide K).2.2.2.2.1 (unhide FG0).len (by have := (unhide FG0).few; omega) (unhide FG0).d32 (unhide FG0).dn (by omega) (by omega)).mono ?_
  rintro x w25 ⟨rfl, hw⟩
  have b : Below w24.heap.size w24 w25 := by rw [hw]; exact Below.refl _ _
  clear hw
  have S34 : Hid (w24.heap.size ≤ w25.heap.size) := hide b.size
  have K : Hid (Below w.heap.size w w25 ∧ Blk w25 w.heap.size [.int .i64 rl, .int .i64 rn, .int .i64 rk] ∧ OwnWT w25 w6.heap.size (.slice (some ⟨g5, 0, none⟩) (((boR rl rn rk X Y).t).length) c6) ws7 ((boR rl rn rk X Y).t) ∧ Blk w25 X8 [.int .i64 rl, .int .i64 ((boR rl rn rk X Y).n), .int .i64 rk] ∧ OwnWd w25 w11.heap.size (.slice (some ⟨g11, 0, none⟩) (((boR rl rn rk X Y).t).length) c12) (markWx ws13 1 (((boR rl rn rk X Y).t).length)) ∧ Blk w25 X14 [.int .i64 rl, .int .i64 ((boR rl rn rk X Y).n), .int .i64 rk]) := hide ((unhide KEPT) _ _ (unhide K) b)
  clear b
  have nq25 : ¬ (kA ws13 1 (((boR rl rn rk X Y).t).length) < 0) := by omega
  have nn25 : (kA ws13 1 (((boR rl rn rk X Y).t).length) != kA ws13 1 (((boR rl rn rk X Y).t).length)) = false := by simp
  have mPd0 : w25.cell? ⟨w.heap.size, 0, none⟩ = some (.int .i64 rl) := (unhide K).2.1.c 0 (by simp)
  have mPd1 : w25.cell? ⟨w.heap.size, 1, none⟩ = some (.int .i64 rn) := (unhide K).2.1.c 1 (by simp)
  have mPd2 : w25.cell? ⟨w.heap.size, 2, none⟩ = some (.int .i64 rk) := (unhide K).2.1.c 2 (by simp)
  have mQWp20 : w25.cell? ⟨X8, 0, none⟩ = some (.int .i64 rl) := (unhide K).2.2.2.1.c 0 (by simp)
  have mQWp21 : w25.cell? ⟨X8, 1, none⟩ = some (.int .i64 ((boR rl rn rk X Y).n)) := (unhide K).2.2.2.1.c 1 (by simp)
  have mQWp22 : w25.cell? ⟨X8, 2, none⟩ = some (.int .i64 rk) := (unhide K).2.2.2.1.c 2 (by simp)
  have mQGp20 : w25.cell? ⟨X14, 0, none⟩ = some (.int .i64 rl) := (unhide K).2.2.2.2.2.c 0 (by simp)
  have mQGp21 : w25.cell? ⟨X14, 1, none⟩ = some (.int .i64 ((boR rl rn rk X Y).n)) := (unhide K).2.2.2.2.2.c 1 (by simp)
  have mQGp22 : w25.cell? ⟨X14, 2, none⟩ = some (.int .i64 rk) := (unhide K).2.2.2.2.2.c 2 (by simp)
  go_wp2_with fail
  clear mPd0 mPd1 mPd2 mQWp20 mQWp21 mQWp22 mQGp20 mQGp21 mQGp22
  refine (toReceiver_any _ _ _ _).mono ?_
  rintro x w26 ⟨rfl, b⟩
  have S35 : Hid (w25.heap.size ≤ w26.heap.size) := hide b.size
  have K : Hid (Below w.heap.size w w26 ∧ Blk w26 w.heap.size [.int .i64 rl, .int .i64 rn, .int .i64 rk] ∧ OwnWT w26 w6.heap.size (.slice (some ⟨g5, 0, none⟩) (((boR rl rn rk X Y).t).length) c6) ws7 ((boR rl rn rk X Y).t) ∧ Blk w26 X8 [.int .i64 rl, .int .i64 ((boR rl rn rk X Y).n), .int .i64 rk] ∧ OwnWd w26 w11.heap.size (.slice (some ⟨g11, 0, none⟩) (((boR rl rn rk X Y).t).length) c12) (markWx ws13 1 (((boR rl rn rk X Y).t).length)) ∧ Blk w26 X14 [.int .i64 rl, .int .i64 ((boR rl rn rk X Y).n), .int .i64 rk]) := hide ((unhide KEPT) _ _ (unhide K) b)
  clear b
  have mPd0 : w26.cell? ⟨w.heap.size, 0, none⟩ = some (.int .i64 rl) := (unhide K).2.1.c 0 (by simp)
  have mPd1 : w26.cell? ⟨w.heap.size, 1, none⟩ = some (.int .i64 rn) := (unhide K).2.1.c 1 (by simp)
  have mPd2 : w26.cell? ⟨w.heap.size, 2, none⟩ = some (.int .i64 rk) := (unhide K).2.1.c 2 (by simp)
  have mQWp20 : w26.cell? ⟨X8, 0, none⟩ = some (.int .i64 rl) := (unhide K).2.2.2.1.c 0 (by simp)
  have mQWp21 : w26.cell? ⟨X8, 1, none⟩ = some (.int .i64 ((boR rl rn rk X Y).n)) := (unhide K).2.2.2.1.c 1 (by simp)
  have mQWp22 : w26.cell? ⟨X8, 2, none⟩ = some (.int .i64 rk) := (unhide K).2.2.2.1.c 2 (by simp)
  have mQGp20 : w26.cell? ⟨X14, 0, none⟩ = some (.int .i64 rl) := (unhide K).2.2.2.2.2.c 0 (by simp)
  have mQGp21 : w26.cell? ⟨X14, 1, none⟩ = some (.int .i64 ((boR rl rn rk X Y).n)) := (unhide K).2.2.2.2.2.c 1 (by simp)
  have mQGp22 : w26.cell? ⟨X14, 2, none⟩ = some (.int .i64 rk) := (unhide K).2.2.2.2.2.c 2 (by simp)
  go_wp2_with fail
  clear mPd0 mPd1 mPd2 mQWp20 mQWp21 mQWp22 mQGp20 mQGp21 mQGp22
  obtain ⟨g17, hg17⟩ : ∃ G, w26.heap.size = G := ⟨_, rfl⟩
  refine (toByteSS_own _ _ _ _ _ ((unhide Rp).below (unhide K).1) hp1 (unhide HAp)).mono ?_
  rintro x w27 ⟨rfl, oc, b⟩
  rw [hg17] at oc ⊢
  have Bg17 := hide hg17
  clear hg17
  have S36 : Hid (w26.heap.size = g17) := hide (unhide Bg17)
  have S37 : Hid (w26.heap.size ≤ w27.heap.size) := hide b.size
  have K : Hid (Below w.heap.size w w27 ∧ Blk w27 w.heap.size [.int .i64 rl, .int .i64 rn, .int .i64 rk] ∧ OwnWT w27 w6.heap.size (.slice (some ⟨g5, 0, none⟩) (((boR rl rn rk X Y).t).length) c6) ws7 ((boR rl rn rk X Y).t) ∧ Blk w27 X8 [.int .i64 rl, .int .i64 ((boR rl rn rk X Y).n), .int .i64 rk] ∧ OwnWd w27 w11.heap.size (.slice (some ⟨g11, 0, none⟩) (((boR rl rn rk X Y).t).length) c12) (markWx ws13 1 (((boR rl rn rk X Y).t).length)) ∧ Blk w27 X14 [.int .i64 rl, .int .i64 ((boR rl rn rk X Y).n), .int .i64 rk]) := hide ((unhide KEPT) _ _ (unhide K) b)
  have K : Hid (Below w.heap.size w w27 ∧ Blk w27 w.heap.size [.int .i64 rl, .int .i64 rn, .int .i64 rk] ∧ OwnWT w27 w6.heap.size (.slice (some ⟨g5, 0, none⟩) (((boR rl rn rk X Y).t).length) c6) ws7 ((boR rl rn rk X Y).t) ∧ Blk w27 X8 [.int .i64 rl, .int .i64 ((boR rl rn rk X Y).n), .int .i64 rk] ∧ OwnWd w27 w11.heap.size (.slice (some ⟨g11, 0, none⟩) (((boR rl rn rk X Y).t).length) c12) (markWx ws13 1 (((boR rl rn rk X Y).t).length)) ∧ Blk w27 X14 [.int .i64 rl, .int .i64 ((boR rl rn rk X Y).n), .int .i64 rk] ∧ OwnSB w27 g17 w27.heap.size pl1 X) := hide ⟨(unhide K).1, (unhide K).2.1, (unhide K).2.2.1, (unhide K).2.2.2.1, (unhide K).2.2.2.2.1, (unhide K).2.2.2.2.2, oc⟩
  clear KEPT oc b
  have KEPT : Hid (∀ W u3, (Below w.heap.size w W ∧ Blk W w.heap.size [.int .i64 rl, .int .i64 rn, .int .i64 rk] ∧ OwnWT W w6.heap.size (.slice (some ⟨g5, 0, none⟩) (((boR rl rn rk X Y).t).length) c6) ws7 ((boR rl rn rk X Y).t) ∧ Blk W X8 [.int .i64 rl, .int .i64 ((boR rl rn rk X Y).n), .int .i64 rk] ∧ OwnWd W w11.heap.size (.slice (some ⟨g11, 0, none⟩) (((boR rl rn rk X Y).t).length) c12) (markWx ws13 1 (((boR rl rn rk X Y).t).length)) ∧ Blk W X14 [.int .i64 rl, .int .i64 ((boR rl rn rk X Y).n), .int .i64 rk] ∧ OwnSB W g17 w27.heap.size pl1 X) → Below W.heap.size W u3 → (Below w.heap.size w u3 ∧ Blk u3 w.heap.size [.int .i64 rl, .int .i64 rn, .int .i64 rk] ∧ OwnWT u3 w6.heap.size (.slice (some ⟨g5, 0, none⟩) (((boR rl rn rk X Y).t).length) c6) ws7 ((boR rl rn rk X Y).t) ∧ Blk u3 X8 [.int .i64 rl, .int .i64 ((boR rl rn rk X Y).n), .int .i64 rk] ∧ OwnWd u3 w11.heap.size (.slice (some ⟨g11, 0, none⟩) (((boR rl rn rk X Y).t).length) c12) (markWx ws13 1 (((boR rl rn rk X Y).t).length)) ∧ Blk u3 X14 [.int .i64 rl, .int .i64 ((boR rl rn rk X Y).n), .int .i64 rk] ∧ OwnSB u3 g17 w27.heap.size pl1 X)) := hide (fun W u3 h b => ⟨h.1.trans (b.mono h.1.size), h.2.1.below b, h.2.2.1.below b, h.2.2.2.1.below b, h.2.2.2.2.1.below b, h.2.2.2.2.2.1.below b, h.2.2.2.2.2.2.below b⟩)
  have mPd0 : w27.cell? ⟨w.heap.size, 0, none⟩ = some (.int .i64 rl) := (unhide K).2.1.c 0 (by simp)
  have mPd1 : w27.cell? ⟨w.heap.size, 1, none⟩ = some (.int .i64 rn) := (unhide K).2.1.c 1 (by simp)
  have mPd2 : w27.cell? ⟨w.heap.size, 2, none⟩ = some (.int .i64 rk) := (unhide K).2.1.c 2 (by simp)
  have mQWp20 : w27.cell? ⟨X8, 0, none⟩ = some (.int .i64 rl) := (unhide K).2.2.2.1.c 0 (by simp)
  have mQWp21 : w27.cell? ⟨X8, 1, none⟩ = some (.int .i64 ((boR rl rn rk X Y).n)) := (unhide K).2.2.2.1.c 1 (by simp)
  have mQWp22 : w27.cell? ⟨X8, 2, none⟩ = some (.int .i64 rk) := (unhide K).2.2.2.1.c 2 (by simp)
  have mQGp20 : w27.cell? ⟨X14, 0, none⟩ = some (.int .i64 rl) := (unhide K).2.2.2.2.2.1.c 0 (by simp)
  have mQGp21 : w27.cell? ⟨X14, 1, none⟩ = some (.int .i64 ((boR rl rn rk X Y).n)) := (unhide K).2.2.2.2.2.1.c 1 (by simp)
  have mQGp22 : w27.cell? ⟨X14, 2, none⟩ = some (.int .i64 rk) := (unhide K).2.2.2.2.2.1.c 2 (by simp)
  go_wp2_with fail
  clear mPd0 mPd1 mPd2 mQWp20 mQWp21 mQWp22 mQGp20 mQGp21 mQGp22
  obtain ⟨g18, hg18⟩ : ∃ G, w27.heap.size = G := ⟨_, rfl⟩
  refine (toByteSS_own _ _ _ _ _ ((unhide Rs).below (unhide K).1) hs1 (unhide HAs)).mono ?_
  rintro x w28 ⟨rfl, oc, b⟩
  rw [hg18] at oc ⊢
  have Bg18 := hide hg18
  clear hg18
  have S38 : Hid (w27.heap.size = g18) := hide (unhide Bg18)
  have S39 : Hid (w27.heap.size ≤ w28.heap.size) := hide b.size
  have K : Hid (Below w.heap.size w w28 ∧ Blk w28 w.heap.size [.int .i64 rl, .int .i64 rn, .int .i64 rk] ∧ OwnWT w28 w6.heap.size (.slice (some ⟨g5, 0, none⟩) (((boR rl rn rk X Y).t).length) c6) ws7 ((boR rl rn rk X Y).t) ∧ Blk w28 X8 [.int .i64 rl, .int .i64 ((boR rl rn rk X Y).n), .int .i64 rk] ∧ OwnWd w28 w11.heap.size (.slice (some ⟨g11, 0, none⟩) (((boR rl rn rk X Y).t).length) c12) (markWx ws13 1 (((boR rl rn rk X Y).t).length)) ∧ Blk w28 X14 [.int .i64 rl, .int .i64 ((boR rl rn rk X Y).n), .int .i64 rk] ∧ OwnSB w28 g17 w27.heap.size pl1 X) := hide ((unhide KEPT) _ _ (unhide K) b)
  have K : Hid (Below w.heap.size w w28 ∧ Blk w28 w.heap.size [.int .i64 rl, .int .i64 rn, .int .i64 rk] ∧ OwnWT w28 w6.heap.size (.slice (some ⟨g5, 0, none⟩) (((boR rl rn rk X Y).t).length) c6) ws7 ((boR rl rn rk X Y).t) ∧ Blk w28 X8 [.int .i64 rl, .int .i64 ((boR rl rn rk X Y).n), .int .i64 rk] ∧ OwnWd w28 w11.heap.size (.slice (some ⟨g11, 0, none⟩) (((boR rl rn rk X Y).t).length) c12) (markWx ws13 1 (((boR rl rn rk X Y).t).length)) ∧ Blk w28 X14 [.int .i64 rl, .int .i64 ((boR rl rn rk X Y).n), .int .i64 rk] ∧ OwnSB w28 g17 w27.heap.size pl1 X ∧ OwnSB w28 g18 w28.heap.size sl1 Y) := hide ⟨(unhide K).1, (unhide K).2.1, (unhide K).2.2.1, (unhide K).2.2.2.1, (unhide K).2.2.2.2.1, (unhide K).2.2.2.2.2.1, (unhide K).2.2.2.2.2.2, oc⟩
  clear KEPT oc b
  have KEPT : Hid (∀ W u3, (Below w.heap.size w W ∧ Blk W w.heap.size [.int .i64 rl, .int .i64 rn, .int .i64 rk] ∧ OwnWT W w6.heap.size (.slice (some ⟨g5, 0, none⟩) (((boR rl rn rk X Y).t).length) c6) ws7 ((boR rl rn rk X Y).t) ∧ Blk W X8 [.int .i64 rl, .int .i64 ((boR rl rn rk X Y).n), .int .i64 rk] ∧ OwnWd W w11.heap.size (.slice (some ⟨g11, 0, none⟩) (((boR rl rn rk X Y).t).length) c12) (markWx ws13 1 (((boR rl rn rk X Y).t).length)) ∧ Blk W X14 [.int .i64 rl, .int .i64 ((boR rl rn rk X Y).n), .int .i64 rk] ∧ OwnSB W g17 w27.heap.size pl1 X ∧ OwnSB W g18 w28.heap.size sl1 Y) → Below W.heap.size W u3 → (Below w.heap.size w u3 ∧ Blk u3 w.heap.size [.int .i64 rl, .int .i64 rn, .int .i64 rk] ∧ OwnWT u3 w6.heap.size (.slice (some ⟨g5, 0, none⟩) (((boR rl rn rk X Y).t).length) c6) ws7 ((boR rl rn rk X Y).t) ∧ Blk u3 X8 [.int .i64 rl, .int .i64 ((boR rl rn rk X Y).n), .int .i64 rk] ∧ OwnWd u3 w11.heap.size (.slice (some ⟨g11, 0, none⟩) (((boR rl rn rk X Y).t).length) c12) (markWx ws13 1 (((boR rl rn rk X Y).t).length)) ∧ Blk u3 X14 [.int .i64 rl, .int .i64 ((boR rl rn rk X Y).n), .int .i64 rk] ∧ OwnSB u3 g17 w27.heap.size pl1 X ∧ OwnSB u3 g18 w28.heap.size sl1 Y)) := hide (fun W u3 h b => ⟨h.1.trans (b.mono h.1.size), h.2.1.below b, h.2.2.1.below b, h.2.2.2.1.below b, h.2.2.2.2.1.below b, h.2.2.2.2.2.1.below b, h.2.2.2.2.2.2.1.below b, h.2.2.2.2.2.2.2.below b⟩)
  have mPd0 : w28.cell? ⟨w.heap.size, 0, none⟩ = some (.int .i64 rl) := (unhide K).2.1.c 0 (by simp)
  have mPd1 : w28.cell? ⟨w.heap.size, 1, none⟩ = some (.int .i64 rn) := (unhide K).2.1.c 1 (by simp)
  have mPd2 : w28.cell? ⟨w.heap.size, 2, none⟩ = some (.int .i64 rk) := (unhide K).2.1.c 2 (by simp)
  have mQWp20 : w28.cell? ⟨X8, 0, none⟩ = some (.int .i64 rl) := (unhide K).2.2.2.1.c 0 (by simp)
  have mQWp21 : w28.cell? ⟨X8, 1, none⟩ = some (.int .i64 ((boR rl rn rk X Y).n)) := (unhide K).2.2.2.1.c 1 (by simp)
  have mQWp22 : w28.cell? ⟨X8, 2, none⟩ = some (.int .i64 rk) := (unhide K).2.2.2.1.c 2 (by simp)
  have mQGp20 : w28.cell? ⟨X14, 0, none⟩ = some (.int .i64 rl) := (unhide K).2.2.2.2.2.1.c 0 (by simp)
  have mQGp21 : w28.cell? ⟨X14, 1, none⟩ = some (.int .i64 ((boR rl rn rk X Y).n)) := (unhide K).2.2.2.2.2.1.c 1 (by simp)
  have mQGp22 : w28.cell? ⟨X14, 2, none⟩ = some (.int .i64 rk) := (unhide K).2.2.2.2.2.1.c 2 (by simp)
  go_wp2_with fail
  clear mPd0 mPd1 mPd2 mQWp20 mQWp21 mQWp22 mQGp20 mQGp21 mQGp22
  refine (implBoth16_any _ _ _ _ _ _ _ _ _ _ _ _ (unhide K).2.2.2.2.2.2.1.row (unhide K).2.2.2.2.2.2.2.row (unhide HBP) (unhide HBS)).mono ?_
  rintro x w29 ⟨g19, c20, ws21, rfl, oH_0, b⟩
  have LH0 : Hid (WxLies w28.heap.size w29.heap.size (.slice (some ⟨g19, 0, none⟩) (((boR rl rn rk X Y).t).length) c20) ws21) := hide oH_0.lies
  have FH0 := hide (oH_0.fit (boR_len _ _ _ _ _) (boR_dat _ _ _ _ _))
  have S40 : Hid (w28.heap.size ≤ w29.heap.size) := hide b.size
  have K : Hid (Below w.heap.size w w29 ∧ Blk w29 w.heap.size [.int .i64 rl, .int .i64 rn, .int .i64 rk] ∧ OwnWT w29 w6.heap.size (.slice (some ⟨g5, 0, none⟩) (((boR rl rn rk X Y).t).length) c6) ws7 ((boR rl rn rk X Y).t) ∧ Blk w29 X8 [.int .i64 rl, .int .i64 ((boR rl rn rk X Y).n), .int .i64 rk] ∧ OwnWd w29 w11.heap.size (.slice (some ⟨g11, 0, none⟩) (((boR rl rn rk X Y).t).length) c12) (markWx ws13 1 (((boR rl rn rk X Y).t).length)) ∧ Blk w29 X14 [.int .i64 rl, .int .i64 ((boR rl rn rk X Y).n), .int .i64 rk] ∧ OwnSB w29 g17 w27.heap.size pl1 X ∧ OwnSB w29 g18 w28.heap.size sl1 Y) := hide ((unhide KEPT) _ _ (unhide K) b)
  have K : Hid (Below w.heap.size w w29 ∧ Blk w29 w.heap.size [.int .i64 rl, .int .i64 rn, .int .i64 rk] ∧ OwnWT w29 w6.heap.size (.slice (some ⟨g5, 0, none⟩) (((boR rl rn rk X Y).t).length) c6) ws7 ((boR rl rn rk X Y).t) ∧ Blk w29 X8 [.int .i64 rl, .int .i64 ((boR rl rn rk X Y).n), .int .i64 rk] ∧ OwnWd w29 w11.heap.size (.slice (some ⟨g11, 0, none⟩) (((boR rl rn rk X Y).t).length) c12) (markWx ws13 1 (((boR rl rn rk X Y).t).length)) ∧ Blk w29 X14 [.int .i64 rl, .int .i64 ((boR rl rn rk X Y).n), .int .i64 rk] ∧ OwnSB w29 g17 w27.heap.size pl1 X ∧ OwnSB w29 g18 w28.heap.size sl1 Y ∧ OwnWT w29 w28.heap.size (.slice (some ⟨g19, 0, none⟩) (((boR rl rn rk X Y).t).length) c20) ws21 ((boR rl rn rk X Y).t)) := hide ⟨(unhide K).1, (unhide K).2.1, (unhide K).2.2.1, (unhide K).2.2.2.1, (unhide K).2.2.2.2.1, (unhide K).2.2.2.2.2.1, (unhide K).2.2.2.2.2.2.1, (unhide K).2.2.2.2.2.2.2, oH_0⟩
  clear KEPT
  have KEPT : Hid (∀ W u3, (Below w.heap.size w W ∧ Blk W w.heap.size [.int .i64 rl, .int .i64 rn, .int .i64 rk] ∧ OwnWT W w6.heap.size (.slice (some ⟨g5, 0, none⟩) (((boR rl rn rk X Y).t).length) c6) ws7 ((boR rl rn rk X Y).t) ∧ Blk W X8 [.int .i64 rl, .int .i64 ((boR rl rn rk X Y).n), .int .i64 rk] ∧ OwnWd W w11.heap.size (.slice (some ⟨g11, 0, none⟩) (((boR rl rn rk X Y).t).length) c12) (markWx ws13 1 (((boR rl rn rk X Y).t).length)) ∧ Blk W X14 [.int .i64 rl, .int .i64 ((boR rl rn rk X Y).n), .int .i64 rk] ∧ OwnSB W g17 w27.heap.size pl1 X ∧ OwnSB W g18 w28.heap.size sl1 Y ∧ OwnWT W w28.heap.size (.slice (some ⟨g19, 0, none⟩) (((boR rl rn rk X Y).t).length) c20) ws21 ((boR rl rn rk X Y).t)) → Below W.heap.size W u3 → (Below w.heap.size w u3 ∧ Blk u3 w.heap.size [.int .i64 rl, .int .i64 rn, .int .i64 rk] ∧ OwnWT u3 w6.heap.size (.slice (some ⟨g5, 0, none⟩) (((boR rl rn rk X Y).t).length) c6) ws7 ((boR rl rn rk X Y).t) ∧ Blk u3 X8 [.int .i64 rl, .int .i64 ((boR rl rn rk X Y).n), .int .i64 rk] ∧ OwnWd u3 w11.heap.size (.slice (some ⟨g11, 0, none⟩) (((boR rl rn rk X Y).t).length) c12) (markWx ws13 1 (((boR rl rn rk X Y).t).length)) ∧ Blk u3 X14 [.int .i64 rl, .int .i64 ((boR rl rn rk X Y).n), .int .i64 rk] ∧ OwnSB u3 g17 w27.heap.size pl1 X ∧ OwnSB u3 g18 w28.heap.size sl1 Y ∧ OwnWT u3 w28.heap.size (.slice (some ⟨g19, 0, none⟩) (((boR rl rn rk X Y).t).length) c20) ws21 ((boR rl rn rk X Y).t))) := hide (fun W u3 h b => ⟨h.1.trans (b.mono h.1.size), h.2.1.below b, h.2.2.1.below b, h.2.2.2.1.below b, h.2.2.2.2.1.below b, h.2.2.2.2.2.1.below b, h.2.2.2.2.2.2.1.below b, h.2.2.2.2.2.2.2.1.below b, h.2.2.2.2.2.2.2.2.below b⟩)
  clear oH_0
  clear b
  have K : Hid (Below w.heap.size w w29 ∧ Blk w29 w.heap.size [.int .i64 rl, .int .i64 rn, .int .i64 rk] ∧ OwnWT w29 w6.heap.size (.slice (some ⟨g5, 0, none⟩) (((boR rl rn rk X Y).t).length) c6) ws7 ((boR rl rn rk X Y).t) ∧ Blk w29 X8 [.int .i64 rl, .int .i64 ((boR rl rn rk X Y).n), .int .i64 rk] ∧ OwnWd w29 w11.heap.size (.slice (some ⟨g11, 0, none⟩) (((boR rl rn rk X Y).t).length) c12) (markWx ws13 1 (((boR rl rn rk X Y).t).length)) ∧ Blk w29 X14 [.int .i64 rl, .int .i64 ((boR rl rn rk X Y).n), .int .i64 rk] ∧ OwnWT w29 w28.heap.size (.slice (some ⟨g19, 0, none⟩) (((boR rl rn rk X Y).t).length) c20) ws21 ((boR rl rn rk X Y).t)) := hide ⟨(unhide K).1, (unhide K).2.1, (unhide K).2.2.1, (unhide K).2.2.2.1, (unhide K).2.2.2.2.1, (unhide K).2.2.2.2.2.1, (unhide K).2.2.2.2.2.2.2.2⟩
  clear KEPT
  have KEPT : Hid (∀ W u3, (Below w.heap.size w W ∧ Blk W w.heap.size [.int .i64 rl, .int .i64 rn, .int .i64 rk] ∧ OwnWT W w6.heap.size (.slice (some ⟨g5, 0, none⟩) (((boR rl rn rk X Y).t).length) c6) ws7 ((boR rl rn rk X Y).t) ∧ Blk W X8 [.int .i64 rl, .int .i64 ((boR rl rn rk X Y).n), .int .i64 rk] ∧ OwnWd W w11.heap.size (.slice (some ⟨g11, 0, none⟩) (((boR rl rn rk X Y).t).length) c12) (markWx ws13 1 (((boR rl rn rk X Y).t).length)) ∧ Blk W X14 [.int .i64 rl, .int .i64 ((boR rl rn rk X Y).n), .int .i64 rk] ∧ OwnWT W w28.heap.size (.slice (some ⟨g19, 0, none⟩) (((boR rl rn rk X Y).t).length) c20) ws21 ((boR rl rn rk X Y).t)) → Below W.heap.size W u3 → (Below w.heap.size w u3 ∧ Blk u3 w.heap.size [.int .i64 rl, .int .i64 rn, .int .i64 rk] ∧ OwnWT u3 w6.heap.size (.slice (some ⟨g5, 0, none⟩) (((boR rl rn rk X Y).t).length) c6) ws7 ((boR rl rn rk X Y).t) ∧ Blk u3 X8 [.int .i64 rl, .int .i64 ((boR rl rn rk X Y).n), .int .i64 rk] ∧ OwnWd u3 w11.heap.size (.slice (some ⟨g11, 0, none⟩) (((boR rl rn rk X Y).t).length) c12) (markWx ws13 1 (((boR rl rn rk X Y).t).length)) ∧ Blk u3 X14 [.int .i64 rl, .int .i64 ((boR rl rn rk X Y).n), .int .i64 rk] ∧ OwnWT u3 w28.heap.size (.slice (some ⟨g19, 0, none⟩) (((boR rl rn rk X Y).t).length) c20) ws21 ((boR rl rn rk X Y).t))) := hide (fun W u3 h b => ⟨h.1.trans (b.mono h.1.size), h.2.1.below b, h.2.2.1.below b, h.2.2.2.1.below b, h.2.2.2.2.1.below b, h.2.2.2.2.2.1.below b, h.2.2.2.2.2.2.below b⟩)
  obtain ⟨w30, hw30⟩ : ∃ V, V = w29.alloc (Obj.cells #[.int .i64 rl, .int .i64 ((boR rl rn rk X Y).n), .int .i64 rk] 43) := ⟨_, rfl⟩
  have b : Below w29.heap.size w29 w30 := by rw [hw30]; exact bel1 _
  have kx : Blk w30 w29.heap.size [.int .i64 rl, .int .i64 ((boR rl rn rk X Y).n), .int .i64 rk] := by rw [hw30]; exact Blk.new _ _
  have S41 : Hid (w29.heap.size + 1 ≤ w30.heap.size) := hide (by rw [hw30]; simp)
  have S42 : Hid (w29.heap.size ≤ w30.heap.size) := hide b.size
  have K : Hid (Below w.heap.size w w30 ∧ Blk w30 w.heap.size [.int .i64 rl, .int .i64 rn, .int .i64 rk] ∧ OwnWT w30 w6.heap.size (.slice (some ⟨g5, 0, none⟩) (((boR rl rn rk X Y).t).length) c6) ws7 ((boR rl rn rk X Y).t) ∧ Blk w30 X8 [.int .i64 rl, .int .i64 ((boR rl rn rk X Y).n), .int .i64 rk] ∧ OwnWd w30 w11.heap.size (.slice (some ⟨g11, 0, none⟩) (((boR rl rn rk X Y).t).length) c12) (markWx ws13 1 (((boR rl rn rk X Y).t).length)) ∧ Blk w30 X14 [.int .i64 rl, .int .i64 ((boR rl rn rk X Y).n), .int .i64 rk] ∧ OwnWT w30 w28.heap.size (.slice (some ⟨g19, 0, none⟩) (((boR rl rn rk X Y).t).length) c20) ws21 ((boR rl rn rk X Y).t)) := hide ((unhide KEPT) _ _ (unhide K) b)
  have mPd0 : w30.cell? ⟨w.heap.size, 0, none⟩ = some (.int .i64 rl) := (unhide K).2.1.c 0 (by simp)
  have mPd1 : w30.cell? ⟨w.heap.size, 1, none⟩ = some (.int .i64 rn) := (unhide K).2.1.c 1 (by simp)
  have mPd2 : w30.cell? ⟨w.heap.size, 2, none⟩ = some (.int .i64 rk) := (unhide K).2.1.c 2 (by simp)
  have mQWp20 : w30.cell? ⟨X8, 0, none⟩ = some (.int .i64 rl) := (unhide K).2.2.2.1.c 0 (by simp)
  have mQWp21 : w30.cell? ⟨X8, 1, none⟩ = some (.int .i64 ((boR rl rn rk X Y).n)) := (unhide K).2.2.2.1.c 1 (by simp)
  have mQWp22 : w30.cell? ⟨X8, 2, none⟩ = some (.int .i64 rk) := (unhide K).2.2.2.1.c 2 (by simp)
  have mQGp20 : w30.cell? ⟨X14, 0, none⟩ = some (.int .i64 rl) := (unhide K).2.2.2.2.2.1.c 0 (by simp)
  have mQGp21 : w30.cell? ⟨X14, 1, none⟩ = some (.int .i64 ((boR rl rn rk X Y).n)) := (unhide K).2.2.2.2.2.1.c 1 (by simp)
  have mQGp22 : w30.cell? ⟨X14, 2, none⟩ = some (.int .i64 rk) := (unhide K).2.2.2.2.2.1.c 2 (by simp)
  rw [hw30] at mPd0 mPd1 mPd2 mQWp20 mQWp21 mQWp22 mQGp20 mQGp21 mQGp22
  obtain ⟨X22, hX22⟩ : ∃ X, w29.heap.size = X := ⟨_, rfl⟩
  rw [hX22] at kx
  have S43 : Hid (w29.heap.size = X22) := hide hX22
  have K : Hid (Below w.heap.size w w30 ∧ Blk w30 w.heap.size [.int .i64 rl, .int .i64 rn, .int .i64 rk] ∧ OwnWT w30 w6.heap.size (.slice (some ⟨g5, 0, none⟩) (((boR rl rn rk X Y).t).length) c6) ws7 ((boR rl rn rk X Y).t) ∧ Blk w30 X8 [.int .i64 rl, .int .i64 ((boR rl rn rk X Y).n), .int .i64 rk] ∧ OwnWd w30 w11.heap.size (.slice (some ⟨g11, 0, none⟩) (((boR rl rn rk X Y).t).length) c12) (markWx ws13 1 (((boR rl rn rk X Y).t).length)) ∧ Blk w30 X14 [.int .i64 rl, .int .i64 ((boR rl rn rk X Y).n), .int .i64 rk] ∧ OwnWT w30 w28.heap.size (.slice (some ⟨g19, 0, none⟩) (((boR rl rn rk X Y).t).length) c20) ws21 ((boR rl rn rk X Y).t) ∧ Blk w30 X22 [.int .i64 rl, .int .i64 ((boR rl rn rk X Y).n), .int .i64 rk]) := hide ⟨(unhide K).1, (unhide K).2.1, (unhide K).2.2.1, (unhide K).2.2.2.1, (unhide K).2.2.2.2.1, (unhide K).2.2.2.2.2.1, (unhide K).2.2.2.2.2.2, kx⟩
  clear KEPT b kx
  have KEPT : Hid (∀ W u3, (Below w.heap.size w W ∧ Blk W w.heap.size [.int .i64 rl, .int .i64 rn, .int .i64 rk] ∧ OwnWT W w6.heap.size (.slice (some ⟨g5, 0, none⟩) (((boR rl rn rk X Y).t).length) c6) ws7 ((boR rl rn rk X Y).t) ∧ Blk W X8 [.int .i64 rl, .int .i64 ((boR rl rn rk X Y).n), .int .i64 rk] ∧ OwnWd W w11.heap.size (.slice (some ⟨g11, 0, none⟩) (((boR rl rn rk X Y).t).length) c12) (markWx ws13 1 (((boR rl rn rk X Y).t).length)) ∧ Blk W X14 [.int .i64 rl, .int .i64 ((boR rl rn rk X Y).n), .int .i64 rk] ∧ OwnWT W w28.heap.size (.slice (some ⟨g19, 0, none⟩) (((boR rl rn rk X Y).t).length) c20) ws21 ((boR rl rn rk X Y).t) ∧ Blk W X22 [.int .i64 rl, .int .i64 ((boR rl rn rk X Y).n), .int .i64 rk]) → Below W.heap.size W u3 → (Below w.heap.size w u3 ∧ Blk u3 w.heap.size [.int .i64 rl, .int .i64 rn, .int .i64 rk] ∧ OwnWT u3 w6.heap.size (.slice (some ⟨g5, 0, none⟩) (((boR rl rn rk X Y).t).length) c6) ws7 ((boR rl rn rk X Y).t) ∧ Blk u3 X8 [.int .i64 rl, .int .i64 ((boR rl rn rk X Y).n), .int .i64 rk] ∧ OwnWd u3 w11.heap.size (.slice (some ⟨g11, 0, none⟩) (((boR rl rn rk X Y).t).length) c12) (markWx ws13 1 (((boR rl rn rk X Y).t).length)) ∧ Blk u3 X14 [.int .i64 rl, .int .i64 ((boR rl rn rk X Y).n), .int .i64 rk] ∧ OwnWT u3 w28.heap.size (.slice (some ⟨g19, 0, none⟩) (((boR rl rn rk X Y).t).length) c20) ws21 ((boR rl rn rk X Y).t) ∧ Blk u3 X22 [.int .i64 rl, .int .i64 ((boR rl rn rk X Y).n), .int .i64 rk])) := hide (fun W u3 h b => ⟨h.1.trans (b.mono h.1.size), h.2.1.below b, h.2.2.1.below b, h.2.2.2.1.below b, h.2.2.2.2.1.below b, h.2.2.2.2.2.1.below b, h.2.2.2.2.2.2.1.below b, h.2.2.2.2.2.2.2.below b⟩)
  have Hw30 := hide hw30
  have HX22 := hide hX22
  clear hw30 hX22
  go_wp2_with fail
  try rw [← unhide Hw30]
  try rw [unhide HX22]
  clear Hw30 HX22 mPd0 mPd1 mPd2 mQWp20 mQWp21 mQWp22 mQGp20 mQGp21 mQGp22
  refine (eqWord16S_same _ _ _ _ _ _ _ _ _ (unhide K).2.2.2.2.2.2.1.o.read (unhide K).2.2.1.o.read ((unhide K).2.2.2.2.2.2.1.con.trans (unhide K).2.2.1.con.symm)).mono ?_
  rintro x w31 ⟨rfl, b⟩
  have S44 : Hid (w30.heap.size ≤ w31.heap.size) := hide b.size
  have K : Hid (Below w.heap.size w w31 ∧ Blk w31 w.heap.size [.int .i64 rl, .int .i64 rn, .int .i64 rk] ∧ OwnWT w31 w6.heap.size (.slice (some ⟨g5, 0, none⟩) (((boR rl rn rk X Y).t).length) c6) ws7 ((boR rl rn rk X Y).t) ∧ Blk w31 X8 [.int .i64 rl, .int .i64 ((boR rl rn rk X Y).n), .int .i64 rk] ∧ OwnWd w31 w11.heap.size (.slice (some ⟨g11, 0, none⟩) (((boR rl rn rk X Y).t).length) c12) (markWx ws13 1 (((boR rl rn rk X Y).t).length)) ∧ Blk w31 X14 [.int .i64 rl, .int .i64 ((boR rl rn rk X Y).n), .int .i64 rk] ∧ OwnWT w31 w28.heap.size (.slice (some ⟨g19, 0, none⟩) (((boR rl rn rk X Y).t).length) c20) ws21 ((boR rl rn rk X Y).t) ∧ Blk w31 X22 [.int .i64 rl, .int .i64 ((boR rl rn rk X Y).n), .int .i64 rk]) := hide ((unhide KEPT) _ _ (unhide K) b)
  clear b
  have mPd0 : w31.cell? ⟨w.heap.size, 0, none⟩ = some (.int .i64 rl) := (unhide K).2.1.c 0 (by simp)
  have mPd1 : w31.cell? ⟨w.heap.size, 1, none⟩ = some (.int .i64 rn) := (unhide K).2.1.c 1 (by simp)
  have mPd2 : w31.cell? ⟨w.heap.size, 2, none⟩ = some (.int .i64 rk) := (unhide K).2.1.c 2 (by simp)
  have mQWp20 : w31.cell? ⟨X8, 0, none⟩ = some (.int .i64 rl) := (unhide K).2.2.2.1.c 0 (by simp)
  have mQWp21 : w31.cell? ⟨X8, 1, none⟩ = some (.int .i64 ((boR rl rn rk X Y).n)) := (unhide K).2.2.2.1.c 1 (by simp)
  have mQWp22 : w31.cell? ⟨X8, 2, none⟩ = some (.int .i64 rk) := (unhide K).2.2.2.1.c 2 (by simp)
  have mQGp20 : w31.cell? ⟨X14, 0, none⟩ = some (.int .i64 rl) := (unhide K).2.2.2.2.2.1.c 0 (by simp)
  have mQGp21 : w31.cell? ⟨X14, 1, none⟩ = some (.int .i64 ((boR rl rn rk X Y).n)) := (unhide K).2.2.2.2.2.1.c 1 (by simp)
  have mQGp22 : w31.cell? ⟨X14, 2, none⟩ = some (.int .i64 rk) := (unhide K).2.2.2.2.2.1.c 2 (by simp)
  have mQHp20 : w31.cell? ⟨X22, 0, none⟩ = some (.int .i64 rl) := (unhide K).2.2.2.2.2.2.2.c 0 (by simp)
  have mQHp21 : w31.cell? ⟨X22, 1, none⟩ = some (.int .i64 ((boR rl rn rk X Y).n)) := (unhide K).2.2.2.2.2.2.2.c 1 (by simp)
  have mQHp22 : w31.cell? ⟨X22, 2, none⟩ = some (.int .i64 rk) := (unhide K).2.2.2.2.2.2.2.c 2 (by simp)
  go_wp2_with fail
  clear mPd0 mPd1 mPd2 mQWp20 mQWp21 mQWp22 mQGp20 mQGp21 mQGp22 mQHp20 mQHp21 mQHp22
  refine (eqReceiver_alike _ _ _ _ _ _ _ (rvAlike_refl _)).mono ?_
  rintro x w32 ⟨rfl, b⟩
  have S45 : Hid (w31.heap.size ≤ w32.heap.size) := hide b.size
  have K : Hid (Below w.heap.size w w32 ∧ Blk w32 w.heap.size [.int .i64 rl, .int .i64 rn, .int .i64 rk] ∧ OwnWT w32 w6.heap.size (.slice (some ⟨g5, 0, none⟩) (((boR rl rn rk X Y).t).length) c6) ws7 ((boR rl rn rk X Y).t) ∧ Blk w32 X8 [.int .i64 rl, .int .i64 ((boR rl rn rk X Y).n), .int .i64 rk] ∧ OwnWd w32 w11.heap.size (.slice (some ⟨g11, 0, none⟩) (((boR rl rn rk X Y).t).length) c12) (markWx ws13 1 (((boR rl rn rk X Y).t).length)) ∧ Blk w32 X14 [.int .i64 rl, .int .i64 ((boR rl rn rk X Y).n), .int .i64 rk] ∧ OwnWT w32 w28.heap.size (.slice (some ⟨g19, 0, none⟩) (((boR rl rn rk X Y).t).length) c20) ws21 ((boR rl rn rk X Y).t) ∧ Blk w32 X22 [.int .i64 rl, .int .i64 ((boR rl rn rk X Y).n), .int .i64 rk]) := hide ((unhide KEPT) _ _ (unhide K) b)
  clear b
  have mPd0 : w32.cell? ⟨w.heap.size, 0, none⟩ = some (.int .i64 rl) := (unhide K).2.1.c 0 (by simp)
  have mPd1 : w32.cell? ⟨w.heap.size, 1, none⟩ = some (.int .i64 rn) := (unhide K).2.1.c 1 (by simp)
  have mPd2 : w32.cell? ⟨w.heap.size, 2, none⟩ = some (.int .i64 rk) := (unhide K).2.1.c 2 (by simp)
  have mQWp20 : w32.cell? ⟨X8, 0, none⟩ = some (.int .i64 rl) := (unhide K).2.2.2.1.c 0 (by simp)
  have mQWp21 : w32.cell? ⟨X8, 1, none⟩ = some (.int .i64 ((boR rl rn rk X Y).n)) := (unhide K).2.2.2.1.c 1 (by simp)
  have mQWp22 : w32.cell? ⟨X8, 2, none⟩ = some (.int .i64 rk) := (unhide K).2.2.2.1.c 2 (by simp)
  have mQGp20 : w32.cell? ⟨X14, 0, none⟩ = some (.int .i64 rl) := (unhide K).2.2.2.2.2.1.c 0 (by simp)
  have mQGp21 : w32.cell? ⟨X14, 1, none⟩ = some (.int .i64 ((boR rl rn rk X Y).n)) := (unhide K).2.2.2.2.2.1.c 1 (by simp)
  have mQGp22 : w32.cell? ⟨X14, 2, none⟩ = some (.int .i64 rk) := (unhide K).2.2.2.2.2.1.c 2 (by simp)
  have mQHp20 : w32.cell? ⟨X22, 0, none⟩ = some (.int .i64 rl) := (unhide K).2.2.2.2.2.2.2.c 0 (by simp)
  have mQHp21 : w32.cell? ⟨X22, 1, none⟩ = some (.int .i64 ((boR rl rn rk X Y).n)) := (unhide K).2.2.2.2.2.2.2.c 1 (by simp)
  have mQHp22 : w32.cell? ⟨X22, 2, none⟩ = some (.int .i64 rk) := (unhide K).2.2.2.2.2.2.2.c 2 (by simp)
  go_wp2_with fail
  clear mPd0 mPd1 mPd2 mQWp20 mQWp21 mQWp22 mQGp20 mQGp21 mQGp22 mQHp20 mQHp21 mQHp22
  refine (heldWord16S_any _ _ _ _ ws13 1 _ (unhide K).2.2.2.2.1 (unhide FG0).len (by have := (unhide FG0).few; omega) (unhide FG0).d32 (unhide FG0).dn (by omega) (by omega)).mono ?_
  rintro x w33 ⟨rfl, hw⟩
  have b : Below w32.heap.size w32 w33 := by rw [hw]; exact Below.refl _ _
  clear hw
  have S46 : Hid (w32.heap.size ≤ w33.heap.size) := hide b.size
  have K : Hid (Below w.heap.size w w33 ∧ Blk w33 w.heap.size [.int .i64 rl, .int .i64 rn, .int .i64 rk] ∧ OwnWT w33 w6.heap.size (.slice (some ⟨g5, 0, none⟩) (((boR rl rn rk X Y).t).length) c6) ws7 ((boR rl rn rk X Y).t) ∧ Blk w33 X8 [.int .i64 rl, .int .i64 ((boR rl rn rk X Y).n), .int .i64 rk] ∧ OwnWd w33 w11.heap.size (.slice (some ⟨g11, 0, none⟩) (((boR rl rn rk X Y).t).length) c12) (markWx ws13 1 (((boR rl rn rk X Y).t).length)) ∧ Blk w33 X14 [.int .i64 rl, .int .i64 ((boR rl rn rk X Y).n), .int .i64 rk] ∧ OwnWT w33 w28.heap.size (.slice (some ⟨g19, 0, none⟩) (((boR rl rn rk X Y).t).length) c20) ws21 ((boR rl rn rk X Y).t) ∧ Blk w33 X22 [.int .i64 rl, .int .i64 ((boR rl rn rk X Y).n), .int .i64 rk]) := hide ((unhide KEPT) _ _ (unhide K) b)
  clear b
  have nq33 : ¬ (kA ws13 1 (((boR rl rn rk X Y).t).length) < 0) := by omega
  have nn33 : (kA ws13 1 (((boR rl rn rk X Y).t).length) != kA ws13 1 (((boR rl rn rk X Y).t).length)) = false := by simp
  have mPd0 : w33.cell? ⟨w.heap.size, 0, none⟩ = some (.int .i64 rl) := (unhide K).2.1.c 0 (by simp)
  have mPd1 : w33.cell? ⟨w.heap.size, 1, none⟩ = some (.int .i64 rn) := (unhide K).2.1.c 1 (by simp)
  have mPd2 : w33.cell? ⟨w.heap.size, 2, none⟩ = some (.int .i64 rk) := (unhide K).2.1.c 2 (by simp)
  have mQWp20 : w33.cell? ⟨X8, 0, none⟩ = some (.int .i64 rl) := (unhide K).2.2.2.1.c 0 (by simp)
  have mQWp21 : w33.cell? ⟨X8, 1, none⟩ = some (.int .i64 ((boR rl rn rk X Y).n)) := (unhide K).2.2.2.1.c 1 (by simp)
  have mQWp22 : w33.cell? ⟨X8, 2, none⟩ = some (.int .i64 rk) := (unhide K).2.2.2.1.c 2 (by simp)
  have mQGp20 : w33.cell? ⟨X14, 0, none⟩ = some (.int .i64 rl) := (unhide K).2.2.2.2.2.1.c 0 (by simp)
  have mQGp21 : w33.cell? ⟨X14, 1, none⟩ = some (.int .i64 ((boR rl rn rk X Y).n)) := (unhide K).2.2.2.2.2.1.c 1 (by simp)
  have mQGp22 : w33.cell? ⟨X14, 2, none⟩ = some (.int .i64 rk) := (unhide K).2.2.2.2.2.1.c 2 (by simp)
  have mQHp20 : w33.cell? ⟨X22, 0, none⟩ = some (.int .i64 rl) := (unhide K).2.2.2.2.2.2.2.c 0 (by simp)
  have mQHp21 : w33.cell? ⟨X22, 1, none⟩ = some (.int .i64 ((boR rl rn rk X Y).n)) := (unhide K).2.2.2.2.2.2.2.c 1 (by simp)
  have mQHp22 : w33.cell? ⟨X22, 2, none⟩ = some (.int .i64 rk) := (unhide K).2.2.2.2.2.2.2.c 2 (by simp)
  go_wp2_with fail
  clear mPd0 mPd1 mPd2 mQWp20 mQWp21 mQWp22 mQGp20 mQGp21 mQGp22 mQHp20 mQHp21 mQHp22
  go_ret
  exact ⟨rfl, (unhide K).1⟩
end Go.Proofs.Ytnhcmokkankcmay
