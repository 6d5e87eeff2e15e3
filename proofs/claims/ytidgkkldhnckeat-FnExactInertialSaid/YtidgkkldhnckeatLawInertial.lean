/-
  The law FnExactInertial returns true at every argument and writes nothing that was there: the walk. No condition.
-/
import Derived.Test.YtidgkkldhnckeatToDt
import Derived.Test.YtidgkkldhnckeatRowPu
import Derived.Test.YtidgkkldhnckeatInIs
import Derived.Test.YtidgkkldhnckeatOnly
import Derived.Deep.RegionHeld3
namespace Go.Proofs.Ytidgkkldhnckeat
open Go.RowKit
set_option maxRecDepth 20000 in
set_option maxHeartbeats 8000000 in
theorem lawInertial (dx dy du dv : Int) (pa1 : Option Addr) (pl1 pc1 : Nat) (ps : List Pu) (w : World) (hrp : RowE 2 puC w pa1 pl1 ps)  :
    Calls Try.prog 6 #[.agg #[.int .i64 dx, .int .i64 dy, .int .i64 du, .int .i64 dv], .slice pa1 pl1 pc1] w fun x w' => x = .returned (.bool true) ∧ Below w.heap.size w w' := by
  have Rp := hide hrp
  have smp1 := hrp.small
  have Ep1 := hide hrp.len_eq
  clear hrp
  have hq : (inOk ⟨dx, dy, du, dv⟩ ps != inOk ⟨dx, dy, du, dv⟩ ps) = false := by simp
  go_enter Try.func6, Try.ntmps6
  go_wp2_with fail
  obtain ⟨w1, hw1⟩ : ∃ W, W = (w.alloc (Obj.cells #[.int .i64 dx, .int .i64 dy, .int .i64 du, .int .i64 dv] 44)) := ⟨_, rfl⟩
  rw [← hw1]
  have K : Hid (Below w.heap.size w w1 ∧ Blk w1 w.heap.size [.int .i64 dx, .int .i64 dy, .int .i64 du, .int .i64 dv]) := hide ⟨(by rw [hw1]; exact bel1 _), (by rw [hw1]; exact Blk.new _ _)⟩
  have S0 : Hid (w.heap.size + 1 ≤ w1.heap.size) := hide (by rw [hw1]; simp; try omega)
  clear hw1
  have KEPT : Hid (∀ W u3, (Below w.heap.size w W ∧ Blk W w.heap.size [.int .i64 dx, .int .i64 dy, .int .i64 du, .int .i64 dv]) → Below W.heap.size W u3 → (Below w.heap.size w u3 ∧ Blk u3 w.heap.size [.int .i64 dx, .int .i64 dy, .int .i64 du, .int .i64 dv])) := hide (fun W u3 h b => ⟨h.1.trans (b.mono h.1.size), h.2.below b⟩)
  refine (szPushS_any _ _ _ 1048576 _ smp1 (by omega) (by omega)).mono ?_
  rintro x w2 ⟨⟨r1, rfl, hl⟩, b⟩
  have S1 : Hid (w1.heap.size ≤ w2.heap.size) := hide b.size
  have K : Hid (Below w.heap.size w w2 ∧ Blk w2 w.heap.size [.int .i64 dx, .int .i64 dy, .int .i64 du, .int .i64 dv]) := hide ((unhide KEPT) _ _ (unhide K) b)
  clear b
  rcases hl with hl | ⟨hl, hle, hp1⟩
  · go_wp2_with fail
    go_ret
    exact ⟨rfl, (unhide K).1⟩
  have nr1 : ¬ r1 < 0 := by omega
  have mPd0 : w2.cell? ⟨w.heap.size, 0, none⟩ = some (.int .i64 dx) := (unhide K).2.c 0 (by simp)
  have mPd1 : w2.cell? ⟨w.heap.size, 1, none⟩ = some (.int .i64 dy) := (unhide K).2.c 1 (by simp)
  have mPd2 : w2.cell? ⟨w.heap.size, 2, none⟩ = some (.int .i64 du) := (unhide K).2.c 2 (by simp)
  have mPd3 : w2.cell? ⟨w.heap.size, 3, none⟩ = some (.int .i64 dv) := (unhide K).2.c 3 (by simp)
  go_wp2_with fail
  clear mPd0 mPd1 mPd2 mPd3
  refine (toDrift_any _ _ _ _ _).mono ?_
  rintro x w3 ⟨rfl, b⟩
  have S2 : Hid (w2.heap.size ≤ w3.heap.size) := hide b.size
  have K : Hid (Below w.heap.size w w3 ∧ Blk w3 w.heap.size [.int .i64 dx, .int .i64 dy, .int .i64 du, .int .i64 dv]) := hide ((unhide KEPT) _ _ (unhide K) b)
  clear b
  have mPd0 : w3.cell? ⟨w.heap.size, 0, none⟩ = some (.int .i64 dx) := (unhide K).2.c 0 (by simp)
  have mPd1 : w3.cell? ⟨w.heap.size, 1, none⟩ = some (.int .i64 dy) := (unhide K).2.c 1 (by simp)
  have mPd2 : w3.cell? ⟨w.heap.size, 2, none⟩ = some (.int .i64 du) := (unhide K).2.c 2 (by simp)
  have mPd3 : w3.cell? ⟨w.heap.size, 3, none⟩ = some (.int .i64 dv) := (unhide K).2.c 3 (by simp)
  go_wp2_with fail
  clear mPd0 mPd1 mPd2 mPd3
  obtain ⟨g2, hg2⟩ : ∃ G, w3.heap.size = G := ⟨_, rfl⟩
  refine (toPushS_own _ _ _ _ _ ((unhide Rp).below (unhide K).1) hp1).mono ?_
  rintro x w4 ⟨rfl, oc, b⟩
  rw [hg2] at oc ⊢
  have Bg2 := hide hg2
  clear hg2
  have LT4 : Hid (∀ g, (Value.slice (some ⟨g2, 0, none⟩) pl1 pl1).ownBlock = some g → w3.heap.size ≤ g ∧ g < w4.heap.size) := hide (by have e := unhide Bg2; have l := oc.lies; rw [← e] at l ⊢; exact l)
  have S3 : Hid (w3.heap.size ≤ w4.heap.size) := hide b.size
  have K : Hid (Below w.heap.size w w4 ∧ Blk w4 w.heap.size [.int .i64 dx, .int .i64 dy, .int .i64 du, .int .i64 dv]) := hide ((unhide KEPT) _ _ (unhide K) b)
  have K : Hid (Below w.heap.size w w4 ∧ Blk w4 w.heap.size [.int .i64 dx, .int .i64 dy, .int .i64 du, .int .i64 dv] ∧ OwnE 2 puC w4 w3.heap.size 73 (.slice (some ⟨g2, 0, none⟩) pl1 pl1) ps) := hide ⟨(unhide K).1, (unhide K).2, (by have e := unhide Bg2; rw [e]; exact oc)⟩
  clear KEPT oc b
  have KEPT : Hid (∀ W u3, (Below w.heap.size w W ∧ Blk W w.heap.size [.int .i64 dx, .int .i64 dy, .int .i64 du, .int .i64 dv] ∧ OwnE 2 puC W w3.heap.size 73 (.slice (some ⟨g2, 0, none⟩) pl1 pl1) ps) → Below W.heap.size W u3 → (Below w.heap.size w u3 ∧ Blk u3 w.heap.size [.int .i64 dx, .int .i64 dy, .int .i64 du, .int .i64 dv] ∧ OwnE 2 puC u3 w3.heap.size 73 (.slice (some ⟨g2, 0, none⟩) pl1 pl1) ps)) := hide (fun W u3 h b => ⟨h.1.trans (b.mono h.1.size), h.2.1.below b, h.2.2.below b⟩)
  have mPd0 : w4.cell? ⟨w.heap.size, 0, none⟩ = some (.int .i64 dx) := (unhide K).2.1.c 0 (by simp)
  have mPd1 : w4.cell? ⟨w.heap.size, 1, none⟩ = some (.int .i64 dy) := (unhide K).2.1.c 1 (by simp)
  have mPd2 : w4.cell? ⟨w.heap.size, 2, none⟩ = some (.int .i64 du) := (unhide K).2.1.c 2 (by simp)
  have mPd3 : w4.cell? ⟨w.heap.size, 3, none⟩ = some (.int .i64 dv) := (unhide K).2.1.c 3 (by simp)
  go_wp2_with fail
  clear mPd0 mPd1 mPd2 mPd3
  refine (specInertial_any _ _ _ _ _ _ _ _ _ (unhide K).2.2.row ).mono ?_
  rintro x w5 ⟨rfl, b⟩
  have S4 : Hid (w4.heap.size ≤ w5.heap.size) := hide b.size
  have K : Hid (Below w.heap.size w w5 ∧ Blk w5 w.heap.size [.int .i64 dx, .int .i64 dy, .int .i64 du, .int .i64 dv] ∧ OwnE 2 puC w5 w3.heap.size 73 (.slice (some ⟨g2, 0, none⟩) pl1 pl1) ps) := hide ((unhide KEPT) _ _ (unhide K) b)
  clear b
  have K : Hid (Below w.heap.size w w5 ∧ Blk w5 w.heap.size [.int .i64 dx, .int .i64 dy, .int .i64 du, .int .i64 dv]) := hide ⟨(unhide K).1, (unhide K).2.1⟩
  clear KEPT
  have KEPT : Hid (∀ W u3, (Below w.heap.size w W ∧ Blk W w.heap.size [.int .i64 dx, .int .i64 dy, .int .i64 du, .int .i64 dv]) → Below W.heap.size W u3 → (Below w.heap.size w u3 ∧ Blk u3 w.heap.size [.int .i64 dx, .int .i64 dy, .int .i64 du, .int .i64 dv])) := hide (fun W u3 h b => ⟨h.1.trans (b.mono h.1.size), h.2.below b⟩)
  obtain ⟨w6, hw6⟩ : ∃ V, V = w5.alloc (Obj.cells #[.int .i64 ((inR ⟨dx, dy, du, dv⟩ ps).a0), .int .i64 ((inR ⟨dx, dy, du, dv⟩ ps).a1), .int .i64 ((inR ⟨dx, dy, du, dv⟩ ps).a2), .int .i64 ((inR ⟨dx, dy, du, dv⟩ ps).a3)] 47) := ⟨_, rfl⟩
  have b : Below w5.heap.size w5 w6 := by rw [hw6]; exact bel1 _
  have kx : Blk w6 w5.heap.size [.int .i64 ((inR ⟨dx, dy, du, dv⟩ ps).a0), .int .i64 ((inR ⟨dx, dy, du, dv⟩ ps).a1), .int .i64 ((inR ⟨dx, dy, du, dv⟩ ps).a2), .int .i64 ((inR ⟨dx, dy, du, dv⟩ ps).a3)] := by rw [hw6]; exact Blk.new _ _
  have S5 : Hid (w5.heap.size + 1 ≤ w6.heap.size) := hide (by rw [hw6]; simp)
  have S6 : Hid (w5.heap.size ≤ w6.heap.size) := hide b.size
  have K : Hid (Below w.heap.size w w6 ∧ Blk w6 w.heap.size [.int .i64 dx, .int .i64 dy, .int .i64 du, .int .i64 dv]) := hide ((unhide KEPT) _ _ (unhide K) b)
  have mPd0 : w6.cell? ⟨w.heap.size, 0, none⟩ = some (.int .i64 dx) := (unhide K).2.c 0 (by simp)
  have mPd1 : w6.cell? ⟨w.heap.size, 1, none⟩ = some (.int .i64 dy) := (unhide K).2.c 1 (by simp)
  have mPd2 : w6.cell? ⟨w.heap.size, 2, none⟩ = some (.int .i64 du) := (unhide K).2.c 2 (by simp)
  have mPd3 : w6.cell? ⟨w.heap.size, 3, none⟩ = some (.int .i64 dv) := (unhide K).2.c 3 (by simp)
  rw [hw6] at mPd0 mPd1 mPd2 mPd3
  obtain ⟨X3, hX3⟩ : ∃ X, w5.heap.size = X := ⟨_, rfl⟩
  rw [hX3] at kx
  have S7 : Hid (w5.heap.size = X3) := hide hX3
  have K : Hid (Below w.heap.size w w6 ∧ Blk w6 w.heap.size [.int .i64 dx, .int .i64 dy, .int .i64 du, .int .i64 dv] ∧ Blk w6 X3 [.int .i64 ((inR ⟨dx, dy, du, dv⟩ ps).a0), .int .i64 ((inR ⟨dx, dy, du, dv⟩ ps).a1), .int .i64 ((inR ⟨dx, dy, du, dv⟩ ps).a2), .int .i64 ((inR ⟨dx, dy, du, dv⟩ ps).a3)]) := hide ⟨(unhide K).1, (unhide K).2, kx⟩
  clear KEPT b kx
  have KEPT : Hid (∀ W u3, (Below w.heap.size w W ∧ Blk W w.heap.size [.int .i64 dx, .int .i64 dy, .int .i64 du, .int .i64 dv] ∧ Blk W X3 [.int .i64 ((inR ⟨dx, dy, du, dv⟩ ps).a0), .int .i64 ((inR ⟨dx, dy, du, dv⟩ ps).a1), .int .i64 ((inR ⟨dx, dy, du, dv⟩ ps).a2), .int .i64 ((inR ⟨dx, dy, du, dv⟩ ps).a3)]) → Below W.heap.size W u3 → (Below w.heap.size w u3 ∧ Blk u3 w.heap.size [.int .i64 dx, .int .i64 dy, .int .i64 du, .int .i64 dv] ∧ Blk u3 X3 [.int .i64 ((inR ⟨dx, dy, du, dv⟩ ps).a0), .int .i64 ((inR ⟨dx, dy, du, dv⟩ ps).a1), .int .i64 ((inR ⟨dx, dy, du, dv⟩ ps).a2), .int .i64 ((inR ⟨dx, dy, du, dv⟩ ps).a3)])) := hide (fun W u3 h b => ⟨h.1.trans (b.mono h.1.size), h.2.1.below b, h.2.2.below b⟩)
  have Hw6 := hide hw6
  have HX3 := hide hX3
  clear hw6 hX3
  go_wp2_with fail
  try rw [← unhide Hw6]
  try rw [unhide HX3]
  clear Hw6 HX3 mPd0 mPd1 mPd2 mPd3
  obtain ⟨g4, hg4⟩ : ∃ G, w6.heap.size = G := ⟨_, rfl⟩
  refine (toPushS_own _ _ _ _ _ ((unhide Rp).below (unhide K).1) hp1).mono ?_
  rintro x w7 ⟨rfl, oc, b⟩
  rw [hg4] at oc ⊢
  have Bg4 := hide hg4
  clear hg4
  have LXx1 : Hid (∀ g, (Value.slice (some ⟨g4, 0, none⟩) pl1 pl1).ownBlock = some g → w6.heap.size ≤ g ∧ g < w7.heap.size) := hide (by have e := unhide Bg4; have l := oc.lies; rw [← e] at l ⊢; exact l)
  have S8 : Hid (w6.heap.size ≤ w7.heap.size) := hide b.size
  have K : Hid (Below w.heap.size w w7 ∧ Blk w7 w.heap.size [.int .i64 dx, .int .i64 dy, .int .i64 du, .int .i64 dv] ∧ Blk w7 X3 [.int .i64 ((inR ⟨dx, dy, du, dv⟩ ps).a0), .int .i64 ((inR ⟨dx, dy, du, dv⟩ ps).a1), .int .i64 ((inR ⟨dx, dy, du, dv⟩ ps).a2), .int .i64 ((inR ⟨dx, dy, du, dv⟩ ps).a3)]) := hide ((unhide KEPT) _ _ (unhide K) b)
  have K : Hid (Below w.heap.size w w7 ∧ Blk w7 w.heap.size [.int .i64 dx, .int .i64 dy, .int .i64 du, .int .i64 dv] ∧ Blk w7 X3 [.int .i64 ((inR ⟨dx, dy, du, dv⟩ ps).a0), .int .i64 ((inR ⟨dx, dy, du, dv⟩ ps).a1), .int .i64 ((inR ⟨dx, dy, du, dv⟩ ps).a2), .int .i64 ((inR ⟨dx, dy, du, dv⟩ ps).a3)] ∧ OwnE 2 puC w7 w6.heap.size 73 (.slice (some ⟨g4, 0, none⟩) pl1 pl1) ps) := hide ⟨(unhide K).1, (unhide K).2.1, (unhide K).2.2, (by have e := unhide Bg4; rw [e]; exact oc)⟩
  clear KEPT oc b
  have KEPT : Hid (∀ W u3, (Below w.heap.size w W ∧ Blk W w.heap.size [.int .i64 dx, .int .i64 dy, .int .i64 du, .int .i64 dv] ∧ Blk W X3 [.int .i64 ((inR ⟨dx, dy, du, dv⟩ ps).a0), .int .i64 ((inR ⟨dx, dy, du, dv⟩ ps).a1), .int .i64 ((inR ⟨dx, dy, du, dv⟩ ps).a2), .int .i64 ((inR ⟨dx, dy, du, dv⟩ ps).a3)] ∧ OwnE 2 puC W w6.heap.size 73 (.slice (some ⟨g4, 0, none⟩) pl1 pl1) ps) → Below W.heap.size W u3 → (Below w.heap.size w u3 ∧ Blk u3 w.heap.size [.int .i64 dx, .int .i64 dy, .int .i64 du, .int .i64 dv] ∧ Blk u3 X3 [.int .i64 ((inR ⟨dx, dy, du, dv⟩ ps).a0), .int .i64 ((inR ⟨dx, dy, du, dv⟩ ps).a1), .int .i64 ((inR ⟨dx, dy, du, dv⟩ ps).a2), .int .i64 ((inR ⟨dx, dy, du, dv⟩ ps).a3)] ∧ OwnE 2 puC u3 w6.heap.size 73 (.slice (some ⟨g4, 0, none⟩) pl1 pl1) ps)) := hide (fun W u3 h b => ⟨h.1.trans (b.mono h.1.size), h.2.1.below b, h.2.2.1.below b, h.2.2.2.below b⟩)
  have mPd0 : w7.cell? ⟨w.heap.size, 0, none⟩ = some (.int .i64 dx) := (unhide K).2.1.c 0 (by simp)
  have mPd1 : w7.cell? ⟨w.heap.size, 1, none⟩ = some (.int .i64 dy) := (unhide K).2.1.c 1 (by simp)
  have mPd2 : w7.cell? ⟨w.heap.size, 2, none⟩ = some (.int .i64 du) := (unhide K).2.1.c 2 (by simp)
  have mPd3 : w7.cell? ⟨w.heap.size, 3, none⟩ = some (.int .i64 dv) := (unhide K).2.1.c 3 (by simp)
  have mQWp00 : w7.cell? ⟨X3, 0, none⟩ = some (.int .i64 ((inR ⟨dx, dy, du, dv⟩ ps).a0)) := (unhide K).2.2.1.c 0 (by simp)
  have mQWp01 : w7.cell? ⟨X3, 1, none⟩ = some (.int .i64 ((inR ⟨dx, dy, du, dv⟩ ps).a1)) := (unhide K).2.2.1.c 1 (by simp)
  have mQWp02 : w7.cell? ⟨X3, 2, none⟩ = some (.int .i64 ((inR ⟨dx, dy, du, dv⟩ ps).a2)) := (unhide K).2.2.1.c 2 (by simp)
  have mQWp03 : w7.cell? ⟨X3, 3, none⟩ = some (.int .i64 ((inR ⟨dx, dy, du, dv⟩ ps).a3)) := (unhide K).2.2.1.c 3 (by simp)
  go_wp2_with fail
  clear mPd0 mPd1 mPd2 mPd3 mQWp00 mQWp01 mQWp02 mQWp03
  refine (toDrift_any _ _ _ _ _).mono ?_
  rintro x w8 ⟨rfl, b⟩
  have S9 : Hid (w7.heap.size ≤ w8.heap.size) := hide b.size
  have K : Hid (Below w.heap.size w w8 ∧ Blk w8 w.heap.size [.int .i64 dx, .int .i64 dy, .int .i64 du, .int .i64 dv] ∧ Blk w8 X3 [.int .i64 ((inR ⟨dx, dy, du, dv⟩ ps).a0), .int .i64 ((inR ⟨dx, dy, du, dv⟩ ps).a1), .int .i64 ((inR ⟨dx, dy, du, dv⟩ ps).a2), .int .i64 ((inR ⟨dx, dy, du, dv⟩ ps).a3)] ∧ OwnE 2 puC w8 w6.heap.size 73 (.slice (some ⟨g4, 0, none⟩) pl1 pl1) ps) := hide ((unhide KEPT) _ _ (unhide K) b)
  clear b
  have mPd0 : w8.cell? ⟨w.heap.size, 0, none⟩ = some (.int .i64 dx) := (unhide K).2.1.c 0 (by simp)
  have mPd1 : w8.cell? ⟨w.heap.size, 1, none⟩ = some (.int .i64 dy) := (unhide K).2.1.c 1 (by simp)
  have mPd2 : w8.cell? ⟨w.heap.size, 2, none⟩ = some (.int .i64 du) := (unhide K).2.1.c 2 (by simp)
  have mPd3 : w8.cell? ⟨w.heap.size, 3, none⟩ = some (.int .i64 dv) := (unhide K).2.1.c 3 (by simp)
  have mQWp00 : w8.cell? ⟨X3, 0, none⟩ = some (.int .i64 ((inR ⟨dx, dy, du, dv⟩ ps).a0)) := (unhide K).2.2.1.c 0 (by simp)
  have mQWp01 : w8.cell? ⟨X3, 1, none⟩ = some (.int .i64 ((inR ⟨dx, dy, du, dv⟩ ps).a1)) := (unhide K).2.2.1.c 1 (by simp)
  have mQWp02 : w8.cell? ⟨X3, 2, none⟩ = some (.int .i64 ((inR ⟨dx, dy, du, dv⟩ ps).a2)) := (unhide K).2.2.1.c 2 (by simp)
  have mQWp03 : w8.cell? ⟨X3, 3, none⟩ = some (.int .i64 ((inR ⟨dx, dy, du, dv⟩ ps).a3)) := (unhide K).2.2.1.c 3 (by simp)
  go_wp2_with fail
  clear mPd0 mPd1 mPd2 mPd3 mQWp00 mQWp01 mQWp02 mQWp03
  refine (implInertial_any _ _ _ _ _ _ _ _ _ (unhide K).2.2.2.row ).mono ?_
  rintro x w9 ⟨rfl, b⟩
  have S10 : Hid (w8.heap.size ≤ w9.heap.size) := hide b.size
  have K : Hid (Below w.heap.size w w9 ∧ Blk w9 w.heap.size [.int .i64 dx, .int .i64 dy, .int .i64 du, .int .i64 dv] ∧ Blk w9 X3 [.int .i64 ((inR ⟨dx, dy, du, dv⟩ ps).a0), .int .i64 ((inR ⟨dx, dy, du, dv⟩ ps).a1), .int .i64 ((inR ⟨dx, dy, du, dv⟩ ps).a2), .int .i64 ((inR ⟨dx, dy, du, dv⟩ ps).a3)] ∧ OwnE 2 puC w9 w6.heap.size 73 (.slice (some ⟨g4, 0, none⟩) pl1 pl1) ps) := hide ((unhide KEPT) _ _ (unhide K) b)
  clear b
  obtain ⟨w10, hw10⟩ : ∃ V, V = w9.alloc (Obj.cells #[.int .i64 ((inR ⟨dx, dy, du, dv⟩ ps).a0), .int .i64 ((inR ⟨dx, dy, du, dv⟩ ps).a1), .int .i64 ((inR ⟨dx, dy, du, dv⟩ ps).a2), .int .i64 ((inR ⟨dx, dy, du, dv⟩ ps).a3)] 47) := ⟨_, rfl⟩
  have b : Below w9.heap.size w9 w10 := by rw [hw10]; exact bel1 _
  have kx : Blk w10 w9.heap.size [.int .i64 ((inR ⟨dx, dy, du, dv⟩ ps).a0), .int .i64 ((inR ⟨dx, dy, du, dv⟩ ps).a1), .int .i64 ((inR ⟨dx, dy, du, dv⟩ ps).a2), .int .i64 ((inR ⟨dx, dy, du, dv⟩ ps).a3)] := by rw [hw10]; exact Blk.new _ _
  have S11 : Hid (w9.heap.size + 1 ≤ w10.heap.size) := hide (by rw [hw10]; simp)
  have S12 : Hid (w9.heap.size ≤ w10.heap.size) := hide b.size
  have K : Hid (Below w.heap.size w w10 ∧ Blk w10 w.heap.size [.int .i64 dx, .int .i64 dy, .int .i64 du, .int .i64 dv] ∧ Blk w10 X3 [.int .i64 ((inR ⟨dx, dy, du, dv⟩ ps).a0), .int .i64 ((inR ⟨dx, dy, du, dv⟩ ps).a1), .int .i64 ((inR ⟨dx, dy, du, dv⟩ ps).a2), .int .i64 ((inR ⟨dx, dy, du, dv⟩ ps).a3)] ∧ OwnE 2 puC w10 w6.heap.size 73 (.slice (some ⟨g4, 0, none⟩) pl1 pl1) ps) := hide ((unhide KEPT) _ _ (unhide K) b)
  have mPd0 : w10.cell? ⟨w.heap.size, 0, none⟩ = some (.int .i64 dx) := (unhide K).2.1.c 0 (by simp)
  have mPd1 : w10.cell? ⟨w.heap.size, 1, none⟩ = some (.int .i64 dy) := (unhide K).2.1.c 1 (by simp)
  have mPd2 : w10.cell? ⟨w.heap.size, 2, none⟩ = some (.int .i64 du) := (unhide K).2.1.c 2 (by simp)
  have mPd3 : w10.cell? ⟨w.heap.size, 3, none⟩ = some (.int .i64 dv) := (unhide K).2.1.c 3 (by simp)
  have mQWp00 : w10.cell? ⟨X3, 0, none⟩ = some (.int .i64 ((inR ⟨dx, dy, du, dv⟩ ps).a0)) := (unhide K).2.2.1.c 0 (by simp)
  have mQWp01 : w10.cell? ⟨X3, 1, none⟩ = some (.int .i64 ((inR ⟨dx, dy, du, dv⟩ ps).a1)) := (unhide K).2.2.1.c 1 (by simp)
  have mQWp02 : w10.cell? ⟨X3, 2, none⟩ = some (.int .i64 ((inR ⟨dx, dy, du, dv⟩ ps).a2)) := (unhide K).2.2.1.c 2 (by simp)
  have mQWp03 : w10.cell? ⟨X3, 3, none⟩ = some (.int .i64 ((inR ⟨dx, dy, du, dv⟩ ps).a3)) := (unhide K).2.2.1.c 3 (by simp)
  rw [hw10] at mPd0 mPd1 mPd2 mPd3 mQWp00 mQWp01 mQWp02 mQWp03
  obtain ⟨X5, hX5⟩ : ∃ X, w9.heap.size = X := ⟨_, rfl⟩
  rw [hX5] at kx
  have S13 : Hid (w9.heap.size = X5) := hide hX5
  have K : Hid (Below w.heap.size w w10 ∧ Blk w10 w.heap.size [.int .i64 dx, .int .i64 dy, .int .i64 du, .int .i64 dv] ∧ Blk w10 X3 [.int .i64 ((inR ⟨dx, dy, du, dv⟩ ps).a0), .int .i64 ((inR ⟨dx, dy, du, dv⟩ ps).a1), .int .i64 ((inR ⟨dx, dy, du, dv⟩ ps).a2), .int .i64 ((inR ⟨dx, dy, du, dv⟩ ps).a3)] ∧ OwnE 2 puC w10 w6.heap.size 73 (.slice (some ⟨g4, 0, none⟩) pl1 pl1) ps ∧ Blk w10 X5 [.int .i64 ((inR ⟨dx, dy, du, dv⟩ ps).a0), .int .i64 ((inR ⟨dx, dy, du, dv⟩ ps).a1), .int .i64 ((inR ⟨dx, dy, du, dv⟩ ps).a2), .int .i64 ((inR ⟨dx, dy, du, dv⟩ ps).a3)]) := hide ⟨(unhide K).1, (unhide K).2.1, (unhide K).2.2.1, (unhide K).2.2.2, kx⟩
  clear KEPT b kx
  have KEPT : Hid (∀ W u3, (Below w.heap.size w W ∧ Blk W w.heap.size [.int .i64 dx, .int .i64 dy, .int .i64 du, .int .i64 dv] ∧ Blk W X3 [.int .i64 ((inR ⟨dx, dy, du, dv⟩ ps).a0), .int .i64 ((inR ⟨dx, dy, du, dv⟩ ps).a1), .int .i64 ((inR ⟨dx, dy, du, dv⟩ ps).a2), .int .i64 ((inR ⟨dx, dy, du, dv⟩ ps).a3)] ∧ OwnE 2 puC W w6.heap.size 73 (.slice (some ⟨g4, 0, none⟩) pl1 pl1) ps ∧ Blk W X5 [.int .i64 ((inR ⟨dx, dy, du, dv⟩ ps).a0), .int .i64 ((inR ⟨dx, dy, du, dv⟩ ps).a1), .int .i64 ((inR ⟨dx, dy, du, dv⟩ ps).a2), .int .i64 ((inR ⟨dx, dy, du, dv⟩ ps).a3)]) → Below W.heap.size W u3 → (Below w.heap.size w u3 ∧ Blk u3 w.heap.size [.int .i64 dx, .int .i64 dy, .int .i64 du, .int .i64 dv] ∧ Blk u3 X3 [.int .i64 ((inR ⟨dx, dy, du, dv⟩ ps).a0), .int .i64 ((inR ⟨dx, dy, du, dv⟩ ps).a1), .int .i64 ((inR ⟨dx, dy, du, dv⟩ ps).a2), .int .i64 ((inR ⟨dx, dy, du, dv⟩ ps).a3)] ∧ OwnE 2 puC u3 w6.heap.size 73 (.slice (some ⟨g4, 0, none⟩) pl1 pl1) ps ∧ Blk u3 X5 [.int .i64 ((inR ⟨dx, dy, du, dv⟩ ps).a0), .int .i64 ((inR ⟨dx, dy, du, dv⟩ ps).a1), .int .i64 ((inR ⟨dx, dy, du, dv⟩ ps).a2), .int .i64 ((inR ⟨dx, dy, du, dv⟩ ps).a3)])) := hide (fun W u3 h b => ⟨h.1.trans (b.mono h.1.size), h.2.1.below b, h.2.2.1.below b, h.2.2.2.1.below b, h.2.2.2.2.below b⟩)
  have Hw10 := hide hw10
  have HX5 := hide hX5
  clear hw10 hX5
  go_wp2_with fail
  try rw [← unhide Hw10]
  try rw [unhide HX5]
  clear Hw10 HX5 mPd0 mPd1 mPd2 mPd3 mQWp00 mQWp01 mQWp02 mQWp03
  refine (eqDrift_alike _ _ _ _ _ _ _ _ _ (dtAlike_refl _)).mono ?_
  rintro x w11 ⟨rfl, b⟩
  have S14 : Hid (w10.heap.size ≤ w11.heap.size) := hide b.size
  have K : Hid (Below w.heap.size w w11 ∧ Blk w11 w.heap.size [.int .i64 dx, .int .i64 dy, .int .i64 du, .int .i64 dv] ∧ Blk w11 X3 [.int .i64 ((inR ⟨dx, dy, du, dv⟩ ps).a0), .int .i64 ((inR ⟨dx, dy, du, dv⟩ ps).a1), .int .i64 ((inR ⟨dx, dy, du, dv⟩ ps).a2), .int .i64 ((inR ⟨dx, dy, du, dv⟩ ps).a3)] ∧ OwnE 2 puC w11 w6.heap.size 73 (.slice (some ⟨g4, 0, none⟩) pl1 pl1) ps ∧ Blk w11 X5 [.int .i64 ((inR ⟨dx, dy, du, dv⟩ ps).a0), .int .i64 ((inR ⟨dx, dy, du, dv⟩ ps).a1), .int .i64 ((inR ⟨dx, dy, du, dv⟩ ps).a2), .int .i64 ((inR ⟨dx, dy, du, dv⟩ ps).a3)]) := hide ((unhide KEPT) _ _ (unhide K) b)
  clear b
  have mPd0 : w11.cell? ⟨w.heap.size, 0, none⟩ = some (.int .i64 dx) := (unhide K).2.1.c 0 (by simp)
  have mPd1 : w11.cell? ⟨w.heap.size, 1, none⟩ = some (.int .i64 dy) := (unhide K).2.1.c 1 (by simp)
  have mPd2 : w11.cell? ⟨w.heap.size, 2, none⟩ = some (.int .i64 du) := (unhide K).2.1.c 2 (by simp)
  have mPd3 : w11.cell? ⟨w.heap.size, 3, none⟩ = some (.int .i64 dv) := (unhide K).2.1.c 3 (by simp)
  have mQWp00 : w11.cell? ⟨X3, 0, none⟩ = some (.int .i64 ((inR ⟨dx, dy, du, dv⟩ ps).a0)) := (unhide K).2.2.1.c 0 (by simp)
  have mQWp01 : w11.cell? ⟨X3, 1, none⟩ = some (.int .i64 ((inR ⟨dx, dy, du, dv⟩ ps).a1)) := (unhide K).2.2.1.c 1 (by simp)
  have mQWp02 : w11.cell? ⟨X3, 2, none⟩ = some (.int .i64 ((inR ⟨dx, dy, du, dv⟩ ps).a2)) := (unhide K).2.2.1.c 2 (by simp)
  have mQWp03 : w11.cell? ⟨X3, 3, none⟩ = some (.int .i64 ((inR ⟨dx, dy, du, dv⟩ ps).a3)) := (unhide K).2.2.1.c 3 (by simp)
  have mQGp00 : w11.cell? ⟨X5, 0, none⟩ = some (.int .i64 ((inR ⟨dx, dy, du, dv⟩ ps).a0)) := (unhide K).2.2.2.2.c 0 (by simp)
  have mQGp01 : w11.cell? ⟨X5, 1, none⟩ = some (.int .i64 ((inR ⟨dx, dy, du, dv⟩ ps).a1)) := (unhide K).2.2.2.2.c 1 (by simp)
  have mQGp02 : w11.cell? ⟨X5, 2, none⟩ = some (.int .i64 ((inR ⟨dx, dy, du, dv⟩ ps).a2)) := (unhide K).2.2.2.2.c 2 (by simp)
  have mQGp03 : w11.cell? ⟨X5, 3, none⟩ = some (.int .i64 ((inR ⟨dx, dy, du, dv⟩ ps).a3)) := (unhide K).2.2.2.2.c 3 (by simp)
  go_wp2_with fail
  clear mPd0 mPd1 mPd2 mPd3 mQWp00 mQWp01 mQWp02 mQWp03 mQGp00 mQGp01 mQGp02 mQGp03
  obtain ⟨g6, hg6⟩ : ∃ G, w11.heap.size = G := ⟨_, rfl⟩
  refine (toPushS_own _ _ _ _ _ ((unhide Rp).below (unhide K).1) hp1).mono ?_
  rintro x w12 ⟨rfl, oc, b⟩
  rw [hg6] at oc ⊢
  have Bg6 := hide hg6
  clear hg6
  have IC := hide oc.row
  have S15 : Hid (w11.heap.size ≤ w12.heap.size) := hide b.size
  have K : Hid (Below w.heap.size w w12 ∧ Blk w12 w.heap.size [.int .i64 dx, .int .i64 dy, .int .i64 du, .int .i64 dv] ∧ Blk w12 X3 [.int .i64 ((inR ⟨dx, dy, du, dv⟩ ps).a0), .int .i64 ((inR ⟨dx, dy, du, dv⟩ ps).a1), .int .i64 ((inR ⟨dx, dy, du, dv⟩ ps).a2), .int .i64 ((inR ⟨dx, dy, du, dv⟩ ps).a3)] ∧ OwnE 2 puC w12 w6.heap.size 73 (.slice (some ⟨g4, 0, none⟩) pl1 pl1) ps ∧ Blk w12 X5 [.int .i64 ((inR ⟨dx, dy, du, dv⟩ ps).a0), .int .i64 ((inR ⟨dx, dy, du, dv⟩ ps).a1), .int .i64 ((inR ⟨dx, dy, du, dv⟩ ps).a2), .int .i64 ((inR ⟨dx, dy, du, dv⟩ ps).a3)]) := hide ((unhide KEPT) _ _ (unhide K) b)
  clear oc b
  have mPd0 : w12.cell? ⟨w.heap.size, 0, none⟩ = some (.int .i64 dx) := (unhide K).2.1.c 0 (by simp)
  have mPd1 : w12.cell? ⟨w.heap.size, 1, none⟩ = some (.int .i64 dy) := (unhide K).2.1.c 1 (by simp)
  have mPd2 : w12.cell? ⟨w.heap.size, 2, none⟩ = some (.int .i64 du) := (unhide K).2.1.c 2 (by simp)
  have mPd3 : w12.cell? ⟨w.heap.size, 3, none⟩ = some (.int .i64 dv) := (unhide K).2.1.c 3 (by simp)
  have mQWp00 : w12.cell? ⟨X3, 0, none⟩ = some (.int .i64 ((inR ⟨dx, dy, du, dv⟩ ps).a0)) := (unhide K).2.2.1.c 0 (by simp)
  have mQWp01 : w12.cell? ⟨X3, 1, none⟩ = some (.int .i64 ((inR ⟨dx, dy, du, dv⟩ ps).a1)) := (unhide K).2.2.1.c 1 (by simp)
  have mQWp02 : w12.cell? ⟨X3, 2, none⟩ = some (.int .i64 ((inR ⟨dx, dy, du, dv⟩ ps).a2)) := (unhide K).2.2.1.c 2 (by simp)
  have mQWp03 : w12.cell? ⟨X3, 3, none⟩ = some (.int .i64 ((inR ⟨dx, dy, du, dv⟩ ps).a3)) := (unhide K).2.2.1.c 3 (by simp)
  have mQGp00 : w12.cell? ⟨X5, 0, none⟩ = some (.int .i64 ((inR ⟨dx, dy, du, dv⟩ ps).a0)) := (unhide K).2.2.2.2.c 0 (by simp)
  have mQGp01 : w12.cell? ⟨X5, 1, none⟩ = some (.int .i64 ((inR ⟨dx, dy, du, dv⟩ ps).a1)) := (unhide K).2.2.2.2.c 1 (by simp)
  have mQGp02 : w12.cell? ⟨X5, 2, none⟩ = some (.int .i64 ((inR ⟨dx, dy, du, dv⟩ ps).a2)) := (unhide K).2.2.2.2.c 2 (by simp)
  have mQGp03 : w12.cell? ⟨X5, 3, none⟩ = some (.int .i64 ((inR ⟨dx, dy, du, dv⟩ ps).a3)) := (unhide K).2.2.2.2.c 3 (by simp)
  go_wp2_with fail
  clear mPd0 mPd1 mPd2 mPd3 mQWp00 mQWp01 mQWp02 mQWp03 mQGp00 mQGp01 mQGp02 mQGp03
  refine (eqPushS_same _ _ _ _ _ _ _ _ (unhide K).2.2.2.1.row (unhide IC)).mono ?_
  rintro x w13 ⟨rfl, b⟩
  have S16 : Hid (w12.heap.size ≤ w13.heap.size) := hide b.size
  have K : Hid (Below w.heap.size w w13 ∧ Blk w13 w.heap.size [.int .i64 dx, .int .i64 dy, .int .i64 du, .int .i64 dv] ∧ Blk w13 X3 [.int .i64 ((inR ⟨dx, dy, du, dv⟩ ps).a0), .int .i64 ((inR ⟨dx, dy, du, dv⟩ ps).a1), .int .i64 ((inR ⟨dx, dy, du, dv⟩ ps).a2), .int .i64 ((inR ⟨dx, dy, du, dv⟩ ps).a3)] ∧ OwnE 2 puC w13 w6.heap.size 73 (.slice (some ⟨g4, 0, none⟩) pl1 pl1) ps ∧ Blk w13 X5 [.int .i64 ((inR ⟨dx, dy, du, dv⟩ ps).a0), .int .i64 ((inR ⟨dx, dy, du, dv⟩ ps).a1), .int .i64 ((inR ⟨dx, dy, du, dv⟩ ps).a2), .int .i64 ((inR ⟨dx, dy, du, dv⟩ ps).a3)]) := hide ((unhide KEPT) _ _ (unhide K) b)
  clear b IC
  have mPd0 : w13.cell? ⟨w.heap.size, 0, none⟩ = some (.int .i64 dx) := (unhide K).2.1.c 0 (by simp)
  have mPd1 : w13.cell? ⟨w.heap.size, 1, none⟩ = some (.int .i64 dy) := (unhide K).2.1.c 1 (by simp)
  have mPd2 : w13.cell? ⟨w.heap.size, 2, none⟩ = some (.int .i64 du) := (unhide K).2.1.c 2 (by simp)
  have mPd3 : w13.cell? ⟨w.heap.size, 3, none⟩ = some (.int .i64 dv) := (unhide K).2.1.c 3 (by simp)
  have mQWp00 : w13.cell? ⟨X3, 0, none⟩ = some (.int .i64 ((inR ⟨dx, dy, du, dv⟩ ps).a0)) := (unhide K).2.2.1.c 0 (by simp)
  have mQWp01 : w13.cell? ⟨X3, 1, none⟩ = some (.int .i64 ((inR ⟨dx, dy, du, dv⟩ ps).a1)) := (unhide K).2.2.1.c 1 (by simp)
  have mQWp02 : w13.cell? ⟨X3, 2, none⟩ = some (.int .i64 ((inR ⟨dx, dy, du, dv⟩ ps).a2)) := (unhide K).2.2.1.c 2 (by simp)
  have mQWp03 : w13.cell? ⟨X3, 3, none⟩ = some (.int .i64 ((inR ⟨dx, dy, du, dv⟩ ps).a3)) := (unhide K).2.2.1.c 3 (by simp)
  have mQGp00 : w13.cell? ⟨X5, 0, none⟩ = some (.int .i64 ((inR ⟨dx, dy, du, dv⟩ ps).a0)) := (unhide K).2.2.2.2.c 0 (by simp)
  have mQGp01 : w13.cell? ⟨X5, 1, none⟩ = some (.int .i64 ((inR ⟨dx, dy, du, dv⟩ ps).a1)) := (unhide K).2.2.2.2.c 1 (by simp)
  have mQGp02 : w13.cell? ⟨X5, 2, none⟩ = some (.int .i64 ((inR ⟨dx, dy, du, dv⟩ ps).a2)) := (unhide K).2.2.2.2.c 2 (by simp)
  have mQGp03 : w13.cell? ⟨X5, 3, none⟩ = some (.int .i64 ((inR ⟨dx, dy, du, dv⟩ ps).a3)) := (unhide K).2.2.2.2.c 3 (by simp)
  go_wp2_with fail
  clear mPd0 mPd1 mPd2 mPd3 mQWp00 mQWp01 mQWp02 mQWp03 mQGp00 mQGp01 mQGp02 mQGp03
  go_ret
  exact ⟨rfl, (unhide K).1⟩
end Go.Proofs.Ytidgkkldhnckeat
