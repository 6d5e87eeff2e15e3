/-
  The law FnExactEffective returns true at every argument and writes nothing that was there: the walk. No condition.
-/
import Derived.Test.YtemodlgmjgdjpaaGreatDoorEfJn
import Derived.Test.YtemodlgmjgdjpaaGreatDoorMAbMark
import Derived.Test.YtemodlgmjgdjpaaGreatDoorMMake
import Derived.Test.YtemodlgmjgdjpaaGreatDoorMMarkI
import Derived.Test.YtemodlgmjgdjpaaGreatDoorMFrac
import Derived.Deep.RegionHeld3
namespace Go.Proofs.YtemodlgmjgdjpaaGreatDoor
open Go.RowKit
set_option maxRecDepth 20000 in
set_option maxHeartbeats 8000000 in
theorem lawEffective (sn : Int) (da1 : Option Addr) (dl1 dc1 : Nat) (zs : List Lc) (ma1 : Option Addr) (ml1 mc1 : Nat) (ms : List Lc) (w : World) (hrd : AbIn w da1 dl1 zs) (hrm : LsT w ma1 ml1 ms) (erg : ErG w) :
    Calls Tryz.prog 5 #[.agg #[.int .i64 sn, .slice da1 dl1 dc1], .slice ma1 ml1 mc1] w fun x w' => x = .returned (.bool true) ∧ Below w.heap.size w w' := by
  have Rd := hide hrd
  have smd1 := hrd.r1.small
  have Ed1 := hide hrd.r1.len_eq
  clear hrd
  have Rm := hide hrm
  have smm1 := hrm.small
  have Em1 := hide hrm.len_eq
  clear hrm
  have HGS := hide erg
  clear erg
  have hq : (efB sn zs ms != efB sn zs ms) = false := by simp
  have hsm := efL_small sn zs ms
  go_enter Tryz.func5, Tryz.ntmps5
  go_wp2_with fail
  obtain ⟨w1, hw1⟩ : ∃ W, W = (w.alloc (Obj.cells #[.int .i64 sn, .slice da1 dl1 dc1] 47)) := ⟨_, rfl⟩
  rw [← hw1]
  have K : Hid (Below w.heap.size w w1 ∧ Blk w1 w.heap.size [.int .i64 sn, .slice da1 dl1 dc1]) := hide ⟨(by rw [hw1]; exact bel1 _), (by rw [hw1]; exact Blk.new _ _)⟩
  have S0 : Hid (w.heap.size + 1 ≤ w1.heap.size) := hide (by rw [hw1]; simp; try omega)
  clear hw1
  have KEPT : Hid (∀ W u3, (Below w.heap.size w W ∧ Blk W w.heap.size [.int .i64 sn, .slice da1 dl1 dc1]) → Below W.heap.size W u3 → (Below w.heap.size w u3 ∧ Blk u3 w.heap.size [.int .i64 sn, .slice da1 dl1 dc1])) := hide (fun W u3 h b => ⟨h.1.trans (b.mono h.1.size), h.2.below b⟩)
  refine (szAboard_any _ _ _ _ _ 1048576 _ ((unhide Rd).below (unhide K).1) (by omega) (by omega)).mono ?_
  rintro x w2 ⟨⟨r1, rfl, hl⟩, b⟩
  have S1 : Hid (w1.heap.size ≤ w2.heap.size) := hide b.size
  have K : Hid (Below w.heap.size w w2 ∧ Blk w2 w.heap.size [.int .i64 sn, .slice da1 dl1 dc1]) := hide ((unhide KEPT) _ _ (unhide K) b)
  clear b
  rcases hl with hl | ⟨hl, hle, hd1⟩
  · go_wp2_with fail
    go_ret
    exact ⟨rfl, (unhide K).1⟩
  have nr1 : ¬ r1 < 0 := by omega
  have mPd0 : w2.cell? ⟨w.heap.size, 0, none⟩ = some (.int .i64 sn) := (unhide K).2.c 0 (by simp)
  have mPd1 : w2.cell? ⟨w.heap.size, 1, none⟩ = some (.slice da1 dl1 dc1) := (unhide K).2.c 1 (by simp)
  go_wp2_with fail
  clear mPd0 mPd1
  refine (szLdT _ _ _ _ r1 _ ((unhide Rm).below (unhide K).1) (by omega) (by omega)).mono ?_
  rintro x w3 ⟨⟨r2, rfl, hl⟩, b⟩
  have S2 : Hid (w2.heap.size ≤ w3.heap.size) := hide b.size
  have K : Hid (Below w.heap.size w w3 ∧ Blk w3 w.heap.size [.int .i64 sn, .slice da1 dl1 dc1]) := hide ((unhide KEPT) _ _ (unhide K) b)
  clear b
  rcases hl with hl | ⟨hl, hle, hm1⟩
  · go_wp2_with fail
    go_ret
    exact ⟨rfl, (unhide K).1⟩
  have nr2 : ¬ r2 < 0 := by omega
  have mPd0 : w3.cell? ⟨w.heap.size, 0, none⟩ = some (.int .i64 sn) := (unhide K).2.c 0 (by simp)
  have mPd1 : w3.cell? ⟨w.heap.size, 1, none⟩ = some (.slice da1 dl1 dc1) := (unhide K).2.c 1 (by simp)
  go_wp2_with fail
  clear mPd0 mPd1
  refine (toAboard_own _ _ _ _ _ _ ((unhide Rd).below (unhide K).1) hd1).mono ?_
  rintro x w4 ⟨⟨g3, rfl, oc⟩, b⟩
  have S3 : Hid (w3.heap.size ≤ w4.heap.size) := hide b.size
  have K : Hid (Below w.heap.size w w4 ∧ Blk w4 w.heap.size [.int .i64 sn, .slice da1 dl1 dc1]) := hide ((unhide KEPT) _ _ (unhide K) b)
  have K : Hid (Below w.heap.size w w4 ∧ Blk w4 w.heap.size [.int .i64 sn, .slice da1 dl1 dc1] ∧ AbIs w4 w3.heap.size w4.heap.size (some ⟨g3, 0, none⟩) dl1 dl1 zs) := hide ⟨(unhide K).1, (unhide K).2, oc.is⟩
  clear KEPT oc b
  have KEPT : Hid (∀ W u3, (Below w.heap.size w W ∧ Blk W w.heap.size [.int .i64 sn, .slice da1 dl1 dc1] ∧ AbIs W w3.heap.size w4.heap.size (some ⟨g3, 0, none⟩) dl1 dl1 zs) → Below W.heap.size W u3 → (Below w.heap.size w u3 ∧ Blk u3 w.heap.size [.int .i64 sn, .slice da1 dl1 dc1] ∧ AbIs u3 w3.heap.size w4.heap.size (some ⟨g3, 0, none⟩) dl1 dl1 zs)) := hide (fun W u3 h b => ⟨h.1.trans (b.mono h.1.size), h.2.1.below b, h.2.2.below b⟩)
  have mPd0 : w4.cell? ⟨w.heap.size, 0, none⟩ = some (.int .i64 sn) := (unhide K).2.1.c 0 (by simp)
  have mPd1 : w4.cell? ⟨w.heap.size, 1, none⟩ = some (.slice da1 dl1 dc1) := (unhide K).2.1.c 1 (by simp)
  go_wp2_with fail
  clear mPd0 mPd1
  refine (toLdT _ _ _ _ _ ((unhide Rm).below (unhide K).1) hm1).mono ?_
  rintro x w5 ⟨⟨g4, rfl, oc⟩, b⟩
  have S4 : Hid (w4.heap.size ≤ w5.heap.size) := hide b.size
  have K : Hid (Below w.heap.size w w5 ∧ Blk w5 w.heap.size [.int .i64 sn, .slice da1 dl1 dc1] ∧ AbIs w5 w3.heap.size w4.heap.size (some ⟨g3, 0, none⟩) dl1 dl1 zs) := hide ((unhide KEPT) _ _ (unhide K) b)
  have K : Hid (Below w.heap.size w w5 ∧ Blk w5 w.heap.size [.int .i64 sn, .slice da1 dl1 dc1] ∧ AbIs w5 w3.heap.size w4.heap.size (some ⟨g3, 0, none⟩) dl1 dl1 zs ∧ AbIs w5 w4.heap.size w5.heap.size (some ⟨g4, 0, none⟩) ml1 ml1 ms) := hide ⟨(unhide K).1, (unhide K).2.1, (unhide K).2.2, oc⟩
  clear KEPT oc b
  have KEPT : Hid (∀ W u3, (Below w.heap.size w W ∧ Blk W w.heap.size [.int .i64 sn, .slice da1 dl1 dc1] ∧ AbIs W w3.heap.size w4.heap.size (some ⟨g3, 0, none⟩) dl1 dl1 zs ∧ AbIs W w4.heap.size w5.heap.size (some ⟨g4, 0, none⟩) ml1 ml1 ms) → Below W.heap.size W u3 → (Below w.heap.size w u3 ∧ Blk u3 w.heap.size [.int .i64 sn, .slice da1 dl1 dc1] ∧ AbIs u3 w3.heap.size w4.heap.size (some ⟨g3, 0, none⟩) dl1 dl1 zs ∧ AbIs u3 w4.heap.size w5.heap.size (some ⟨g4, 0, none⟩) ml1 ml1 ms)) := hide (fun W u3 h b => ⟨h.1.trans (b.mono h.1.size), h.2.1.below b, h.2.2.1.below b, h.2.2.2.below b⟩)
  have mPd0 : w5.cell? ⟨w.heap.size, 0, none⟩ = some (.int .i64 sn) := (unhide K).2.1.c 0 (by simp)
  have mPd1 : w5.cell? ⟨w.heap.size, 1, none⟩ = some (.slice da1 dl1 dc1) := (unhide K).2.1.c 1 (by simp)
  go_wp2_with fail
  clear mPd0 mPd1
  refine (specEffL_any _ _ _ _ _ _ _ _ _ _ (unhide K).2.2.1.read (unhide K).2.2.2.read.r1 hd1 hm1).mono ?_
  rintro x w6 ⟨a5, c6, rfl, oW_0, b⟩
  have LW0 : Hid (∀ g, (Value.slice a5 ((efL sn zs ms).length) c6).ownBlock = some g → w5.heap.size ≤ g ∧ g < w6.heap.size) := hide oW_0.lies
  have S5 : Hid (w5.heap.size ≤ w6.heap.size) := hide b.size
  have K : Hid (Below w.heap.size w w6 ∧ Blk w6 w.heap.size [.int .i64 sn, .slice da1 dl1 dc1] ∧ AbIs w6 w3.heap.size w4.heap.size (some ⟨g3, 0, none⟩) dl1 dl1 zs ∧ AbIs w6 w4.heap.size w5.heap.size (some ⟨g4, 0, none⟩) ml1 ml1 ms) := hide ((unhide KEPT) _ _ (unhide K) b)
  have K : Hid (Below w.heap.size w w6 ∧ Blk w6 w.heap.size [.int .i64 sn, .slice da1 dl1 dc1] ∧ AbIs w6 w3.heap.size w4.heap.size (some ⟨g3, 0, none⟩) dl1 dl1 zs ∧ AbIs w6 w4.heap.size w5.heap.size (some ⟨g4, 0, none⟩) ml1 ml1 ms ∧ OwnI w6 w5.heap.size (.slice a5 ((efL sn zs ms).length) c6) (efL sn zs ms)) := hide ⟨(unhide K).1, (unhide K).2.1, (unhide K).2.2.1, (unhide K).2.2.2, oW_0⟩
  clear KEPT
  have KEPT : Hid (∀ W u3, (Below w.heap.size w W ∧ Blk W w.heap.size [.int .i64 sn, .slice da1 dl1 dc1] ∧ AbIs W w3.heap.size w4.heap.size (some ⟨g3, 0, none⟩) dl1 dl1 zs ∧ AbIs W w4.heap.size w5.heap.size (some ⟨g4, 0, none⟩) ml1 ml1 ms ∧ OwnI W w5.heap.size (.slice a5 ((efL sn zs ms).length) c6) (efL sn zs ms)) → Below W.heap.size W u3 → (Below w.heap.size w u3 ∧ Blk u3 w.heap.size [.int .i64 sn, .slice da1 dl1 dc1] ∧ AbIs u3 w3.heap.size w4.heap.size (some ⟨g3, 0, none⟩) dl1 dl1 zs ∧ AbIs u3 w4.heap.size w5.heap.size (some ⟨g4, 0, none⟩) ml1 ml1 ms ∧ OwnI u3 w5.heap.size (.slice a5 ((efL sn zs ms).length) c6) (efL sn zs ms))) := hide (fun W u3 h b => ⟨h.1.trans (b.mono h.1.size), h.2.1.below b, h.2.2.1.below b, h.2.2.2.1.below b, h.2.2.2.2.below b⟩)
  clear oW_0
  clear b
  have K : Hid (Below w.heap.size w w6 ∧ Blk w6 w.heap.size [.int .i64 sn, .slice da1 dl1 dc1] ∧ OwnI w6 w5.heap.size (.slice a5 ((efL sn zs ms).length) c6) (efL sn zs ms)) := hide ⟨(unhide K).1, (unhide K).2.1, (unhide K).2.2.2.2⟩
  clear KEPT
  have KEPT : Hid (∀ W u3, (Below w.heap.size w W ∧ Blk W w.heap.size [.int .i64 sn, .slice da1 dl1 dc1] ∧ OwnI W w5.heap.size (.slice a5 ((efL sn zs ms).length) c6) (efL sn zs ms)) → Below W.heap.size W u3 → (Below w.heap.size w u3 ∧ Blk u3 w.heap.size [.int .i64 sn, .slice da1 dl1 dc1] ∧ OwnI u3 w5.heap.size (.slice a5 ((efL sn zs ms).length) c6) (efL sn zs ms))) := hide (fun W u3 h b => ⟨h.1.trans (b.mono h.1.size), h.2.1.below b, h.2.2.below b⟩)
  have mPd0 : w6.cell? ⟨w.heap.size, 0, none⟩ = some (.int .i64 sn) := (unhide K).2.1.c 0 (by simp)
  have mPd1 : w6.cell? ⟨w.heap.size, 1, none⟩ = some (.slice da1 dl1 dc1) := (unhide K).2.1.c 1 (by simp)
  go_wp2_with fail
  clear mPd0 mPd1
  refine (toAboard_own _ _ _ _ _ _ ((unhide Rd).below (unhide K).1) hd1).mono ?_
  rintro x w7 ⟨⟨g7, rfl, oc⟩, b⟩
  have S6 : Hid (w6.heap.size ≤ w7.heap.size) := hide b.size
  have K : Hid (Below w.heap.size w w7 ∧ Blk w7 w.heap.size [.int .i64 sn, .slice da1 dl1 dc1] ∧ OwnI w7 w5.heap.size (.slice a5 ((efL sn zs ms).length) c6) (efL sn zs ms)) := hide ((unhide KEPT) _ _ (unhide K) b)
  have K : Hid (Below w.heap.size w w7 ∧ Blk w7 w.heap.size [.int .i64 sn, .slice da1 dl1 dc1] ∧ OwnI w7 w5.heap.size (.slice a5 ((efL sn zs ms).length) c6) (efL sn zs ms) ∧ AbIs w7 w6.heap.size w7.heap.size (some ⟨g7, 0, none⟩) dl1 dl1 zs) := hide ⟨(unhide K).1, (unhide K).2.1, (unhide K).2.2, oc.is⟩
  clear KEPT oc b
  have KEPT : Hid (∀ W u3, (Below w.heap.size w W ∧ Blk W w.heap.size [.int .i64 sn, .slice da1 dl1 dc1] ∧ OwnI W w5.heap.size (.slice a5 ((efL sn zs ms).length) c6) (efL sn zs ms) ∧ AbIs W w6.heap.size w7.heap.size (some ⟨g7, 0, none⟩) dl1 dl1 zs) → Below W.heap.size W u3 → (Below w.heap.size w u3 ∧ Blk u3 w.heap.size [.int .i64 sn, .slice da1 dl1 dc1] ∧ OwnI u3 w5.heap.size (.slice a5 ((efL sn zs ms).length) c6) (efL sn zs ms) ∧ AbIs u3 w6.heap.size w7.heap.size (some ⟨g7, 0, none⟩) dl1 dl1 zs)) := hide (fun W u3 h b => ⟨h.1.trans (b.mono h.1.size), h.2.1.below b, h.2.2.1.below b, h.2.2.2.below b⟩)
  obtain ⟨w8, hw8⟩ : ∃ V, V = w7.alloc (Obj.cells #[.int .i64 sn, .slice (some ⟨g7, 0, none⟩) dl1 dl1] 26) := ⟨_, rfl⟩
  have b : Below w7.heap.size w7 w8 := by rw [hw8]; exact bel1 _
  have kx : Blk w8 w7.heap.size [.int .i64 sn, .slice (some ⟨g7, 0, none⟩) dl1 dl1] := by rw [hw8]; exact Blk.new _ _
  have S7 : Hid (w7.heap.size + 1 ≤ w8.heap.size) := hide (by rw [hw8]; simp)
  have S8 : Hid (w7.heap.size ≤ w8.heap.size) := hide b.size
  have K : Hid (Below w.heap.size w w8 ∧ Blk w8 w.heap.size [.int .i64 sn, .slice da1 dl1 dc1] ∧ OwnI w8 w5.heap.size (.slice a5 ((efL sn zs ms).length) c6) (efL sn zs ms) ∧ AbIs w8 w6.heap.size w7.heap.size (some ⟨g7, 0, none⟩) dl1 dl1 zs) := hide ((unhide KEPT) _ _ (unhide K) b)
  have mPd0 : w8.cell? ⟨w.heap.size, 0, none⟩ = some (.int .i64 sn) := (unhide K).2.1.c 0 (by simp)
  have mPd1 : w8.cell? ⟨w.heap.size, 1, none⟩ = some (.slice da1 dl1 dc1) := (unhide K).2.1.c 1 (by simp)
  rw [hw8] at mPd0 mPd1
  obtain ⟨X8, hX8⟩ : ∃ X, w7.heap.size = X := ⟨_, rfl⟩
  rw [hX8] at kx
  have S9 : Hid (w7.heap.size = X8) := hide hX8
  have K : Hid (Below w.heap.size w w8 ∧ Blk w8 w.heap.size [.int .i64 sn, .slice da1 dl1 dc1] ∧ OwnI w8 w5.heap.size (.slice a5 ((efL sn zs ms).length) c6) (efL sn zs ms) ∧ AbIs w8 w6.heap.size w7.heap.size (some ⟨g7, 0, none⟩) dl1 dl1 zs ∧ Blk w8 X8 [.int .i64 sn, .slice (some ⟨g7, 0, none⟩) dl1 dl1]) := hide ⟨(unhide K).1, (unhide K).2.1, (unhide K).2.2.1, (unhide K).2.2.2, kx⟩
  clear KEPT b kx
  have KEPT : Hid (∀ W u3, (Below w.heap.size w W ∧ Blk W w.heap.size [.int .i64 sn, .slice da1 dl1 dc1] ∧ OwnI W w5.heap.size (.slice a5 ((efL sn zs ms).length) c6) (efL sn zs ms) ∧ AbIs W w6.heap.size w7.heap.size (some ⟨g7, 0, none⟩) dl1 dl1 zs ∧ Blk W X8 [.int .i64 sn, .slice (some ⟨g7, 0, none⟩) dl1 dl1]) → Below W.heap.size W u3 → (Below w.heap.size w u3 ∧ Blk u3 w.heap.size [.int .i64 sn, .slice da1 dl1 dc1] ∧ OwnI u3 w5.heap.size (.slice a5 ((efL sn zs ms).length) c6) (efL sn zs ms) ∧ AbIs u3 w6.heap.size w7.heap.size (some ⟨g7, 0, none⟩) dl1 dl1 zs ∧ Blk u3 X8 [.int .i64 sn, .slice (some ⟨g7, 0, none⟩) dl1 dl1])) := hide (fun W u3 h b => ⟨h.1.trans (b.mono h.1.size), h.2.1.below b, h.2.2.1.below b, h.2.2.2.1.below b, h.2.2.2.2.below b⟩)
  have Hw8 := hide hw8
  have HX8 := hide hX8
  clear hw8 hX8
  go_wp2_with fail
  try rw [← unhide Hw8]
  try rw [unhide HX8]
  clear Hw8 HX8 mPd0 mPd1
  refine (toLdT _ _ _ _ _ ((unhide Rm).below (unhide K).1) hm1).mono ?_
  rintro x w9 ⟨⟨g9, rfl, oc⟩, b⟩
  have S10 : Hid (w8.heap.size ≤ w9.heap.size) := hide b.size
  have K : Hid (Below w.heap.size w w9 ∧ Blk w9 w.heap.size [.int .i64 sn, .slice da1 dl1 dc1] ∧ OwnI w9 w5.heap.size (.slice a5 ((efL sn zs ms).length) c6) (efL sn zs ms) ∧ AbIs w9 w6.heap.size w7.heap.size (some ⟨g7, 0, none⟩) dl1 dl1 zs ∧ Blk w9 X8 [.int .i64 sn, .slice (some ⟨g7, 0, none⟩) dl1 dl1]) := hide ((unhide KEPT) _ _ (unhide K) b)
  have K : Hid (Below w.heap.size w w9 ∧ Blk w9 w.heap.size [.int .i64 sn, .slice da1 dl1 dc1] ∧ OwnI w9 w5.heap.size (.slice a5 ((efL sn zs ms).length) c6) (efL sn zs ms) ∧ AbIs w9 w6.heap.size w7.heap.size (some ⟨g7, 0, none⟩) dl1 dl1 zs ∧ Blk w9 X8 [.int .i64 sn, .slice (some ⟨g7, 0, none⟩) dl1 dl1] ∧ AbIs w9 w8.heap.size w9.heap.size (some ⟨g9, 0, none⟩) ml1 ml1 ms) := hide ⟨(unhide K).1, (unhide K).2.1, (unhide K).2.2.1, (unhide K).2.2.2.1, (unhide K).2.2.2.2, oc⟩
  clear KEPT oc b
  have KEPT : Hid (∀ W u3, (Below w.heap.size w W ∧ Blk W w.heap.size [.int .i64 sn, .slice da1 dl1 dc1] ∧ OwnI W w5.heap.size (.slice a5 ((efL sn zs ms).length) c6) (efL sn zs ms) ∧ AbIs W w6.heap.size w7.heap.size (some ⟨g7, 0, none⟩) dl1 dl1 zs ∧ Blk W X8 [.int .i64 sn, .slice (some ⟨g7, 0, none⟩) dl1 dl1] ∧ AbIs W w8.heap.size w9.heap.size (some ⟨g9, 0, none⟩) ml1 ml1 ms) → Below W.heap.size W u3 → (Below w.heap.size w u3 ∧ Blk u3 w.heap.size [.int .i64 sn, .slice da1 dl1 dc1] ∧ OwnI u3 w5.heap.size (.slice a5 ((efL sn zs ms).length) c6) (efL sn zs ms) ∧ AbIs u3 w6.heap.size w7.heap.size (some ⟨g7, 0, none⟩) dl1 dl1 zs ∧ Blk u3 X8 [.int .i64 sn, .slice (some ⟨g7, 0, none⟩) dl1 dl1] ∧ AbIs u3 w8.heap.size w9.heap.size (some ⟨g9, 0, none⟩) ml1 ml1 ms)) := hide (fun W u3 h b => ⟨h.1.trans (b.mono h.1.size), h.2.1.below b, h.2.2.1.below b, h.2.2.2.1.below b, h.2.2.2.2.1.below b, h.2.2.2.2.2.below b⟩)
  have mPd0 : w9.cell? ⟨w.heap.size, 0, none⟩ = some (.int .i64 sn) := (unhide K).2.1.c 0 (by simp)
  have mPd1 : w9.cell? ⟨w.heap.size, 1, none⟩ = some (.slice da1 dl1 dc1) := (unhide K).2.1.c 1 (by simp)
  have mQXx00 : w9.cell? ⟨X8, 0, none⟩ = some (.int .i64 sn) := (unhide K).2.2.2.2.1.c 0 (by simp)
  have mQXx01 : w9.cell? ⟨X8, 1, none⟩ = some (.slice (some ⟨g7, 0, none⟩) dl1 dl1) := (unhide K).2.2.2.2.1.c 1 (by simp)
  go_wp2_with fail
  clear mPd0 mPd1 mQXx00 mQXx01
  refine (implEffL_any _ _ _ _ _ _ _ _ _ _ (unhide K).2.2.2.1.read (unhide K).2.2.2.2.2.read.r1 ((unhide HGS).below (unhide K).1)).mono ?_
  rintro x w10 ⟨a10, c11, rfl, oG_0, b⟩
  have LG0 : Hid (∀ g, (Value.slice a10 ((efL sn zs ms).length) c11).ownBlock = some g → w9.heap.size ≤ g ∧ g < w10.heap.size) := hide oG_0.lies
  have S11 : Hid (w9.heap.size ≤ w10.heap.size) := hide b.size
  have K : Hid (Below w.heap.size w w10 ∧ Blk w10 w.heap.size [.int .i64 sn, .slice da1 dl1 dc1] ∧ OwnI w10 w5.heap.size (.slice a5 ((efL sn zs ms).length) c6) (efL sn zs ms) ∧ AbIs w10 w6.heap.size w7.heap.size (some ⟨g7, 0, none⟩) dl1 dl1 zs ∧ Blk w10 X8 [.int .i64 sn, .slice (some ⟨g7, 0, none⟩) dl1 dl1] ∧ AbIs w10 w8.heap.size w9.heap.size (some ⟨g9, 0, none⟩) ml1 ml1 ms) := hide ((unhide KEPT) _ _ (unhide K) b)
  have K : Hid (Below w.heap.size w w10 ∧ Blk w10 w.heap.size [.int .i64 sn, .slice da1 dl1 dc1] ∧ OwnI w10 w5.heap.size (.slice a5 ((efL sn zs ms).length) c6) (efL sn zs ms) ∧ AbIs w10 w6.heap.size w7.heap.size (some ⟨g7, 0, none⟩) dl1 dl1 zs ∧ Blk w10 X8 [.int .i64 sn, .slice (some ⟨g7, 0, none⟩) dl1 dl1] ∧ AbIs w10 w8.heap.size w9.heap.size (some ⟨g9, 0, none⟩) ml1 ml1 ms ∧ OwnI w10 w9.heap.size (.slice a10 ((efL sn zs ms).length) c11) (efL sn zs ms)) := hide ⟨(unhide K).1, (unhide K).2.1, (unhide K).2.2.1, (unhide K).2.2.2.1, (unhide K).2.2.2.2.1, (unhide K).2.2.2.2.2, oG_0⟩
  clear KEPT
  have KEPT : Hid (∀ W u3, (Below w.heap.size w W ∧ Blk W w.heap.size [.int .i64 sn, .slice da1 dl1 dc1] ∧ OwnI W w5.heap.size (.slice a5 ((efL sn zs ms).length) c6) (efL sn zs ms) ∧ AbIs W w6.heap.size w7.heap.size (some ⟨g7, 0, none⟩) dl1 dl1 zs ∧ Blk W X8 [.int .i64 sn, .slice (some ⟨g7, 0, none⟩) dl1 dl1] ∧ AbIs W w8.heap.size w9.heap.size (some ⟨g9, 0, none⟩) ml1 ml1 ms ∧ OwnI W w9.heap.size (.slice a10 ((efL sn zs ms).length) c11) (efL sn zs ms)) → Below W.heap.size W u3 → (Below w.heap.size w u3 ∧ Blk u3 w.heap.size [.int .i64 sn, .slice da1 dl1 dc1] ∧ OwnI u3 w5.heap.size (.slice a5 ((efL sn zs ms).length) c6) (efL sn zs ms) ∧ AbIs u3 w6.heap.size w7.heap.size (some ⟨g7, 0, none⟩) dl1 dl1 zs ∧ Blk u3 X8 [.int .i64 sn, .slice (some ⟨g7, 0, none⟩) dl1 dl1] ∧ AbIs u3 w8.heap.size w9.heap.size (some ⟨g9, 0, none⟩) ml1 ml1 ms ∧ OwnI u3 w9.heap.size (.slice a10 ((efL sn zs ms).length) c11) (efL sn zs ms))) := hide (fun W u3 h b => ⟨h.1.trans (b.mono h.1.size), h.2.1.below b, h.2.2.1.below b, h.2.2.2.1.below b, h.2.2.2.2.1.below b, h.2.2.2.2.2.1.below b, h.2.2.2.2.2.2.below b⟩)
  clear oG_0
  clear b
  have mPd0 : w10.cell? ⟨w.heap.size, 0, none⟩ = some (.int .i64 sn) := (unhide K).2.1.c 0 (by simp)
  have mPd1 : w10.cell? ⟨w.heap.size, 1, none⟩ = some (.slice da1 dl1 dc1) := (unhide K).2.1.c 1 (by simp)
  have mQXx00 : w10.cell? ⟨X8, 0, none⟩ = some (.int .i64 sn) := (unhide K).2.2.2.2.1.c 0 (by simp)
  have mQXx01 : w10.cell? ⟨X8, 1, none⟩ = some (.slice (some ⟨g7, 0, none⟩) dl1 dl1) := (unhide K).2.2.2.2.1.c 1 (by simp)
  go_wp2_with fail
  clear mPd0 mPd1 mQXx00 mQXx01
  refine (eqIntS_same _ _ _ _ _ _ _ _ (unhide K).2.2.2.2.2.2.row (unhide K).2.2.1.row).mono ?_
  rintro x w11 ⟨rfl, b⟩
  have S12 : Hid (w10.heap.size ≤ w11.heap.size) := hide b.size
  have K : Hid (Below w.heap.size w w11 ∧ Blk w11 w.heap.size [.int .i64 sn, .slice da1 dl1 dc1] ∧ OwnI w11 w5.heap.size (.slice a5 ((efL sn zs ms).length) c6) (efL sn zs ms) ∧ AbIs w11 w6.heap.size w7.heap.size (some ⟨g7, 0, none⟩) dl1 dl1 zs ∧ Blk w11 X8 [.int .i64 sn, .slice (some ⟨g7, 0, none⟩) dl1 dl1] ∧ AbIs w11 w8.heap.size w9.heap.size (some ⟨g9, 0, none⟩) ml1 ml1 ms ∧ OwnI w11 w9.heap.size (.slice a10 ((efL sn zs ms).length) c11) (efL sn zs ms)) := hide ((unhide KEPT) _ _ (unhide K) b)
  clear b
  have mPd0 : w11.cell? ⟨w.heap.size, 0, none⟩ = some (.int .i64 sn) := (unhide K).2.1.c 0 (by simp)
  have mPd1 : w11.cell? ⟨w.heap.size, 1, none⟩ = some (.slice da1 dl1 dc1) := (unhide K).2.1.c 1 (by simp)
  have mQXx00 : w11.cell? ⟨X8, 0, none⟩ = some (.int .i64 sn) := (unhide K).2.2.2.2.1.c 0 (by simp)
  have mQXx01 : w11.cell? ⟨X8, 1, none⟩ = some (.slice (some ⟨g7, 0, none⟩) dl1 dl1) := (unhide K).2.2.2.2.1.c 1 (by simp)
  go_wp2_with fail
  clear mPd0 mPd1 mQXx00 mQXx01
  have mQXx00 : w11.cell? ⟨X8, 0, none⟩ = some (.int .i64 sn) := (unhide K).2.2.2.2.1.c 0 (by simp)
  have mQXx01 : w11.cell? ⟨X8, 1, none⟩ = some (.slice (some ⟨g7, 0, none⟩) dl1 dl1) := (unhide K).2.2.2.2.1.c 1 (by simp)
  have mPd0 : w11.cell? ⟨w.heap.size, 0, none⟩ = some (.int .i64 sn) := (unhide K).2.1.c 0 (by simp)
  have mPd1 : w11.cell? ⟨w.heap.size, 1, none⟩ = some (.slice da1 dl1 dc1) := (unhide K).2.1.c 1 (by simp)
  go_region_held3 (fun w' => w'.cell? ⟨X8, 0, none⟩ = some (.int .i64 sn) ∧ w'.cell? ⟨X8, 1, none⟩ = some (.slice (some ⟨g7, 0, none⟩) dl1 dl1) ∧ w'.cell? ⟨w.heap.size, 0, none⟩ = some (.int .i64 sn) ∧ w'.cell? ⟨w.heap.size, 1, none⟩ = some (.slice da1 dl1 dc1)) (go_keep)
    ((first
      | (go_at_call 18; refine (toAboard_own _ _ _ _ _ _ (by first | exact (unhide Rd).below (unhide K).1 | exact ((unhide Rd).below (unhide K).1).below (bel0d 1)) hd1).mono ?_; rintro x w12 ⟨⟨e12, rfl, oc⟩, b⟩; have IC := hide oc.read; clear oc; have S13 : Hid (w11.heap.size ≤ w12.heap.size) := hide b.size; have K := hide (show Below w.heap.size w w12 ∧ Blk w12 w.heap.size [.int .i64 sn, .slice da1 dl1 dc1] ∧ OwnI w12 w5.heap.size (.slice a5 ((efL sn zs ms).length) c6) (efL sn zs ms) ∧ AbIs w12 w6.heap.size w7.heap.size (some ⟨g7, 0, none⟩) dl1 dl1 zs ∧ Blk w12 X8 [.int .i64 sn, .slice (some ⟨g7, 0, none⟩) dl1 dl1] ∧ AbIs w12 w8.heap.size w9.heap.size (some ⟨g9, 0, none⟩) ml1 ml1 ms ∧ OwnI w12 w9.heap.size (.slice a10 ((efL sn zs ms).length) c11) (efL sn zs ms) from by first | exact (unhide KEPT) _ _ (unhide K) b | exact (unhide KEPT) _ _ ((unhide KEPT) _ _ (unhide K) (bel0d 1)) b); clear mQXx00 mQXx01 mPd0 mPd1; have mQXx00 : w12.cell? ⟨X8, 0, none⟩ = some (.int .i64 sn) := (unhide K).2.2.2.2.1.c 0 (by simp); have mQXx01 : w12.cell? ⟨X8, 1, none⟩ = some (.slice (some ⟨g7, 0, none⟩) dl1 dl1) := (unhide K).2.2.2.2.1.c 1 (by simp); have mPd0 : w12.cell? ⟨w.heap.size, 0, none⟩ = some (.int .i64 sn) := (unhide K).2.1.c 0 (by simp); have mPd1 : w12.cell? ⟨w.heap.size, 1, none⟩ = some (.slice da1 dl1 dc1) := (unhide K).2.1.c 1 (by simp); clear b)
      | (go_at_call 20; refine (eqAboard_same _ _ _ _ _ _ _ _ (by first | exact (unhide K).2.2.2.1.read | exact (unhide K).2.2.2.1.read.below (bel0d 1)) (by first | exact unhide IC | exact (unhide IC).below (bel0d 1))).mono ?_; rintro x w13 ⟨rfl, b⟩; clear IC; have S14 : Hid (w12.heap.size ≤ w13.heap.size) := hide b.size; have K := hide (show Below w.heap.size w w13 ∧ Blk w13 w.heap.size [.int .i64 sn, .slice da1 dl1 dc1] ∧ OwnI w13 w5.heap.size (.slice a5 ((efL sn zs ms).length) c6) (efL sn zs ms) ∧ AbIs w13 w6.heap.size w7.heap.size (some ⟨g7, 0, none⟩) dl1 dl1 zs ∧ Blk w13 X8 [.int .i64 sn, .slice (some ⟨g7, 0, none⟩) dl1 dl1] ∧ AbIs w13 w8.heap.size w9.heap.size (some ⟨g9, 0, none⟩) ml1 ml1 ms ∧ OwnI w13 w9.heap.size (.slice a10 ((efL sn zs ms).length) c11) (efL sn zs ms) from by first | exact (unhide KEPT) _ _ (unhide K) b | exact (unhide KEPT) _ _ ((unhide KEPT) _ _ (unhide K) (bel0d 1)) b); clear mQXx00 mQXx01 mPd0 mPd1; have mQXx00 : w13.cell? ⟨X8, 0, none⟩ = some (.int .i64 sn) := (unhide K).2.2.2.2.1.c 0 (by simp); have mQXx01 : w13.cell? ⟨X8, 1, none⟩ = some (.slice (some ⟨g7, 0, none⟩) dl1 dl1) := (unhide K).2.2.2.2.1.c 1 (by simp); have mPd0 : w13.cell? ⟨w.heap.size, 0, none⟩ = some (.int .i64 sn) := (unhide K).2.1.c 0 (by simp); have mPd1 : w13.cell? ⟨w.heap.size, 1, none⟩ = some (.slice da1 dl1 dc1) := (unhide K).2.1.c 1 (by simp); clear b)))
  clear mQXx00 mQXx01 mPd0 mPd1
  have mPd0 : w13.cell? ⟨w.heap.size, 0, none⟩ = some (.int .i64 sn) := (unhide K).2.1.c 0 (by simp)
  have mPd1 : w13.cell? ⟨w.heap.size, 1, none⟩ = some (.slice da1 dl1 dc1) := (unhide K).2.1.c 1 (by simp)
  have mQXx00 : w13.cell? ⟨X8, 0, none⟩ = some (.int .i64 sn) := (unhide K).2.2.2.2.1.c 0 (by simp)
  have mQXx01 : w13.cell? ⟨X8, 1, none⟩ = some (.slice (some ⟨g7, 0, none⟩) dl1 dl1) := (unhide K).2.2.2.2.1.c 1 (by simp)
  go_wp2_with fail
  clear mPd0 mPd1 mQXx00 mQXx01
  refine (toLdT _ _ _ _ _ ((unhide Rm).below (unhide K).1) hm1).mono ?_
  rintro x w14 ⟨⟨g13, rfl, oc⟩, b⟩
  have IC := hide oc.read.r1
  have S15 : Hid (w13.heap.size ≤ w14.heap.size) := hide b.size
  have K : Hid (Below w.heap.size w w14 ∧ Blk w14 w.heap.size [.int .i64 sn, .slice da1 dl1 dc1] ∧ OwnI w14 w5.heap.size (.slice a5 ((efL sn zs ms).length) c6) (efL sn zs ms) ∧ AbIs w14 w6.heap.size w7.heap.size (some ⟨g7, 0, none⟩) dl1 dl1 zs ∧ Blk w14 X8 [.int .i64 sn, .slice (some ⟨g7, 0, none⟩) dl1 dl1] ∧ AbIs w14 w8.heap.size w9.heap.size (some ⟨g9, 0, none⟩) ml1 ml1 ms ∧ OwnI w14 w9.heap.size (.slice a10 ((efL sn zs ms).length) c11) (efL sn zs ms)) := hide ((unhide KEPT) _ _ (unhide K) b)
  clear oc b
  have mPd0 : w14.cell? ⟨w.heap.size, 0, none⟩ = some (.int .i64 sn) := (unhide K).2.1.c 0 (by simp)
  have mPd1 : w14.cell? ⟨w.heap.size, 1, none⟩ = some (.slice da1 dl1 dc1) := (unhide K).2.1.c 1 (by simp)
  have mQXx00 : w14.cell? ⟨X8, 0, none⟩ = some (.int .i64 sn) := (unhide K).2.2.2.2.1.c 0 (by simp)
  have mQXx01 : w14.cell? ⟨X8, 1, none⟩ = some (.slice (some ⟨g7, 0, none⟩) dl1 dl1) := (unhide K).2.2.2.2.1.c 1 (by simp)
  go_wp2_with fail
  clear mPd0 mPd1 mQXx00 mQXx01
  refine (eqLdT _ _ _ _ _ _ _ _ (unhide K).2.2.2.2.2.1.read.r1 (unhide IC)).mono ?_
  rintro x w15 ⟨rfl, b⟩
  have S16 : Hid (w14.heap.size ≤ w15.heap.size) := hide b.size
  have K : Hid (Below w.heap.size w w15 ∧ Blk w15 w.heap.size [.int .i64 sn, .slice da1 dl1 dc1] ∧ OwnI w15 w5.heap.size (.slice a5 ((efL sn zs ms).length) c6) (efL sn zs ms) ∧ AbIs w15 w6.heap.size w7.heap.size (some ⟨g7, 0, none⟩) dl1 dl1 zs ∧ Blk w15 X8 [.int .i64 sn, .slice (some ⟨g7, 0, none⟩) dl1 dl1] ∧ AbIs w15 w8.heap.size w9.heap.size (some ⟨g9, 0, none⟩) ml1 ml1 ms ∧ OwnI w15 w9.heap.size (.slice a10 ((efL sn zs ms).length) c11) (efL sn zs ms)) := hide ((unhide KEPT) _ _ (unhide K) b)
  clear b IC
  have mPd0 : w15.cell? ⟨w.heap.size, 0, none⟩ = some (.int .i64 sn) := (unhide K).2.1.c 0 (by simp)
  have mPd1 : w15.cell? ⟨w.heap.size, 1, none⟩ = some (.slice da1 dl1 dc1) := (unhide K).2.1.c 1 (by simp)
  have mQXx00 : w15.cell? ⟨X8, 0, none⟩ = some (.int .i64 sn) := (unhide K).2.2.2.2.1.c 0 (by simp)
  have mQXx01 : w15.cell? ⟨X8, 1, none⟩ = some (.slice (some ⟨g7, 0, none⟩) dl1 dl1) := (unhide K).2.2.2.2.1.c 1 (by simp)
  go_wp2_with fail
  clear mPd0 mPd1 mQXx00 mQXx01
  refine (markAboard_own _ _ _ _ _ 1 _ _ _ (unhide K).2.2.2.1 hd1 (by omega) (by omega)).mono ?_
  rintro x w16 ⟨rfl, om, on⟩
  have kb16 := kZ_bd hd1 1
  have S17 : Hid (w15.heap.size ≤ w16.heap.size) := hide on.size
  have K : Hid (Below w.heap.size w w16 ∧ Blk w16 w.heap.size [.int .i64 sn, .slice da1 dl1 dc1] ∧ OwnI w16 w5.heap.size (.slice a5 ((efL sn zs ms).length) c6) (efL sn zs ms) ∧ Blk w16 X8 [.int .i64 sn, .slice (some ⟨g7, 0, none⟩) dl1 dl1] ∧ AbIs w16 w8.heap.size w9.heap.size (some ⟨g9, 0, none⟩) ml1 ml1 ms ∧ OwnI w16 w9.heap.size (.slice a10 ((efL sn zs ms).length) c11) (efL sn zs ms)) := hide ⟨below_only (unhide K).1 on (by have s0 := unhide S0; have s1 := unhide S1; have s2 := unhide S2; have s3 := unhide S3; have s4 := unhide S4; have s5 := unhide S5; have s6 := unhide S6; have s7 := unhide S7; have s8 := unhide S8; have s9 := unhide S9; have s10 := unhide S10; have s11 := unhide S11; have s12 := unhide S12; have s13 := unhide S13; have s14 := unhide S14; have s15 := unhide S15; have s16 := unhide S16; have s17 := unhide S17; omega) (Nat.le_refl _), (unhide K).2.1.only on (by have s0 := unhide S0; have s1 := unhide S1; have s2 := unhide S2; have s3 := unhide S3; have s4 := unhide S4; have s5 := unhide S5; have s6 := unhide S6; have s7 := unhide S7; have s8 := unhide S8; have s9 := unhide S9; have s10 := unhide S10; have s11 := unhide S11; have s12 := unhide S12; have s13 := unhide S13; have s14 := unhide S14; have s15 := unhide S15; have s16 := unhide S16; have s17 := unhide S17; omega), (unhide K).2.2.1.only on (fun g hg => by have := (unhide LW0) g hg; have s0 := unhide S0; have s1 := unhide S1; have s2 := unhide S2; have s3 := unhide S3; have s4 := unhide S4; have s5 := unhide S5; have s6 := unhide S6; have s7 := unhide S7; have s8 := unhide S8; have s9 := unhide S9; have s10 := unhide S10; have s11 := unhide S11; have s12 := unhide S12; have s13 := unhide S13; have s14 := unhide S14; have s15 := unhide S15; have s16 := unhide S16; have s17 := unhide S17; omega), (unhide K).2.2.2.2.1.only on (by have s0 := unhide S0; have s1 := unhide S1; have s2 := unhide S2; have s3 := unhide S3; have s4 := unhide S4; have s5 := unhide S5; have s6 := unhide S6; have s7 := unhide S7; have s8 := unhide S8; have s9 := unhide S9; have s10 := unhide S10; have s11 := unhide S11; have s12 := unhide S12; have s13 := unhide S13; have s14 := unhide S14; have s15 := unhide S15; have s16 := unhide S16; have s17 := unhide S17; omega), (unhide K).2.2.2.2.2.1.only on (by have s0 := unhide S0; have s1 := unhide S1; have s2 := unhide S2; have s3 := unhide S3; have s4 := unhide S4; have s5 := unhide S5; have s6 := unhide S6; have s7 := unhide S7; have s8 := unhide S8; have s9 := unhide S9; have s10 := unhide S10; have s11 := unhide S11; have s12 := unhide S12; have s13 := unhide S13; have s14 := unhide S14; have s15 := unhide S15; have s16 := unhide S16; have s17 := unhide S17; omega), (unhide K).2.2.2.2.2.2.only on (fun g hg => by have := (unhide LG0) g hg; have s0 := unhide S0; have s1 := unhide S1; have s2 := unhide S2; have s3 := unhide S3; have s4 := unhide S4; have s5 := unhide S5; have s6 := unhide S6; have s7 := unhide S7; have s8 := unhide S8; have s9 := unhide S9; have s10 := unhide S10; have s11 := unhide S11; have s12 := unhide S12; have s13 := unhide S13; have s14 := unhide S14; have s15 := unhide S15; have s16 := unhide S16; have s17 := unhide S17; omega)⟩
  clear KEPT om on
  have KEPT : Hid (∀ W u3, (Below w.heap.size w W ∧ Blk W w.heap.size [.int .i64 sn, .slice da1 dl1 dc1] ∧ OwnI W w5.heap.size (.slice a5 ((efL sn zs ms).length) c6) (efL sn zs ms) ∧ Blk W X8 [.int .i64 sn, .slice (some ⟨g7, 0, none⟩) dl1 dl1] ∧ AbIs W w8.heap.size w9.heap.size (some ⟨g9, 0, none⟩) ml1 ml1 ms ∧ OwnI W w9.heap.size (.slice a10 ((efL sn zs ms).length) c11) (efL sn zs ms)) → Below W.heap.size W u3 → (Below w.heap.size w u3 ∧ Blk u3 w.heap.size [.int .i64 sn, .slice da1 dl1 dc1] ∧ OwnI u3 w5.heap.size (.slice a5 ((efL sn zs ms).length) c6) (efL sn zs ms) ∧ Blk u3 X8 [.int .i64 sn, .slice (some ⟨g7, 0, none⟩) dl1 dl1] ∧ AbIs u3 w8.heap.size w9.heap.size (some ⟨g9, 0, none⟩) ml1 ml1 ms ∧ OwnI u3 w9.heap.size (.slice a10 ((efL sn zs ms).length) c11) (efL sn zs ms))) := hide (fun W u3 h b => ⟨h.1.trans (b.mono h.1.size), h.2.1.below b, h.2.2.1.below b, h.2.2.2.1.below b, h.2.2.2.2.1.below b, h.2.2.2.2.2.below b⟩)
  have nk16 : ¬ (kZ zs 1 < 0) := by omega
  have mPd0 : w16.cell? ⟨w.heap.size, 0, none⟩ = some (.int .i64 sn) := (unhide K).2.1.c 0 (by simp)
  have mPd1 : w16.cell? ⟨w.heap.size, 1, none⟩ = some (.slice da1 dl1 dc1) := (unhide K).2.1.c 1 (by simp)
  have mQXx00 : w16.cell? ⟨X8, 0, none⟩ = some (.int .i64 sn) := (unhide K).2.2.2.1.c 0 (by simp)
  have mQXx01 : w16.cell? ⟨X8, 1, none⟩ = some (.slice (some ⟨g7, 0, none⟩) dl1 dl1) := (unhide K).2.2.2.1.c 1 (by simp)
  go_wp2_with fail
  clear mPd0 mPd1 mQXx00 mQXx01
  refine (markLdT _ _ _ _ (kZ zs 1) _ _ _ (unhide K).2.2.2.2.1 hm1 (by omega) (by omega)).mono ?_
  rintro x w17 ⟨rfl, om, on⟩
  have kb17 := kZ_bd hm1 (kZ zs 1)
  have S18 : Hid (w16.heap.size ≤ w17.heap.size) := hide on.size
  have K : Hid (Below w.heap.size w w17 ∧ Blk w17 w.heap.size [.int .i64 sn, .slice da1 dl1 dc1] ∧ OwnI w17 w5.heap.size (.slice a5 ((efL sn zs ms).length) c6) (efL sn zs ms) ∧ Blk w17 X8 [.int .i64 sn, .slice (some ⟨g7, 0, none⟩) dl1 dl1] ∧ OwnI w17 w9.heap.size (.slice a10 ((efL sn zs ms).length) c11) (efL sn zs ms)) := hide ⟨below_only (unhide K).1 on (by have s0 := unhide S0; have s1 := unhide S1; have s2 := unhide S2; have s3 := unhide S3; have s4 := unhide S4; have s5 := unhide S5; have s6 := unhide S6; have s7 := unhide S7; have s8 := unhide S8; have s9 := unhide S9; have s10 := unhide S10; have s11 := unhide S11; have s12 := unhide S12; have s13 := unhide S13; have s14 := unhide S14; have s15 := unhide S15; have s16 := unhide S16; have s17 := unhide S17; have s18 := unhide S18; omega) (Nat.le_refl _), (unhide K).2.1.only on (by have s0 := unhide S0; have s1 := unhide S1; have s2 := unhide S2; have s3 := unhide S3; have s4 := unhide S4; have s5 := unhide S5; have s6 := unhide S6; have s7 := unhide S7; have s8 := unhide S8; have s9 := unhide S9; have s10 := unhide S10; have s11 := unhide S11; have s12 := unhide S12; have s13 := unhide S13; have s14 := unhide S14; have s15 := unhide S15; have s16 := unhide S16; have s17 := unhide S17; have s18 := unhide S18; omega), (unhide K).2.2.1.only on (fun g hg => by have := (unhide LW0) g hg; have s0 := unhide S0; have s1 := unhide S1; have s2 := unhide S2; have s3 := unhide S3; have s4 := unhide S4; have s5 := unhide S5; have s6 := unhide S6; have s7 := unhide S7; have s8 := unhide S8; have s9 := unhide S9; have s10 := unhide S10; have s11 := unhide S11; have s12 := unhide S12; have s13 := unhide S13; have s14 := unhide S14; have s15 := unhide S15; have s16 := unhide S16; have s17 := unhide S17; have s18 := unhide S18; omega), (unhide K).2.2.2.1.only on (by have s0 := unhide S0; have s1 := unhide S1; have s2 := unhide S2; have s3 := unhide S3; have s4 := unhide S4; have s5 := unhide S5; have s6 := unhide S6; have s7 := unhide S7; have s8 := unhide S8; have s9 := unhide S9; have s10 := unhide S10; have s11 := unhide S11; have s12 := unhide S12; have s13 := unhide S13; have s14 := unhide S14; have s15 := unhide S15; have s16 := unhide S16; have s17 := unhide S17; have s18 := unhide S18; omega), (unhide K).2.2.2.2.2.only on (fun g hg => by have := (unhide LG0) g hg; have s0 := unhide S0; have s1 := unhide S1; have s2 := unhide S2; have s3 := unhide S3; have s4 := unhide S4; have s5 := unhide S5; have s6 := unhide S6; have s7 := unhide S7; have s8 := unhide S8; have s9 := unhide S9; have s10 := unhide S10; have s11 := unhide S11; have s12 := unhide S12; have s13 := unhide S13; have s14 := unhide S14; have s15 := unhide S15; have s16 := unhide S16; have s17 := unhide S17; have s18 := unhide S18; omega)⟩
  clear KEPT om on
  have KEPT : Hid (∀ W u3, (Below w.heap.size w W ∧ Blk W w.heap.size [.int .i64 sn, .slice da1 dl1 dc1] ∧ OwnI W w5.heap.size (.slice a5 ((efL sn zs ms).length) c6) (efL sn zs ms) ∧ Blk W X8 [.int .i64 sn, .slice (some ⟨g7, 0, none⟩) dl1 dl1] ∧ OwnI W w9.heap.size (.slice a10 ((efL sn zs ms).length) c11) (efL sn zs ms)) → Below W.heap.size W u3 → (Below w.heap.size w u3 ∧ Blk u3 w.heap.size [.int .i64 sn, .slice da1 dl1 dc1] ∧ OwnI u3 w5.heap.size (.slice a5 ((efL sn zs ms).length) c6) (efL sn zs ms) ∧ Blk u3 X8 [.int .i64 sn, .slice (some ⟨g7, 0, none⟩) dl1 dl1] ∧ OwnI u3 w9.heap.size (.slice a10 ((efL sn zs ms).length) c11) (efL sn zs ms))) := hide (fun W u3 h b => ⟨h.1.trans (b.mono h.1.size), h.2.1.below b, h.2.2.1.below b, h.2.2.2.1.below b, h.2.2.2.2.below b⟩)
  have nk17 : ¬ (kZ ms (kZ zs 1) < 0) := by omega
  have mPd0 : w17.cell? ⟨w.heap.size, 0, none⟩ = some (.int .i64 sn) := (unhide K).2.1.c 0 (by simp)
  have mPd1 : w17.cell? ⟨w.heap.size, 1, none⟩ = some (.slice da1 dl1 dc1) := (unhide K).2.1.c 1 (by simp)
  have mQXx00 : w17.cell? ⟨X8, 0, none⟩ = some (.int .i64 sn) := (unhide K).2.2.2.1.c 0 (by simp)
  have mQXx01 : w17.cell? ⟨X8, 1, none⟩ = some (.slice (some ⟨g7, 0, none⟩) dl1 dl1) := (unhide K).2.2.2.1.c 1 (by simp)
  go_wp2_with fail
  clear mPd0 mPd1 mQXx00 mQXx01
  refine (eqIntS_same _ _ _ _ _ _ _ _ (unhide K).2.2.2.2.row (unhide K).2.2.1.row).mono ?_
  rintro x w18 ⟨rfl, b⟩
  have S19 : Hid (w17.heap.size ≤ w18.heap.size) := hide b.size
  have K : Hid (Below w.heap.size w w18 ∧ Blk w18 w.heap.size [.int .i64 sn, .slice da1 dl1 dc1] ∧ OwnI w18 w5.heap.size (.slice a5 ((efL sn zs ms).length) c6) (efL sn zs ms) ∧ Blk w18 X8 [.int .i64 sn, .slice (some ⟨g7, 0, none⟩) dl1 dl1] ∧ OwnI w18 w9.heap.size (.slice a10 ((efL sn zs ms).length) c11) (efL sn zs ms)) := hide ((unhide KEPT) _ _ (unhide K) b)
  clear b
  have mPd0 : w18.cell? ⟨w.heap.size, 0, none⟩ = some (.int .i64 sn) := (unhide K).2.1.c 0 (by simp)
  have mPd1 : w18.cell? ⟨w.heap.size, 1, none⟩ = some (.slice da1 dl1 dc1) := (unhide K).2.1.c 1 (by simp)
  have mQXx00 : w18.cell? ⟨X8, 0, none⟩ = some (.int .i64 sn) := (unhide K).2.2.2.1.c 0 (by simp)
  have mQXx01 : w18.cell? ⟨X8, 1, none⟩ = some (.slice (some ⟨g7, 0, none⟩) dl1 dl1) := (unhide K).2.2.2.1.c 1 (by simp)
  go_wp2_with fail
  clear mPd0 mPd1 mQXx00 mQXx01
  refine (markIntS_own _ _ _ _ _ 1 _ (unhide K).2.2.2.2 (rfl) (by have := hsm; omega) (by omega) (by omega)).mono ?_
  rintro x w19 ⟨rfl, om, gr⟩
  have on := Only.of_row (lo := w9.heap.size) (hi := w10.heap.size) gr (unhide LG0)
  have S20 : Hid (w18.heap.size ≤ w19.heap.size) := hide on.size
  have K : Hid (Below w.heap.size w w19 ∧ Blk w19 w.heap.size [.int .i64 sn, .slice da1 dl1 dc1] ∧ OwnI w19 w5.heap.size (.slice a5 ((efL sn zs ms).length) c6) (efL sn zs ms) ∧ Blk w19 X8 [.int .i64 sn, .slice (some ⟨g7, 0, none⟩) dl1 dl1] ∧ OwnI w19 w9.heap.size (.slice a10 ((efL sn zs ms).length) c11) (markI (efL sn zs ms) 1 ((efL sn zs ms).length))) := hide ⟨below_only (unhide K).1 on (by have s0 := unhide S0; have s1 := unhide S1; have s2 := unhide S2; have s3 := unhide S3; have s4 := unhide S4; have s5 := unhide S5; have s6 := unhide S6; have s7 := unhide S7; have s8 := unhide S8; have s9 := unhide S9; have s10 := unhide S10; have s11 := unhide S11; have s12 := unhide S12; have s13 := unhide S13; have s14 := unhide S14; have s15 := unhide S15; have s16 := unhide S16; have s17 := unhide S17; have s18 := unhide S18; have s19 := unhide S19; have s20 := unhide S20; omega) (Nat.le_refl _), (unhide K).2.1.only on (by have s0 := unhide S0; have s1 := unhide S1; have s2 := unhide S2; have s3 := unhide S3; have s4 := unhide S4; have s5 := unhide S5; have s6 := unhide S6; have s7 := unhide S7; have s8 := unhide S8; have s9 := unhide S9; have s10 := unhide S10; have s11 := unhide S11; have s12 := unhide S12; have s13 := unhide S13; have s14 := unhide S14; have s15 := unhide S15; have s16 := unhide S16; have s17 := unhide S17; have s18 := unhide S18; have s19 := unhide S19; have s20 := unhide S20; omega), (unhide K).2.2.1.only on (fun g hg => by have := (unhide LW0) g hg; have s0 := unhide S0; have s1 := unhide S1; have s2 := unhide S2; have s3 := unhide S3; have s4 := unhide S4; have s5 := unhide S5; have s6 := unhide S6; have s7 := unhide S7; have s8 := unhide S8; have s9 := unhide S9; have s10 := unhide S10; have s11 := unhide S11; have s12 := unhide S12; have s13 := unhide S13; have s14 := unhide S14; have s15 := unhide S15; have s16 := unhide S16; have s17 := unhide S17; have s18 := unhide S18; have s19 := unhide S19; have s20 := unhide S20; omega), (unhide K).2.2.2.1.only on (by have s0 := unhide S0; have s1 := unhide S1; have s2 := unhide S2; have s3 := unhide S3; have s4 := unhide S4; have s5 := unhide S5; have s6 := unhide S6; have s7 := unhide S7; have s8 := unhide S8; have s9 := unhide S9; have s10 := unhide S10; have s11 := unhide S11; have s12 := unhide S12; have s13 := unhide S13; have s14 := unhide S14; have s15 := unhide S15; have s16 := unhide S16; have s17 := unhide S17; have s18 := unhide S18; have s19 := unhide S19; have s20 := unhide S20; omega), om⟩
  clear KEPT om on gr
  have KEPT : Hid (∀ W u3, (Below w.heap.size w W ∧ Blk W w.heap.size [.int .i64 sn, .slice da1 dl1 dc1] ∧ OwnI W w5.heap.size (.slice a5 ((efL sn zs ms).length) c6) (efL sn zs ms) ∧ Blk W X8 [.int .i64 sn, .slice (some ⟨g7, 0, none⟩) dl1 dl1] ∧ OwnI W w9.heap.size (.slice a10 ((efL sn zs ms).length) c11) (markI (efL sn zs ms) 1 ((efL sn zs ms).length))) → Below W.heap.size W u3 → (Below w.heap.size w u3 ∧ Blk u3 w.heap.size [.int .i64 sn, .slice da1 dl1 dc1] ∧ OwnI u3 w5.heap.size (.slice a5 ((efL sn zs ms).length) c6) (efL sn zs ms) ∧ Blk u3 X8 [.int .i64 sn, .slice (some ⟨g7, 0, none⟩) dl1 dl1] ∧ OwnI u3 w9.heap.size (.slice a10 ((efL sn zs ms).length) c11) (markI (efL sn zs ms) 1 ((efL sn zs ms).length)))) := hide (fun W u3 h b => ⟨h.1.trans (b.mono h.1.size), h.2.1.below b, h.2.2.1.below b, h.2.2.2.1.below b, h.2.2.2.2.below b⟩)
  have mPd0 : w19.cell? ⟨w.heap.size, 0, none⟩ = some (.int .i64 sn) := (unhide K).2.1.c 0 (by simp)
  have mPd1 : w19.cell? ⟨w.heap.size, 1, none⟩ = some (.slice da1 dl1 dc1) := (unhide K).2.1.c 1 (by simp)
  have mQXx00 : w19.cell? ⟨X8, 0, none⟩ = some (.int .i64 sn) := (unhide K).2.2.2.1.c 0 (by simp)
  have mQXx01 : w19.cell? ⟨X8, 1, none⟩ = some (.slice (some ⟨g7, 0, none⟩) dl1 dl1) := (unhide K).2.2.2.1.c 1 (by simp)
  go_wp2_with fail
  clear mPd0 mPd1 mQXx00 mQXx01
  refine (heldIntS_any _ _ _ _ _ 1 _ (unhide K).2.2.2.2 (rfl) (by have := hsm; omega) (by omega) (by omega)).mono ?_
  rintro x w20 ⟨rfl, hw⟩
  have b : Below w19.heap.size w19 w20 := by rw [hw]; exact Below.refl _ _
  clear hw
  have S21 : Hid (w19.heap.size ≤ w20.heap.size) := hide b.size
  have K : Hid (Below w.heap.size w w20 ∧ Blk w20 w.heap.size [.int .i64 sn, .slice da1 dl1 dc1] ∧ OwnI w20 w5.heap.size (.slice a5 ((efL sn zs ms).length) c6) (efL sn zs ms) ∧ Blk w20 X8 [.int .i64 sn, .slice (some ⟨g7, 0, none⟩) dl1 dl1] ∧ OwnI w20 w9.heap.size (.slice a10 ((efL sn zs ms).length) c11) (markI (efL sn zs ms) 1 ((efL sn zs ms).length))) := hide ((unhide KEPT) _ _ (unhide K) b)
  clear b
  have nq20 : ¬ (1 + ((efL sn zs ms).length : Int) < 0) := by omega
  have nn20 : (1 + ((efL sn zs ms).length : Int) != 1 + ((efL sn zs ms).length : Int)) = false := by simp
  have mPd0 : w20.cell? ⟨w.heap.size, 0, none⟩ = some (.int .i64 sn) := (unhide K).2.1.c 0 (by simp)
  have mPd1 : w20.cell? ⟨w.heap.size, 1, none⟩ = some (.slice da1 dl1 dc1) := (unhide K).2.1.c 1 (by simp)
  have mQXx00 : w20.cell? ⟨X8, 0, none⟩ = some (.int .i64 sn) := (unhide K).2.2.2.1.c 0 (by simp)
  have mQXx01 : w20.cell? ⟨X8, 1, none⟩ = some (.slice (some ⟨g7, 0, none⟩) dl1 dl1) := (unhide K).2.2.2.1.c 1 (by simp)
  go_wp2_with fail
  clear mPd0 mPd1 mQXx00 mQXx01
  refine (toAboard_own _ _ _ _ _ _ ((unhide Rd).below (unhide K).1) hd1).mono ?_
  rintro x w21 ⟨⟨g14, rfl, oc⟩, b⟩
  have S22 : Hid (w20.heap.size ≤ w21.heap.size) := hide b.size
  have K : Hid (Below w.heap.size w w21 ∧ Blk w21 w.heap.size [.int .i64 sn, .slice da1 dl1 dc1] ∧ OwnI w21 w5.heap.size (.slice a5 ((efL sn zs ms).length) c6) (efL sn zs ms) ∧ Blk w21 X8 [.int .i64 sn, .slice (some ⟨g7, 0, none⟩) dl1 dl1] ∧ OwnI w21 w9.heap.size (.slice a10 ((efL sn zs ms).length) c11) (markI (efL sn zs ms) 1 ((efL sn zs ms).length))) := hide ((unhide KEPT) _ _ (unhide K) b)
  have K : Hid (Below w.heap.size w w21 ∧ Blk w21 w.heap.size [.int .i64 sn, .slice da1 dl1 dc1] ∧ OwnI w21 w5.heap.size (.slice a5 ((efL sn zs ms).length) c6) (efL sn zs ms) ∧ Blk w21 X8 [.int .i64 sn, .slice (some ⟨g7, 0, none⟩) dl1 dl1] ∧ OwnI w21 w9.heap.size (.slice a10 ((efL sn zs ms).length) c11) (markI (efL sn zs ms) 1 ((efL sn zs ms).length)) ∧ AbIs w21 w20.heap.size w21.heap.size (some ⟨g14, 0, none⟩) dl1 dl1 zs) := hide ⟨(unhide K).1, (unhide K).2.1, (unhide K).2.2.1, (unhide K).2.2.2.1, (unhide K).2.2.2.2, oc.is⟩
  clear KEPT oc b
  have KEPT : Hid (∀ W u3, (Below w.heap.size w W ∧ Blk W w.heap.size [.int .i64 sn, .slice da1 dl1 dc1] ∧ OwnI W w5.heap.size (.slice a5 ((efL sn zs ms).length) c6) (efL sn zs ms) ∧ Blk W X8 [.int .i64 sn, .slice (some ⟨g7, 0, none⟩) dl1 dl1] ∧ OwnI W w9.heap.size (.slice a10 ((efL sn zs ms).length) c11) (markI (efL sn zs ms) 1 ((efL sn zs ms).length)) ∧ AbIs W w20.heap.size w21.heap.size (some ⟨g14, 0, none⟩) dl1 dl1 zs) → Below W.heap.size W u3 → (Below w.heap.size w u3 ∧ Blk u3 w.heap.size [.int .i64 sn, .slice da1 dl1 dc1] ∧ OwnI u3 w5.heap.size (.slice a5 ((efL sn zs ms).length) c6) (efL sn zs ms) ∧ Blk u3 X8 [.int .i64 sn, .slice (some ⟨g7, 0, none⟩) dl1 dl1] ∧ OwnI u3 w9.heap.size (.slice a10 ((efL sn zs ms).length) c11) (markI (efL sn zs ms) 1 ((efL sn zs ms).length)) ∧ AbIs u3 w20.heap.size w21.heap.size (some ⟨g14, 0, none⟩) dl1 dl1 zs)) := hide (fun W u3 h b => ⟨h.1.trans (b.mono h.1.size), h.2.1.below b, h.2.2.1.below b, h.2.2.2.1.below b, h.2.2.2.2.1.below b, h.2.2.2.2.2.below b⟩)
  have mPd0 : w21.cell? ⟨w.heap.size, 0, none⟩ = some (.int .i64 sn) := (unhide K).2.1.c 0 (by simp)
  have mPd1 : w21.cell? ⟨w.heap.size, 1, none⟩ = some (.slice da1 dl1 dc1) := (unhide K).2.1.c 1 (by simp)
  have mQXx00 : w21.cell? ⟨X8, 0, none⟩ = some (.int .i64 sn) := (unhide K).2.2.2.1.c 0 (by simp)
  have mQXx01 : w21.cell? ⟨X8, 1, none⟩ = some (.slice (some ⟨g7, 0, none⟩) dl1 dl1) := (unhide K).2.2.2.1.c 1 (by simp)
  go_wp2_with fail
  clear mPd0 mPd1 mQXx00 mQXx01
  refine (toLdT _ _ _ _ _ ((unhide Rm).below (unhide K).1) hm1).mono ?_
  rintro x w22 ⟨⟨g15, rfl, oc⟩, b⟩
  have S23 : Hid (w21.heap.size ≤ w22.heap.size) := hide b.size
  have K : Hid (Below w.heap.size w w22 ∧ Blk w22 w.heap.size [.int .i64 sn, .slice da1 dl1 dc1] ∧ OwnI w22 w5.heap.size (.slice a5 ((efL sn zs ms).length) c6) (efL sn zs ms) ∧ Blk w22 X8 [.int .i64 sn, .slice (some ⟨g7, 0, none⟩) dl1 dl1] ∧ OwnI w22 w9.heap.size (.slice a10 ((efL sn zs ms).length) c11) (markI (efL sn zs ms) 1 ((efL sn zs ms).length)) ∧ AbIs w22 w20.heap.size w21.heap.size (some ⟨g14, 0, none⟩) dl1 dl1 zs) := hide ((unhide KEPT) _ _ (unhide K) b)
  have K : Hid (Below w.heap.size w w22 ∧ Blk w22 w.heap.size [.int .i64 sn, .slice da1 dl1 dc1] ∧ OwnI w22 w5.heap.size (.slice a5 ((efL sn zs ms).length) c6) (efL sn zs ms) ∧ Blk w22 X8 [.int .i64 sn, .slice (some ⟨g7, 0, none⟩) dl1 dl1] ∧ OwnI w22 w9.heap.size (.slice a10 ((efL sn zs ms).length) c11) (markI (efL sn zs ms) 1 ((efL sn zs ms).length)) ∧ AbIs w22 w20.heap.size w21.heap.size (some ⟨g14, 0, none⟩) dl1 dl1 zs ∧ AbIs w22 w21.heap.size w22.heap.size (some ⟨g15, 0, none⟩) ml1 ml1 ms) := hide ⟨(unhide K).1, (unhide K).2.1, (unhide K).2.2.1, (unhide K).2.2.2.1, (unhide K).2.2.2.2.1, (unhide K).2.2.2.2.2, oc⟩
  clear KEPT oc b
  have KEPT : Hid (∀ W u3, (Below w.heap.size w W ∧ Blk W w.heap.size [.int .i64 sn, .slice da1 dl1 dc1] ∧ OwnI W w5.heap.size (.slice a5 ((efL sn zs ms).length) c6) (efL sn zs ms) ∧ Blk W X8 [.int .i64 sn, .slice (some ⟨g7, 0, none⟩) dl1 dl1] ∧ OwnI W w9.heap.size (.slice a10 ((efL sn zs ms).length) c11) (markI (efL sn zs ms) 1 ((efL sn zs ms).length)) ∧ AbIs W w20.heap.size w21.heap.size (some ⟨g14, 0, none⟩) dl1 dl1 zs ∧ AbIs W w21.heap.size w22.heap.size (some ⟨g15, 0, none⟩) ml1 ml1 ms) → Below W.heap.size W u3 → (Below w.heap.size w u3 ∧ Blk u3 w.heap.size [.int .i64 sn, .slice da1 dl1 dc1] ∧ OwnI u3 w5.heap.size (.slice a5 ((efL sn zs ms).length) c6) (efL sn zs ms) ∧ Blk u3 X8 [.int .i64 sn, .slice (some ⟨g7, 0, none⟩) dl1 dl1] ∧ OwnI u3 w9.heap.size (.slice a10 ((efL sn zs ms).length) c11) (markI (efL sn zs ms) 1 ((efL sn zs ms).length)) ∧ AbIs u3 w20.heap.size w21.heap.size (some ⟨g14, 0, none⟩) dl1 dl1 zs ∧ AbIs u3 w21.heap.size w22.heap.size (some ⟨g15, 0, none⟩) ml1 ml1 ms)) := hide (fun W u3 h b => ⟨h.1.trans (b.mono h.1.size), h.2.1.below b, h.2.2.1.below b, h.2.2.2.1.below b, h.2.2.2.2.1.below b, h.2.2.2.2.2.1.below b, h.2.2.2.2.2.2.below b⟩)
  have mPd0 : w22.cell? ⟨w.heap.size, 0, none⟩ = some (.int .i64 sn) := (unhide K).2.1.c 0 (by simp)
  have mPd1 : w22.cell? ⟨w.heap.size, 1, none⟩ = some (.slice da1 dl1 dc1) := (unhide K).2.1.c 1 (by simp)
  have mQXx00 : w22.cell? ⟨X8, 0, none⟩ = some (.int .i64 sn) := (unhide K).2.2.2.1.c 0 (by simp)
  have mQXx01 : w22.cell? ⟨X8, 1, none⟩ = some (.slice (some ⟨g7, 0, none⟩) dl1 dl1) := (unhide K).2.2.2.1.c 1 (by simp)
  go_wp2_with fail
  clear mPd0 mPd1 mQXx00 mQXx01
  refine (implEffL_any _ _ _ _ _ _ _ _ _ _ (unhide K).2.2.2.2.2.1.read (unhide K).2.2.2.2.2.2.read.r1 ((unhide HGS).below (unhide K).1)).mono ?_
  rintro x w23 ⟨a16, c17, rfl, oH_0, b⟩
  have LH0 : Hid (∀ g, (Value.slice a16 ((efL sn zs ms).length) c17).ownBlock = some g → w22.heap.size ≤ g ∧ g < w23.heap.size) := hide oH_0.lies
  have S24 : Hid (w22.heap.size ≤ w23.heap.size) := hide b.size
  have K : Hid (Below w.heap.size w w23 ∧ Blk w23 w.heap.size [.int .i64 sn, .slice da1 dl1 dc1] ∧ OwnI w23 w5.heap.size (.slice a5 ((efL sn zs ms).length) c6) (efL sn zs ms) ∧ Blk w23 X8 [.int .i64 sn, .slice (some ⟨g7, 0, none⟩) dl1 dl1] ∧ OwnI w23 w9.heap.size (.slice a10 ((efL sn zs ms).length) c11) (markI (efL sn zs ms) 1 ((efL sn zs ms).length)) ∧ AbIs w23 w20.heap.size w21.heap.size (some ⟨g14, 0, none⟩) dl1 dl1 zs ∧ AbIs w23 w21.heap.size w22.heap.size (some ⟨g15, 0, none⟩) ml1 ml1 ms) := hide ((unhide KEPT) _ _ (unhide K) b)
  have K : Hid (Below w.heap.size w w23 ∧ Blk w23 w.heap.size [.int .i64 sn, .slice da1 dl1 dc1] ∧ OwnI w23 w5.heap.size (.slice a5 ((efL sn zs ms).length) c6) (efL sn zs ms) ∧ Blk w23 X8 [.int .i64 sn, .slice (some ⟨g7, 0, none⟩) dl1 dl1] ∧ OwnI w23 w9.heap.size (.slice a10 ((efL sn zs ms).length) c11) (markI (efL sn zs ms) 1 ((efL sn zs ms).length)) ∧ AbIs w23 w20.heap.size w21.heap.size (some ⟨g14, 0, none⟩) dl1 dl1 zs ∧ AbIs w23 w21.heap.size w22.heap.size (some ⟨g15, 0, none⟩) ml1 ml1 ms ∧ OwnI w23 w22.heap.size (.slice a16 ((efL sn zs ms).length) c17) (efL sn zs ms)) := hide ⟨(unhide K).1, (unhide K).2.1, (unhide K).2.2.1, (unhide K).2.2.2.1, (unhide K).2.2.2.2.1, (unhide K).2.2.2.2.2.1, (unhide K).2.2.2.2.2.2, oH_0⟩
  clear KEPT
  have KEPT : Hid (∀ W u3, (Below w.heap.size w W ∧ Blk W w.heap.size [.int .i64 sn, .slice da1 dl1 dc1] ∧ OwnI W w5.heap.size (.slice a5 ((efL sn zs ms).length) c6) (efL sn zs ms) ∧ Blk W X8 [.int .i64 sn, .slice (some ⟨g7, 0, none⟩) dl1 dl1] ∧ OwnI W w9.heap.size (.slice a10 ((efL sn zs ms).length) c11) (markI (efL sn zs ms) 1 ((efL sn zs ms).length)) ∧ AbIs W w20.heap.size w21.heap.size (some ⟨g14, 0, none⟩) dl1 dl1 zs ∧ AbIs W w21.heap.size w22.heap.size (some ⟨g15, 0, none⟩) ml1 ml1 ms ∧ OwnI W w22.heap.size (.slice a16 ((efL sn zs ms).length) c17) (efL sn zs ms)) → Below W.heap.size W u3 → (Below w.heap.size w u3 ∧ Blk u3 w.heap.size [.int .i64 sn, .slice da1 dl1 dc1] ∧ OwnI u3 w5.heap.size (.slice a5 ((efL sn zs ms).length) c6) (efL sn zs ms) ∧ Blk u3 X8 [.int .i64 sn, .slice (some ⟨g7, 0, none⟩) dl1 dl1] ∧ OwnI u3 w9.heap.size (.slice a10 ((efL sn zs ms).length) c11) (markI (efL sn zs ms) 1 ((efL sn zs ms).length)) ∧ AbIs u3 w20.heap.size w21.heap.size (some ⟨g14, 0, none⟩) dl1 dl1 zs ∧ AbIs u3 w21.heap.size w22.heap.size (some ⟨g15, 0, none⟩) ml1 ml1 ms ∧ OwnI u3 w22.heap.size (.slice a16 ((efL sn zs ms).length) c17) (efL sn zs ms))) := hide (fun W u3 h b => ⟨h.1.trans (b.mono h.1.size), h.2.1.below b, h.2.2.1.below b, h.2.2.2.1.below b, h.2.2.2.2.1.below b, h.2.2.2.2.2.1.below b, h.2.2.2.2.2.2.1.below b, h.2.2.2.2.2.2.2.below b⟩)
  clear oH_0
  clear b
  have K : Hid (Below w.heap.size w w23 ∧ Blk w23 w.heap.size [.int .i64 sn, .slice da1 dl1 dc1] ∧ OwnI w23 w5.heap.size (.slice a5 ((efL sn zs ms).length) c6) (efL sn zs ms) ∧ Blk w23 X8 [.int .i64 sn, .slice (some ⟨g7, 0, none⟩) dl1 dl1] ∧ OwnI w23 w9.heap.size (.slice a10 ((efL sn zs ms).length) c11) (markI (efL sn zs ms) 1 ((efL sn zs ms).length)) ∧ OwnI w23 w22.heap.size (.slice a16 ((efL sn zs ms).length) c17) (efL sn zs ms)) := hide ⟨(unhide K).1, (unhide K).2.1, (unhide K).2.2.1, (unhide K).2.2.2.1, (unhide K).2.2.2.2.1, (unhide K).2.2.2.2.2.2.2⟩
  clear KEPT
  have KEPT : Hid (∀ W u3, (Below w.heap.size w W ∧ Blk W w.heap.size [.int .i64 sn, .slice da1 dl1 dc1] ∧ OwnI W w5.heap.size (.slice a5 ((efL sn zs ms).length) c6) (efL sn zs ms) ∧ Blk W X8 [.int .i64 sn, .slice (some ⟨g7, 0, none⟩) dl1 dl1] ∧ OwnI W w9.heap.size (.slice a10 ((efL sn zs ms).length) c11) (markI (efL sn zs ms) 1 ((efL sn zs ms).length)) ∧ OwnI W w22.heap.size (.slice a16 ((efL sn zs ms).length) c17) (efL sn zs ms)) → Below W.heap.size W u3 → (Below w.heap.size w u3 ∧ Blk u3 w.heap.size [.int .i64 sn, .slice da1 dl1 dc1] ∧ OwnI u3 w5.heap.size (.slice a5 ((efL sn zs ms).length) c6) (efL sn zs ms) ∧ Blk u3 X8 [.int .i64 sn, .slice (some ⟨g7, 0, none⟩) dl1 dl1] ∧ OwnI u3 w9.heap.size (.slice a10 ((efL sn zs ms).length) c11) (markI (efL sn zs ms) 1 ((efL sn zs ms).length)) ∧ OwnI u3 w22.heap.size (.slice a16 ((efL sn zs ms).length) c17) (efL sn zs ms))) := hide (fun W u3 h b => ⟨h.1.trans (b.mono h.1.size), h.2.1.below b, h.2.2.1.below b, h.2.2.2.1.below b, h.2.2.2.2.1.below b, h.2.2.2.2.2.below b⟩)
  have mPd0 : w23.cell? ⟨w.heap.size, 0, none⟩ = some (.int .i64 sn) := (unhide K).2.1.c 0 (by simp)
  have mPd1 : w23.cell? ⟨w.heap.size, 1, none⟩ = some (.slice da1 dl1 dc1) := (unhide K).2.1.c 1 (by simp)
  have mQXx00 : w23.cell? ⟨X8, 0, none⟩ = some (.int .i64 sn) := (unhide K).2.2.2.1.c 0 (by simp)
  have mQXx01 : w23.cell? ⟨X8, 1, none⟩ = some (.slice (some ⟨g7, 0, none⟩) dl1 dl1) := (unhide K).2.2.2.1.c 1 (by simp)
  go_wp2_with fail
  clear mPd0 mPd1 mQXx00 mQXx01
  refine (eqIntS_same _ _ _ _ _ _ _ _ (unhide K).2.2.2.2.2.row (unhide K).2.2.1.row).mono ?_
  rintro x w24 ⟨rfl, b⟩
  have S25 : Hid (w23.heap.size ≤ w24.heap.size) := hide b.size
  have K : Hid (Below w.heap.size w w24 ∧ Blk w24 w.heap.size [.int .i64 sn, .slice da1 dl1 dc1] ∧ OwnI w24 w5.heap.size (.slice a5 ((efL sn zs ms).length) c6) (efL sn zs ms) ∧ Blk w24 X8 [.int .i64 sn, .slice (some ⟨g7, 0, none⟩) dl1 dl1] ∧ OwnI w24 w9.heap.size (.slice a10 ((efL sn zs ms).length) c11) (markI (efL sn zs ms) 1 ((efL sn zs ms).length)) ∧ OwnI w24 w22.heap.size (.slice a16 ((efL sn zs ms).length) c17) (efL sn zs ms)) := hide ((unhide KEPT) _ _ (unhide K) b)
  clear b
  have mPd0 : w24.cell? ⟨w.heap.size, 0, none⟩ = some (.int .i64 sn) := (unhide K).2.1.c 0 (by simp)
  have mPd1 : w24.cell? ⟨w.heap.size, 1, none⟩ = some (.slice da1 dl1 dc1) := (unhide K).2.1.c 1 (by simp)
  have mQXx00 : w24.cell? ⟨X8, 0, none⟩ = some (.int .i64 sn) := (unhide K).2.2.2.1.c 0 (by simp)
  have mQXx01 : w24.cell? ⟨X8, 1, none⟩ = some (.slice (some ⟨g7, 0, none⟩) dl1 dl1) := (unhide K).2.2.2.1.c 1 (by simp)
  go_wp2_with fail
  clear mPd0 mPd1 mQXx00 mQXx01
  refine (heldIntS_any _ _ _ _ _ 1 _ (unhide K).2.2.2.2.1 (rfl) (by have := hsm; omega) (by omega) (by omega)).mono ?_
  rintro x w25 ⟨rfl, hw⟩
  have b : Below w24.heap.size w24 w25 := by rw [hw]; exact Below.refl _ _
  clear hw
  have S26 : Hid (w24.heap.size ≤ w25.heap.size) := hide b.size
  have K : Hid (Below w.heap.size w w25 ∧ Blk w25 w.heap.size [.int .i64 sn, .slice da1 dl1 dc1] ∧ OwnI w25 w5.heap.size (.slice a5 ((efL sn zs ms).length) c6) (efL sn zs ms) ∧ Blk w25 X8 [.int .i64 sn, .slice (some ⟨g7, 0, none⟩) dl1 dl1] ∧ OwnI w25 w9.heap.size (.slice a10 ((efL sn zs ms).length) c11) (markI (efL sn zs ms) 1 ((efL sn zs ms).length)) ∧ OwnI w25 w22.heap.size (.slice a16 ((efL sn zs ms).length) c17) (efL sn zs ms)) := hide ((unhide KEPT) _ _ (unhide K) b)
  clear b
  have nq25 : ¬ (1 + ((efL sn zs ms).length : Int) < 0) := by omega
  have nn25 : (1 + ((efL sn zs ms).length : Int) != 1 + ((efL sn zs ms).length : Int)) = false := by simp
  have mPd0 : w25.cell? ⟨w.heap.size, 0, none⟩ = some (.int .i64 sn) := (unhide K).2.1.c 0 (by simp)
  have mPd1 : w25.cell? ⟨w.heap.size, 1, none⟩ = some (.slice da1 dl1 dc1) := (unhide K).2.1.c 1 (by simp)
  have mQXx00 : w25.cell? ⟨X8, 0, none⟩ = some (.int .i64 sn) := (unhide K).2.2.2.1.c 0 (by simp)
  have mQXx01 : w25.cell? ⟨X8, 1, none⟩ = some (.slice (some ⟨g7, 0, none⟩) dl1 dl1) := (unhide K).2.2.2.1.c 1 (by simp)
  go_wp2_with fail
  clear mPd0 mPd1 mQXx00 mQXx01
  go_ret
  exact ⟨rfl, (unhide K).1⟩
end Go.Proofs.YtemodlgmjgdjpaaGreatDoor
