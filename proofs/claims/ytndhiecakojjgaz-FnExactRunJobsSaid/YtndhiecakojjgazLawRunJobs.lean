/-
  The law FnExactRunJobs returns true at every argument and writes nothing that was there: the walk. No condition.
-/
import Derived.Test.YtndhiecakojjgazRmAny
import Derived.Test.YtndhiecakojjgazPpMark
import Derived.Test.YtndhiecakojjgazMarkJb
import Derived.Test.YtndhiecakojjgazOnly
import Derived.Deep.RegionHeld3
namespace Go.Proofs.Ytndhiecakojjgaz
open Go.RowKit
set_option maxRecDepth 20000 in
set_option maxHeartbeats 8000000 in
theorem lawRunJobs (fr pa : Int) (da1 : Option Addr) (dl1 dc1 : Nat) (ws : List Wn) (ja1 : Option Addr) (jl1 jc1 : Nat) (js : List Jb) (tk : Int) (w : World) (hrd : PpIn w da1 dl1 ws) (hrj : RowE 3 jbC w ja1 jl1 js)  :
    Calls Try.prog 8 #[.agg #[.int .i64 fr, .int .i64 pa, .slice da1 dl1 dc1], .slice ja1 jl1 jc1, .int .i64 tk] w fun x w' => x = .returned (.bool true) ∧ Below w.heap.size w w' := by
  have Rd := hide hrd
  have smd1 := hrd.r1.small
  have Ed1 := hide hrd.r1.len_eq
  clear hrd
  have Rj := hide hrj
  have smj1 := hrj.small
  have Ej1 := hide hrj.len_eq
  clear hrj
  have hq0 : (rjI fr pa ws js tk != rjI fr pa ws js tk) = false := by simp
  have hq1 : (rjB fr pa ws js tk != rjB fr pa ws js tk) = false := by simp
  have hfl : (rjL fr pa ws js tk).length ≤ 20 := rjL_len fr pa ws js tk
  go_enter Try.func8, Try.ntmps8
  go_wp2_with fail
  obtain ⟨w1, hw1⟩ : ∃ W, W = (w.alloc (Obj.cells #[.int .i64 fr, .int .i64 pa, .slice da1 dl1 dc1] 30)) := ⟨_, rfl⟩
  rw [← hw1]
  have K : Hid (Below w.heap.size w w1 ∧ Blk w1 w.heap.size [.int .i64 fr, .int .i64 pa, .slice da1 dl1 dc1]) := hide ⟨(by rw [hw1]; exact bel1 _), (by rw [hw1]; exact Blk.new _ _)⟩
  have S0 : Hid (w.heap.size + 1 ≤ w1.heap.size) := hide (by rw [hw1]; simp; try omega)
  clear hw1
  have KEPT : Hid (∀ W u3, (Below w.heap.size w W ∧ Blk W w.heap.size [.int .i64 fr, .int .i64 pa, .slice da1 dl1 dc1]) → Below W.heap.size W u3 → (Below w.heap.size w u3 ∧ Blk u3 w.heap.size [.int .i64 fr, .int .i64 pa, .slice da1 dl1 dc1])) := hide (fun W u3 h b => ⟨h.1.trans (b.mono h.1.size), h.2.below b⟩)
  refine (szPlan17_any _ _ _ _ _ 1048576 _ smd1 (by omega) (by omega)).mono ?_
  rintro x w2 ⟨⟨r1, rfl, hl⟩, b⟩
  have S1 : Hid (w1.heap.size ≤ w2.heap.size) := hide b.size
  have K : Hid (Below w.heap.size w w2 ∧ Blk w2 w.heap.size [.int .i64 fr, .int .i64 pa, .slice da1 dl1 dc1]) := hide ((unhide KEPT) _ _ (unhide K) b)
  clear b
  rcases hl with hl | ⟨hl, hle, hd1⟩
  · go_wp2_with fail
    go_ret
    exact ⟨rfl, (unhide K).1⟩
  have nr1 : ¬ r1 < 0 := by omega
  have mPd0 : w2.cell? ⟨w.heap.size, 0, none⟩ = some (.int .i64 fr) := (unhide K).2.c 0 (by simp)
  have mPd1 : w2.cell? ⟨w.heap.size, 1, none⟩ = some (.int .i64 pa) := (unhide K).2.c 1 (by simp)
  have mPd2 : w2.cell? ⟨w.heap.size, 2, none⟩ = some (.slice da1 dl1 dc1) := (unhide K).2.c 2 (by simp)
  go_wp2_with fail
  clear mPd0 mPd1 mPd2
  refine (szJobS_any _ _ _ r1 _ smj1 (by omega) (by omega)).mono ?_
  rintro x w3 ⟨⟨r2, rfl, hl⟩, b⟩
  have S2 : Hid (w2.heap.size ≤ w3.heap.size) := hide b.size
  have K : Hid (Below w.heap.size w w3 ∧ Blk w3 w.heap.size [.int .i64 fr, .int .i64 pa, .slice da1 dl1 dc1]) := hide ((unhide KEPT) _ _ (unhide K) b)
  clear b
  rcases hl with hl | ⟨hl, hle, hj1⟩
  · go_wp2_with fail
    go_ret
    exact ⟨rfl, (unhide K).1⟩
  have nr2 : ¬ r2 < 0 := by omega
  have mPd0 : w3.cell? ⟨w.heap.size, 0, none⟩ = some (.int .i64 fr) := (unhide K).2.c 0 (by simp)
  have mPd1 : w3.cell? ⟨w.heap.size, 1, none⟩ = some (.int .i64 pa) := (unhide K).2.c 1 (by simp)
  have mPd2 : w3.cell? ⟨w.heap.size, 2, none⟩ = some (.slice da1 dl1 dc1) := (unhide K).2.c 2 (by simp)
  go_wp2_with fail
  clear mPd0 mPd1 mPd2
  refine (toPlan17_own _ _ _ _ _ _ _ ((unhide Rd).below (unhide K).1) hd1).mono ?_
  rintro x w4 ⟨⟨g3, rfl, oc⟩, b⟩
  have LT4 : Hid (PpLies w3.heap.size w4.heap.size (some ⟨g3, 0, none⟩) dl1 dl1) := hide oc.lies
  have S3 : Hid (w3.heap.size ≤ w4.heap.size) := hide b.size
  have K : Hid (Below w.heap.size w w4 ∧ Blk w4 w.heap.size [.int .i64 fr, .int .i64 pa, .slice da1 dl1 dc1]) := hide ((unhide KEPT) _ _ (unhide K) b)
  have K : Hid (Below w.heap.size w w4 ∧ Blk w4 w.heap.size [.int .i64 fr, .int .i64 pa, .slice da1 dl1 dc1] ∧ PpOwn w4 w3.heap.size (some ⟨g3, 0, none⟩) dl1 dl1 ws) := hide ⟨(unhide K).1, (unhide K).2, oc⟩
  clear KEPT oc b
  have KEPT : Hid (∀ W u3, (Below w.heap.size w W ∧ Blk W w.heap.size [.int .i64 fr, .int .i64 pa, .slice da1 dl1 dc1] ∧ PpOwn W w3.heap.size (some ⟨g3, 0, none⟩) dl1 dl1 ws) → Below W.heap.size W u3 → (Below w.heap.size w u3 ∧ Blk u3 w.heap.size [.int .i64 fr, .int .i64 pa, .slice da1 dl1 dc1] ∧ PpOwn u3 w3.heap.size (some ⟨g3, 0, none⟩) dl1 dl1 ws)) := hide (fun W u3 h b => ⟨h.1.trans (b.mono h.1.size), h.2.1.below b, h.2.2.below b⟩)
  have mPd0 : w4.cell? ⟨w.heap.size, 0, none⟩ = some (.int .i64 fr) := (unhide K).2.1.c 0 (by simp)
  have mPd1 : w4.cell? ⟨w.heap.size, 1, none⟩ = some (.int .i64 pa) := (unhide K).2.1.c 1 (by simp)
  have mPd2 : w4.cell? ⟨w.heap.size, 2, none⟩ = some (.slice da1 dl1 dc1) := (unhide K).2.1.c 2 (by simp)
  go_wp2_with fail
  clear mPd0 mPd1 mPd2
  obtain ⟨g4, hg4⟩ : ∃ G, w4.heap.size = G := ⟨_, rfl⟩
  refine (toJobS_own _ _ _ _ _ ((unhide Rj).below (unhide K).1) hj1).mono ?_
  rintro x w5 ⟨rfl, oc, b⟩
  rw [hg4] at oc ⊢
  have Bg4 := hide hg4
  clear hg4
  have LT5 : Hid (∀ g, (Value.slice (some ⟨g4, 0, none⟩) jl1 jl1).ownBlock = some g → w4.heap.size ≤ g ∧ g < w5.heap.size) := hide (by have e := unhide Bg4; have l := oc.lies; rw [← e] at l ⊢; exact l)
  have S4 : Hid (w4.heap.size ≤ w5.heap.size) := hide b.size
  have K : Hid (Below w.heap.size w w5 ∧ Blk w5 w.heap.size [.int .i64 fr, .int .i64 pa, .slice da1 dl1 dc1] ∧ PpOwn w5 w3.heap.size (some ⟨g3, 0, none⟩) dl1 dl1 ws) := hide ((unhide KEPT) _ _ (unhide K) b)
  have K : Hid (Below w.heap.size w w5 ∧ Blk w5 w.heap.size [.int .i64 fr, .int .i64 pa, .slice da1 dl1 dc1] ∧ PpOwn w5 w3.heap.size (some ⟨g3, 0, none⟩) dl1 dl1 ws ∧ OwnE 3 jbC w5 w4.heap.size 67 (.slice (some ⟨g4, 0, none⟩) jl1 jl1) js) := hide ⟨(unhide K).1, (unhide K).2.1, (unhide K).2.2, (by have e := unhide Bg4; rw [e]; exact oc)⟩
  clear KEPT oc b
  have KEPT : Hid (∀ W u3, (Below w.heap.size w W ∧ Blk W w.heap.size [.int .i64 fr, .int .i64 pa, .slice da1 dl1 dc1] ∧ PpOwn W w3.heap.size (some ⟨g3, 0, none⟩) dl1 dl1 ws ∧ OwnE 3 jbC W w4.heap.size 67 (.slice (some ⟨g4, 0, none⟩) jl1 jl1) js) → Below W.heap.size W u3 → (Below w.heap.size w u3 ∧ Blk u3 w.heap.size [.int .i64 fr, .int .i64 pa, .slice da1 dl1 dc1] ∧ PpOwn u3 w3.heap.size (some ⟨g3, 0, none⟩) dl1 dl1 ws ∧ OwnE 3 jbC u3 w4.heap.size 67 (.slice (some ⟨g4, 0, none⟩) jl1 jl1) js)) := hide (fun W u3 h b => ⟨h.1.trans (b.mono h.1.size), h.2.1.below b, h.2.2.1.below b, h.2.2.2.below b⟩)
  have mPd0 : w5.cell? ⟨w.heap.size, 0, none⟩ = some (.int .i64 fr) := (unhide K).2.1.c 0 (by simp)
  have mPd1 : w5.cell? ⟨w.heap.size, 1, none⟩ = some (.int .i64 pa) := (unhide K).2.1.c 1 (by simp)
  have mPd2 : w5.cell? ⟨w.heap.size, 2, none⟩ = some (.slice da1 dl1 dc1) := (unhide K).2.1.c 2 (by simp)
  go_wp2_with fail
  clear mPd0 mPd1 mPd2
  refine (specRunJobs_any _ _ _ _ _ _ _ _ _ _ _ _ (unhide K).2.2.1.read (unhide K).2.2.2.row ).mono ?_
  rintro x w6 ⟨a5, c6, rfl, oW_0, b⟩
  have LW0 : Hid (∀ g, (Value.slice a5 ((rjL fr pa ws js tk).length) c6).ownBlock = some g → w5.heap.size ≤ g ∧ g < w6.heap.size) := hide oW_0.lies
  have S5 : Hid (w5.heap.size ≤ w6.heap.size) := hide b.size
  have K : Hid (Below w.heap.size w w6 ∧ Blk w6 w.heap.size [.int .i64 fr, .int .i64 pa, .slice da1 dl1 dc1] ∧ PpOwn w6 w3.heap.size (some ⟨g3, 0, none⟩) dl1 dl1 ws ∧ OwnE 3 jbC w6 w4.heap.size 67 (.slice (some ⟨g4, 0, none⟩) jl1 jl1) js) := hide ((unhide KEPT) _ _ (unhide K) b)
  have K : Hid (Below w.heap.size w w6 ∧ Blk w6 w.heap.size [.int .i64 fr, .int .i64 pa, .slice da1 dl1 dc1] ∧ PpOwn w6 w3.heap.size (some ⟨g3, 0, none⟩) dl1 dl1 ws ∧ OwnE 3 jbC w6 w4.heap.size 67 (.slice (some ⟨g4, 0, none⟩) jl1 jl1) js ∧ OwnI w6 w5.heap.size (.slice a5 ((rjL fr pa ws js tk).length) c6) (rjL fr pa ws js tk)) := hide ⟨(unhide K).1, (unhide K).2.1, (unhide K).2.2.1, (unhide K).2.2.2, oW_0⟩
  clear KEPT
  have KEPT : Hid (∀ W u3, (Below w.heap.size w W ∧ Blk W w.heap.size [.int .i64 fr, .int .i64 pa, .slice da1 dl1 dc1] ∧ PpOwn W w3.heap.size (some ⟨g3, 0, none⟩) dl1 dl1 ws ∧ OwnE 3 jbC W w4.heap.size 67 (.slice (some ⟨g4, 0, none⟩) jl1 jl1) js ∧ OwnI W w5.heap.size (.slice a5 ((rjL fr pa ws js tk).length) c6) (rjL fr pa ws js tk)) → Below W.heap.size W u3 → (Below w.heap.size w u3 ∧ Blk u3 w.heap.size [.int .i64 fr, .int .i64 pa, .slice da1 dl1 dc1] ∧ PpOwn u3 w3.heap.size (some ⟨g3, 0, none⟩) dl1 dl1 ws ∧ OwnE 3 jbC u3 w4.heap.size 67 (.slice (some ⟨g4, 0, none⟩) jl1 jl1) js ∧ OwnI u3 w5.heap.size (.slice a5 ((rjL fr pa ws js tk).length) c6) (rjL fr pa ws js tk))) := hide (fun W u3 h b => ⟨h.1.trans (b.mono h.1.size), h.2.1.below b, h.2.2.1.below b, h.2.2.2.1.below b, h.2.2.2.2.below b⟩)
  clear oW_0
  clear b
  have K : Hid (Below w.heap.size w w6 ∧ Blk w6 w.heap.size [.int .i64 fr, .int .i64 pa, .slice da1 dl1 dc1] ∧ OwnI w6 w5.heap.size (.slice a5 ((rjL fr pa ws js tk).length) c6) (rjL fr pa ws js tk)) := hide ⟨(unhide K).1, (unhide K).2.1, (unhide K).2.2.2.2⟩
  clear KEPT
  have KEPT : Hid (∀ W u3, (Below w.heap.size w W ∧ Blk W w.heap.size [.int .i64 fr, .int .i64 pa, .slice da1 dl1 dc1] ∧ OwnI W w5.heap.size (.slice a5 ((rjL fr pa ws js tk).length) c6) (rjL fr pa ws js tk)) → Below W.heap.size W u3 → (Below w.heap.size w u3 ∧ Blk u3 w.heap.size [.int .i64 fr, .int .i64 pa, .slice da1 dl1 dc1] ∧ OwnI u3 w5.heap.size (.slice a5 ((rjL fr pa ws js tk).length) c6) (rjL fr pa ws js tk))) := hide (fun W u3 h b => ⟨h.1.trans (b.mono h.1.size), h.2.1.below b, h.2.2.below b⟩)
  have mPd0 : w6.cell? ⟨w.heap.size, 0, none⟩ = some (.int .i64 fr) := (unhide K).2.1.c 0 (by simp)
  have mPd1 : w6.cell? ⟨w.heap.size, 1, none⟩ = some (.int .i64 pa) := (unhide K).2.1.c 1 (by simp)
  have mPd2 : w6.cell? ⟨w.heap.size, 2, none⟩ = some (.slice da1 dl1 dc1) := (unhide K).2.1.c 2 (by simp)
  go_wp2_with fail
  clear mPd0 mPd1 mPd2
  refine (toPlan17_own _ _ _ _ _ _ _ ((unhide Rd).below (unhide K).1) hd1).mono ?_
  rintro x w7 ⟨⟨g7, rfl, oc⟩, b⟩
  have LXx0 : Hid (PpLies w6.heap.size w7.heap.size (some ⟨g7, 0, none⟩) dl1 dl1) := hide oc.lies
  have S6 : Hid (w6.heap.size ≤ w7.heap.size) := hide b.size
  have K : Hid (Below w.heap.size w w7 ∧ Blk w7 w.heap.size [.int .i64 fr, .int .i64 pa, .slice da1 dl1 dc1] ∧ OwnI w7 w5.heap.size (.slice a5 ((rjL fr pa ws js tk).length) c6) (rjL fr pa ws js tk)) := hide ((unhide KEPT) _ _ (unhide K) b)
  have K : Hid (Below w.heap.size w w7 ∧ Blk w7 w.heap.size [.int .i64 fr, .int .i64 pa, .slice da1 dl1 dc1] ∧ OwnI w7 w5.heap.size (.slice a5 ((rjL fr pa ws js tk).length) c6) (rjL fr pa ws js tk) ∧ PpOwn w7 w6.heap.size (some ⟨g7, 0, none⟩) dl1 dl1 ws) := hide ⟨(unhide K).1, (unhide K).2.1, (unhide K).2.2, oc⟩
  clear KEPT oc b
  have KEPT : Hid (∀ W u3, (Below w.heap.size w W ∧ Blk W w.heap.size [.int .i64 fr, .int .i64 pa, .slice da1 dl1 dc1] ∧ OwnI W w5.heap.size (.slice a5 ((rjL fr pa ws js tk).length) c6) (rjL fr pa ws js tk) ∧ PpOwn W w6.heap.size (some ⟨g7, 0, none⟩) dl1 dl1 ws) → Below W.heap.size W u3 → (Below w.heap.size w u3 ∧ Blk u3 w.heap.size [.int .i64 fr, .int .i64 pa, .slice da1 dl1 dc1] ∧ OwnI u3 w5.heap.size (.slice a5 ((rjL fr pa ws js tk).length) c6) (rjL fr pa ws js tk) ∧ PpOwn u3 w6.heap.size (some ⟨g7, 0, none⟩) dl1 dl1 ws)) := hide (fun W u3 h b => ⟨h.1.trans (b.mono h.1.size), h.2.1.below b, h.2.2.1.below b, h.2.2.2.below b⟩)
  obtain ⟨w8, hw8⟩ : ∃ V, V = w7.alloc (Obj.cells #[.int .i64 fr, .int .i64 pa, .slice (some ⟨g7, 0, none⟩) dl1 dl1] 35) := ⟨_, rfl⟩
  have b : Below w7.heap.size w7 w8 := by rw [hw8]; exact bel1 _
  have kx : Blk w8 w7.heap.size [.int .i64 fr, .int .i64 pa, .slice (some ⟨g7, 0, none⟩) dl1 dl1] := by rw [hw8]; exact Blk.new _ _
  have S7 : Hid (w7.heap.size + 1 ≤ w8.heap.size) := hide (by rw [hw8]; simp)
  have S8 : Hid (w7.heap.size ≤ w8.heap.size) := hide b.size
  have K : Hid (Below w.heap.size w w8 ∧ Blk w8 w.heap.size [.int .i64 fr, .int .i64 pa, .slice da1 dl1 dc1] ∧ OwnI w8 w5.heap.size (.slice a5 ((rjL fr pa ws js tk).length) c6) (rjL fr pa ws js tk) ∧ PpOwn w8 w6.heap.size (some ⟨g7, 0, none⟩) dl1 dl1 ws) := hide ((unhide KEPT) _ _ (unhide K) b)
  have mPd0 : w8.cell? ⟨w.heap.size, 0, none⟩ = some (.int .i64 fr) := (unhide K).2.1.c 0 (by simp)
  have mPd1 : w8.cell? ⟨w.heap.size, 1, none⟩ = some (.int .i64 pa) := (unhide K).2.1.c 1 (by simp)
  have mPd2 : w8.cell? ⟨w.heap.size, 2, none⟩ = some (.slice da1 dl1 dc1) := (unhide K).2.1.c 2 (by simp)
  rw [hw8] at mPd0 mPd1 mPd2
  obtain ⟨X8, hX8⟩ : ∃ X, w7.heap.size = X := ⟨_, rfl⟩
  rw [hX8] at kx
  have S9 : Hid (w7.heap.size = X8) := hide hX8
  have K : Hid (Below w.heap.size w w8 ∧ Blk w8 w.heap.size [.int .i64 fr, .int .i64 pa, .slice da1 dl1 dc1] ∧ OwnI w8 w5.heap.size (.slice a5 ((rjL fr pa ws js tk).length) c6) (rjL fr pa ws js tk) ∧ PpOwn w8 w6.heap.size (some ⟨g7, 0, none⟩) dl1 dl1 ws ∧ Blk w8 X8 [.int .i64 fr, .int .i64 pa, .slice (some ⟨g7, 0, none⟩) dl1 dl1]) := hide ⟨(unhide K).1, (unhide K).2.1, (unhide K).2.2.1, (unhide K).2.2.2, kx⟩
  clear KEPT b kx
  have KEPT : Hid (∀ W u3, (Below w.heap.size w W ∧ Blk W w.heap.size [.int .i64 fr, .int .i64 pa, .slice da1 dl1 dc1] ∧ OwnI W w5.heap.size (.slice a5 ((rjL fr pa ws js tk).length) c6) (rjL fr pa ws js tk) ∧ PpOwn W w6.heap.size (some ⟨g7, 0, none⟩) dl1 dl1 ws ∧ Blk W X8 [.int .i64 fr, .int .i64 pa, .slice (some ⟨g7, 0, none⟩) dl1 dl1]) → Below W.heap.size W u3 → (Below w.heap.size w u3 ∧ Blk u3 w.heap.size [.int .i64 fr, .int .i64 pa, .slice da1 dl1 dc1] ∧ OwnI u3 w5.heap.size (.slice a5 ((rjL fr pa ws js tk).length) c6) (rjL fr pa ws js tk) ∧ PpOwn u3 w6.heap.size (some ⟨g7, 0, none⟩) dl1 dl1 ws ∧ Blk u3 X8 [.int .i64 fr, .int .i64 pa, .slice (some ⟨g7, 0, none⟩) dl1 dl1])) := hide (fun W u3 h b => ⟨h.1.trans (b.mono h.1.size), h.2.1.below b, h.2.2.1.below b, h.2.2.2.1.below b, h.2.2.2.2.below b⟩)
  have Hw8 := hide hw8
  have HX8 := hide hX8
  clear hw8 hX8
  go_wp2_with fail
  try rw [← unhide Hw8]
  try rw [unhide HX8]
  clear Hw8 HX8 mPd0 mPd1 mPd2
  obtain ⟨g9, hg9⟩ : ∃ G, w8.heap.size = G := ⟨_, rfl⟩
  refine (toJobS_own _ _ _ _ _ ((unhide Rj).below (unhide K).1) hj1).mono ?_
  rintro x w9 ⟨rfl, oc, b⟩
  rw [hg9] at oc ⊢
  have Bg9 := hide hg9
  clear hg9
  have LXx1 : Hid (∀ g, (Value.slice (some ⟨g9, 0, none⟩) jl1 jl1).ownBlock = some g → w8.heap.size ≤ g ∧ g < w9.heap.size) := hide (by have e := unhide Bg9; have l := oc.lies; rw [← e] at l ⊢; exact l)
  have S10 : Hid (w8.heap.size ≤ w9.heap.size) := hide b.size
  have K : Hid (Below w.heap.size w w9 ∧ Blk w9 w.heap.size [.int .i64 fr, .int .i64 pa, .slice da1 dl1 dc1] ∧ OwnI w9 w5.heap.size (.slice a5 ((rjL fr pa ws js tk).length) c6) (rjL fr pa ws js tk) ∧ PpOwn w9 w6.heap.size (some ⟨g7, 0, none⟩) dl1 dl1 ws ∧ Blk w9 X8 [.int .i64 fr, .int .i64 pa, .slice (some ⟨g7, 0, none⟩) dl1 dl1]) := hide ((unhide KEPT) _ _ (unhide K) b)
  have K : Hid (Below w.heap.size w w9 ∧ Blk w9 w.heap.size [.int .i64 fr, .int .i64 pa, .slice da1 dl1 dc1] ∧ OwnI w9 w5.heap.size (.slice a5 ((rjL fr pa ws js tk).length) c6) (rjL fr pa ws js tk) ∧ PpOwn w9 w6.heap.size (some ⟨g7, 0, none⟩) dl1 dl1 ws ∧ Blk w9 X8 [.int .i64 fr, .int .i64 pa, .slice (some ⟨g7, 0, none⟩) dl1 dl1] ∧ OwnE 3 jbC w9 w8.heap.size 67 (.slice (some ⟨g9, 0, none⟩) jl1 jl1) js) := hide ⟨(unhide K).1, (unhide K).2.1, (unhide K).2.2.1, (unhide K).2.2.2.1, (unhide K).2.2.2.2, (by have e := unhide Bg9; rw [e]; exact oc)⟩
  clear KEPT oc b
  have KEPT : Hid (∀ W u3, (Below w.heap.size w W ∧ Blk W w.heap.size [.int .i64 fr, .int .i64 pa, .slice da1 dl1 dc1] ∧ OwnI W w5.heap.size (.slice a5 ((rjL fr pa ws js tk).length) c6) (rjL fr pa ws js tk) ∧ PpOwn W w6.heap.size (some ⟨g7, 0, none⟩) dl1 dl1 ws ∧ Blk W X8 [.int .i64 fr, .int .i64 pa, .slice (some ⟨g7, 0, none⟩) dl1 dl1] ∧ OwnE 3 jbC W w8.heap.size 67 (.slice (some ⟨g9, 0, none⟩) jl1 jl1) js) → Below W.heap.size W u3 → (Below w.heap.size w u3 ∧ Blk u3 w.heap.size [.int .i64 fr, .int .i64 pa, .slice da1 dl1 dc1] ∧ OwnI u3 w5.heap.size (.slice a5 ((rjL fr pa ws js tk).length) c6) (rjL fr pa ws js tk) ∧ PpOwn u3 w6.heap.size (some ⟨g7, 0, none⟩) dl1 dl1 ws ∧ Blk u3 X8 [.int .i64 fr, .int .i64 pa, .slice (some ⟨g7, 0, none⟩) dl1 dl1] ∧ OwnE 3 jbC u3 w8.heap.size 67 (.slice (some ⟨g9, 0, none⟩) jl1 jl1) js)) := hide (fun W u3 h b => ⟨h.1.trans (b.mono h.1.size), h.2.1.below b, h.2.2.1.below b, h.2.2.2.1.below b, h.2.2.2.2.1.below b, h.2.2.2.2.2.below b⟩)
  have mPd0 : w9.cell? ⟨w.heap.size, 0, none⟩ = some (.int .i64 fr) := (unhide K).2.1.c 0 (by simp)
  have mPd1 : w9.cell? ⟨w.heap.size, 1, none⟩ = some (.int .i64 pa) := (unhide K).2.1.c 1 (by simp)
  have mPd2 : w9.cell? ⟨w.heap.size, 2, none⟩ = some (.slice da1 dl1 dc1) := (unhide K).2.1.c 2 (by simp)
  have mQXx00 : w9.cell? ⟨X8, 0, none⟩ = some (.int .i64 fr) := (unhide K).2.2.2.2.1.c 0 (by simp)
  have mQXx01 : w9.cell? ⟨X8, 1, none⟩ = some (.int .i64 pa) := (unhide K).2.2.2.2.1.c 1 (by simp)
  have mQXx02 : w9.cell? ⟨X8, 2, none⟩ = some (.slice (some ⟨g7, 0, none⟩) dl1 dl1) := (unhide K).2.2.2.2.1.c 2 (by simp)
  go_wp2_with fail
  clear mPd0 mPd1 mPd2 mQXx00 mQXx01 mQXx02
  refine (implRunJobs_any _ _ _ _ _ _ _ _ _ _ _ _ (unhide K).2.2.2.1.read (unhide K).2.2.2.2.2.row ).mono ?_
  rintro x w10 ⟨a10, c11, rfl, oG_0, b⟩
  have LG0 : Hid (∀ g, (Value.slice a10 ((rjL fr pa ws js tk).length) c11).ownBlock = some g → w9.heap.size ≤ g ∧ g < w10.heap.size) := hide oG_0.lies
  have S11 : Hid (w9.heap.size ≤ w10.heap.size) := hide b.size
  have K : Hid (Below w.heap.size w w10 ∧ Blk w10 w.heap.size [.int .i64 fr, .int .i64 pa, .slice da1 dl1 dc1] ∧ OwnI w10 w5.heap.size (.slice a5 ((rjL fr pa ws js tk).length) c6) (rjL fr pa ws js tk) ∧ PpOwn w10 w6.heap.size (some ⟨g7, 0, none⟩) dl1 dl1 ws ∧ Blk w10 X8 [.int .i64 fr, .int .i64 pa, .slice (some ⟨g7, 0, none⟩) dl1 dl1] ∧ OwnE 3 jbC w10 w8.heap.size 67 (.slice (some ⟨g9, 0, none⟩) jl1 jl1) js) := hide ((unhide KEPT) _ _ (unhide K) b)
  have K : Hid (Below w.heap.size w w10 ∧ Blk w10 w.heap.size [.int .i64 fr, .int .i64 pa, .slice da1 dl1 dc1] ∧ OwnI w10 w5.heap.size (.slice a5 ((rjL fr pa ws js tk).length) c6) (rjL fr pa ws js tk) ∧ PpOwn w10 w6.heap.size (some ⟨g7, 0, none⟩) dl1 dl1 ws ∧ Blk w10 X8 [.int .i64 fr, .int .i64 pa, .slice (some ⟨g7, 0, none⟩) dl1 dl1] ∧ OwnE 3 jbC w10 w8.heap.size 67 (.slice (some ⟨g9, 0, none⟩) jl1 jl1) js ∧ OwnI w10 w9.heap.size (.slice a10 ((rjL fr pa ws js tk).length) c11) (rjL fr pa ws js tk)) := hide ⟨(unhide K).1, (unhide K).2.1, (unhide K).2.2.1, (unhide K).2.2.2.1, (unhide K).2.2.2.2.1, (unhide K).2.2.2.2.2, oG_0⟩
  clear KEPT
  have KEPT : Hid (∀ W u3, (Below w.heap.size w W ∧ Blk W w.heap.size [.int .i64 fr, .int .i64 pa, .slice da1 dl1 dc1] ∧ OwnI W w5.heap.size (.slice a5 ((rjL fr pa ws js tk).length) c6) (rjL fr pa ws js tk) ∧ PpOwn W w6.heap.size (some ⟨g7, 0, none⟩) dl1 dl1 ws ∧ Blk W X8 [.int .i64 fr, .int .i64 pa, .slice (some ⟨g7, 0, none⟩) dl1 dl1] ∧ OwnE 3 jbC W w8.heap.size 67 (.slice (some ⟨g9, 0, none⟩) jl1 jl1) js ∧ OwnI W w9.heap.size (.slice a10 ((rjL fr pa ws js tk).length) c11) (rjL fr pa ws js tk)) → Below W.heap.size W u3 → (Below w.heap.size w u3 ∧ Blk u3 w.heap.size [.int .i64 fr, .int .i64 pa, .slice da1 dl1 dc1] ∧ OwnI u3 w5.heap.size (.slice a5 ((rjL fr pa ws js tk).length) c6) (rjL fr pa ws js tk) ∧ PpOwn u3 w6.heap.size (some ⟨g7, 0, none⟩) dl1 dl1 ws ∧ Blk u3 X8 [.int .i64 fr, .int .i64 pa, .slice (some ⟨g7, 0, none⟩) dl1 dl1] ∧ OwnE 3 jbC u3 w8.heap.size 67 (.slice (some ⟨g9, 0, none⟩) jl1 jl1) js ∧ OwnI u3 w9.heap.size (.slice a10 ((rjL fr pa ws js tk).length) c11) (rjL fr pa ws js tk))) := hide (fun W u3 h b => ⟨h.1.trans (b.mono h.1.size), h.2.1.below b, h.2.2.1.below b, h.2.2.2.1.below b, h.2.2.2.2.1.below b, h.2.2.2.2.2.1.below b, h.2.2.2.2.2.2.below b⟩)
  clear oG_0
  clear b
  have mPd0 : w10.cell? ⟨w.heap.size, 0, none⟩ = some (.int .i64 fr) := (unhide K).2.1.c 0 (by simp)
  have mPd1 : w10.cell? ⟨w.heap.size, 1, none⟩ = some (.int .i64 pa) := (unhide K).2.1.c 1 (by simp)
  have mPd2 : w10.cell? ⟨w.heap.size, 2, none⟩ = some (.slice da1 dl1 dc1) := (unhide K).2.1.c 2 (by simp)
  have mQXx00 : w10.cell? ⟨X8, 0, none⟩ = some (.int .i64 fr) := (unhide K).2.2.2.2.1.c 0 (by simp)
  have mQXx01 : w10.cell? ⟨X8, 1, none⟩ = some (.int .i64 pa) := (unhide K).2.2.2.2.1.c 1 (by simp)
  have mQXx02 : w10.cell? ⟨X8, 2, none⟩ = some (.slice (some ⟨g7, 0, none⟩) dl1 dl1) := (unhide K).2.2.2.2.1.c 2 (by simp)
  go_wp2_with fail
  clear mPd0 mPd1 mPd2 mQXx00 mQXx01 mQXx02
  refine (eqIntS_same _ _ _ _ _ _ _ _ (unhide K).2.2.2.2.2.2.row (unhide K).2.2.1.row).mono ?_
  rintro x w11 ⟨rfl, b⟩
  have S12 : Hid (w10.heap.size ≤ w11.heap.size) := hide b.size
  have K : Hid (Below w.heap.size w w11 ∧ Blk w11 w.heap.size [.int .i64 fr, .int .i64 pa, .slice da1 dl1 dc1] ∧ OwnI w11 w5.heap.size (.slice a5 ((rjL fr pa ws js tk).length) c6) (rjL fr pa ws js tk) ∧ PpOwn w11 w6.heap.size (some ⟨g7, 0, none⟩) dl1 dl1 ws ∧ Blk w11 X8 [.int .i64 fr, .int .i64 pa, .slice (some ⟨g7, 0, none⟩) dl1 dl1] ∧ OwnE 3 jbC w11 w8.heap.size 67 (.slice (some ⟨g9, 0, none⟩) jl1 jl1) js ∧ OwnI w11 w9.heap.size (.slice a10 ((rjL fr pa ws js tk).length) c11) (rjL fr pa ws js tk)) := hide ((unhide KEPT) _ _ (unhide K) b)
  clear b
  have mPd0 : w11.cell? ⟨w.heap.size, 0, none⟩ = some (.int .i64 fr) := (unhide K).2.1.c 0 (by simp)
  have mPd1 : w11.cell? ⟨w.heap.size, 1, none⟩ = some (.int .i64 pa) := (unhide K).2.1.c 1 (by simp)
  have mPd2 : w11.cell? ⟨w.heap.size, 2, none⟩ = some (.slice da1 dl1 dc1) := (unhide K).2.1.c 2 (by simp)
  have mQXx00 : w11.cell? ⟨X8, 0, none⟩ = some (.int .i64 fr) := (unhide K).2.2.2.2.1.c 0 (by simp)
  have mQXx01 : w11.cell? ⟨X8, 1, none⟩ = some (.int .i64 pa) := (unhide K).2.2.2.2.1.c 1 (by simp)
  have mQXx02 : w11.cell? ⟨X8, 2, none⟩ = some (.slice (some ⟨g7, 0, none⟩) dl1 dl1) := (unhide K).2.2.2.2.1.c 2 (by simp)
  go_wp2_with fail
  clear mPd0 mPd1 mPd2 mQXx00 mQXx01 mQXx02
  have mQXx00 : w11.cell? ⟨X8, 0, none⟩ = some (.int .i64 fr) := (unhide K).2.2.2.2.1.c 0 (by simp)
  have mQXx01 : w11.cell? ⟨X8, 1, none⟩ = some (.int .i64 pa) := (unhide K).2.2.2.2.1.c 1 (by simp)
  have mQXx02 : w11.cell? ⟨X8, 2, none⟩ = some (.slice (some ⟨g7, 0, none⟩) dl1 dl1) := (unhide K).2.2.2.2.1.c 2 (by simp)
  have mPd0 : w11.cell? ⟨w.heap.size, 0, none⟩ = some (.int .i64 fr) := (unhide K).2.1.c 0 (by simp)
  have mPd1 : w11.cell? ⟨w.heap.size, 1, none⟩ = some (.int .i64 pa) := (unhide K).2.1.c 1 (by simp)
  have mPd2 : w11.cell? ⟨w.heap.size, 2, none⟩ = some (.slice da1 dl1 dc1) := (unhide K).2.1.c 2 (by simp)
  go_region_held3 (fun w' => w'.cell? ⟨X8, 0, none⟩ = some (.int .i64 fr) ∧ w'.cell? ⟨X8, 1, none⟩ = some (.int .i64 pa) ∧ w'.cell? ⟨X8, 2, none⟩ = some (.slice (some ⟨g7, 0, none⟩) dl1 dl1) ∧ w'.cell? ⟨w.heap.size, 0, none⟩ = some (.int .i64 fr) ∧ w'.cell? ⟨w.heap.size, 1, none⟩ = some (.int .i64 pa) ∧ w'.cell? ⟨w.heap.size, 2, none⟩ = some (.slice da1 dl1 dc1)) (go_keep)
    ((first
      | (go_at_call 17; refine (toPlan17_own _ _ _ _ _ _ _ (by first | exact (unhide Rd).below (unhide K).1 | exact ((unhide Rd).below (unhide K).1).below (bel0d 1)) hd1).mono ?_; rintro x w12 ⟨⟨e12, rfl, oc⟩, b⟩; have IC := hide oc.read; clear oc; have S13 : Hid (w11.heap.size ≤ w12.heap.size) := hide b.size; have K := hide (show Below w.heap.size w w12 ∧ Blk w12 w.heap.size [.int .i64 fr, .int .i64 pa, .slice da1 dl1 dc1] ∧ OwnI w12 w5.heap.size (.slice a5 ((rjL fr pa ws js tk).length) c6) (rjL fr pa ws js tk) ∧ PpOwn w12 w6.heap.size (some ⟨g7, 0, none⟩) dl1 dl1 ws ∧ Blk w12 X8 [.int .i64 fr, .int .i64 pa, .slice (some ⟨g7, 0, none⟩) dl1 dl1] ∧ OwnE 3 jbC w12 w8.heap.size 67 (.slice (some ⟨g9, 0, none⟩) jl1 jl1) js ∧ OwnI w12 w9.heap.size (.slice a10 ((rjL fr pa ws js tk).length) c11) (rjL fr pa ws js tk) from by first | exact (unhide KEPT) _ _ (unhide K) b | exact (unhide KEPT) _ _ ((unhide KEPT) _ _ (unhide K) (bel0d 1)) b); clear mQXx00 mQXx01 mQXx02 mPd0 mPd1 mPd2; have mQXx00 : w12.cell? ⟨X8, 0, none⟩ = some (.int .i64 fr) := (unhide K).2.2.2.2.1.c 0 (by simp); have mQXx01 : w12.cell? ⟨X8, 1, none⟩ = some (.int .i64 pa) := (unhide K).2.2.2.2.1.c 1 (by simp); have mQXx02 : w12.cell? ⟨X8, 2, none⟩ = some (.slice (some ⟨g7, 0, none⟩) dl1 dl1) := (unhide K).2.2.2.2.1.c 2 (by simp); have mPd0 : w12.cell? ⟨w.heap.size, 0, none⟩ = some (.int .i64 fr) := (unhide K).2.1.c 0 (by simp); have mPd1 : w12.cell? ⟨w.heap.size, 1, none⟩ = some (.int .i64 pa) := (unhide K).2.1.c 1 (by simp); have mPd2 : w12.cell? ⟨w.heap.size, 2, none⟩ = some (.slice da1 dl1 dc1) := (unhide K).2.1.c 2 (by simp); clear b)
      | (go_at_call 19; refine (eqPlan17_same _ _ _ _ _ _ _ _ _ (by first | exact (unhide K).2.2.2.1.read | exact (unhide K).2.2.2.1.read.below (bel0d 1)) (by first | exact unhide IC | exact (unhide IC).below (bel0d 1))).mono ?_; rintro x w13 ⟨rfl, b⟩; clear IC; have S14 : Hid (w12.heap.size ≤ w13.heap.size) := hide b.size; have K := hide (show Below w.heap.size w w13 ∧ Blk w13 w.heap.size [.int .i64 fr, .int .i64 pa, .slice da1 dl1 dc1] ∧ OwnI w13 w5.heap.size (.slice a5 ((rjL fr pa ws js tk).length) c6) (rjL fr pa ws js tk) ∧ PpOwn w13 w6.heap.size (some ⟨g7, 0, none⟩) dl1 dl1 ws ∧ Blk w13 X8 [.int .i64 fr, .int .i64 pa, .slice (some ⟨g7, 0, none⟩) dl1 dl1] ∧ OwnE 3 jbC w13 w8.heap.size 67 (.slice (some ⟨g9, 0, none⟩) jl1 jl1) js ∧ OwnI w13 w9.heap.size (.slice a10 ((rjL fr pa ws js tk).length) c11) (rjL fr pa ws js tk) from by first | exact (unhide KEPT) _ _ (unhide K) b | exact (unhide KEPT) _ _ ((unhide KEPT) _ _ (unhide K) (bel0d 1)) b); clear mQXx00 mQXx01 mQXx02 mPd0 mPd1 mPd2; have mQXx00 : w13.cell? ⟨X8, 0, none⟩ = some (.int .i64 fr) := (unhide K).2.2.2.2.1.c 0 (by simp); have mQXx01 : w13.cell? ⟨X8, 1, none⟩ = some (.int .i64 pa) := (unhide K).2.2.2.2.1.c 1 (by simp); have mQXx02 : w13.cell? ⟨X8, 2, none⟩ = some (.slice (some ⟨g7, 0, none⟩) dl1 dl1) := (unhide K).2.2.2.2.1.c 2 (by simp); have mPd0 : w13.cell? ⟨w.heap.size, 0, none⟩ = some (.int .i64 fr) := (unhide K).2.1.c 0 (by simp); have mPd1 : w13.cell? ⟨w.heap.size, 1, none⟩ = some (.int .i64 pa) := (unhide K).2.1.c 1 (by simp); have mPd2 : w13.cell? ⟨w.heap.size, 2, none⟩ = some (.slice da1 dl1 dc1) := (unhide K).2.1.c 2 (by simp); clear b)))
  clear mQXx00 mQXx01 mQXx02 mPd0 mPd1 mPd2
  have mPd0 : w13.cell? ⟨w.heap.size, 0, none⟩ = some (.int .i64 fr) := (unhide K).2.1.c 0 (by simp)
  have mPd1 : w13.cell? ⟨w.heap.size, 1, none⟩ = some (.int .i64 pa) := (unhide K).2.1.c 1 (by simp)
  have mPd2 : w13.cell? ⟨w.heap.size, 2, none⟩ = some (.slice da1 dl1 dc1) := (unhide K).2.1.c 2 (by simp)
  have mQXx00 : w13.cell? ⟨X8, 0, none⟩ = some (.int .i64 fr) := (unhide K).2.2.2.2.1.c 0 (by simp)
  have mQXx01 : w13.cell? ⟨X8, 1, none⟩ = some (.int .i64 pa) := (unhide K).2.2.2.2.1.c 1 (by simp)
  have mQXx02 : w13.cell? ⟨X8, 2, none⟩ = some (.slice (some ⟨g7, 0, none⟩) dl1 dl1) := (unhide K).2.2.2.2.1.c 2 (by simp)
  go_wp2_with fail
  clear mPd0 mPd1 mPd2 mQXx00 mQXx01 mQXx02
  obtain ⟨g13, hg13⟩ : ∃ G, w13.heap.size = G := ⟨_, rfl⟩
  refine (toJobS_own _ _ _ _ _ ((unhide Rj).below (unhide K).1) hj1).mono ?_
  rintro x w14 ⟨rfl, oc, b⟩
  rw [hg13] at oc ⊢
  have Bg13 := hide hg13
  clear hg13
  have IC := hide oc.row
  have S15 : Hid (w13.heap.size ≤ w14.heap.size) := hide b.size
  have K : Hid (Below w.heap.size w w14 ∧ Blk w14 w.heap.size [.int .i64 fr, .int .i64 pa, .slice da1 dl1 dc1] ∧ OwnI w14 w5.heap.size (.slice a5 ((rjL fr pa ws js tk).length) c6) (rjL fr pa ws js tk) ∧ PpOwn w14 w6.heap.size (some ⟨g7, 0, none⟩) dl1 dl1 ws ∧ Blk w14 X8 [.int .i64 fr, .int .i64 pa, .slice (some ⟨g7, 0, none⟩) dl1 dl1] ∧ OwnE 3 jbC w14 w8.heap.size 67 (.slice (some ⟨g9, 0, none⟩) jl1 jl1) js ∧ OwnI w14 w9.heap.size (.slice a10 ((rjL fr pa ws js tk).length) c11) (rjL fr pa ws js tk)) := hide ((unhide KEPT) _ _ (unhide K) b)
  clear oc b
  have mPd0 : w14.cell? ⟨w.heap.size, 0, none⟩ = some (.int .i64 fr) := (unhide K).2.1.c 0 (by simp)
  have mPd1 : w14.cell? ⟨w.heap.size, 1, none⟩ = some (.int .i64 pa) := (unhide K).2.1.c 1 (by simp)
  have mPd2 : w14.cell? ⟨w.heap.size, 2, none⟩ = some (.slice da1 dl1 dc1) := (unhide K).2.1.c 2 (by simp)
  have mQXx00 : w14.cell? ⟨X8, 0, none⟩ = some (.int .i64 fr) := (unhide K).2.2.2.2.1.c 0 (by simp)
  have mQXx01 : w14.cell? ⟨X8, 1, none⟩ = some (.int .i64 pa) := (unhide K).2.2.2.2.1.c 1 (by simp)
  have mQXx02 : w14.cell? ⟨X8, 2, none⟩ = some (.slice (some ⟨g7, 0, none⟩) dl1 dl1) := (unhide K).2.2.2.2.1.c 2 (by simp)
  go_wp2_with fail
  clear mPd0 mPd1 mPd2 mQXx00 mQXx01 mQXx02
  refine (eqJobS_same _ _ _ _ _ _ _ _ (unhide K).2.2.2.2.2.1.row (unhide IC)).mono ?_
  rintro x w15 ⟨rfl, b⟩
  have S16 : Hid (w14.heap.size ≤ w15.heap.size) := hide b.size
  have K : Hid (Below w.heap.size w w15 ∧ Blk w15 w.heap.size [.int .i64 fr, .int .i64 pa, .slice da1 dl1 dc1] ∧ OwnI w15 w5.heap.size (.slice a5 ((rjL fr pa ws js tk).length) c6) (rjL fr pa ws js tk) ∧ PpOwn w15 w6.heap.size (some ⟨g7, 0, none⟩) dl1 dl1 ws ∧ Blk w15 X8 [.int .i64 fr, .int .i64 pa, .slice (some ⟨g7, 0, none⟩) dl1 dl1] ∧ OwnE 3 jbC w15 w8.heap.size 67 (.slice (some ⟨g9, 0, none⟩) jl1 jl1) js ∧ OwnI w15 w9.heap.size (.slice a10 ((rjL fr pa ws js tk).length) c11) (rjL fr pa ws js tk)) := hide ((unhide KEPT) _ _ (unhide K) b)
  clear b IC
  have mPd0 : w15.cell? ⟨w.heap.size, 0, none⟩ = some (.int .i64 fr) := (unhide K).2.1.c 0 (by simp)
  have mPd1 : w15.cell? ⟨w.heap.size, 1, none⟩ = some (.int .i64 pa) := (unhide K).2.1.c 1 (by simp)
  have mPd2 : w15.cell? ⟨w.heap.size, 2, none⟩ = some (.slice da1 dl1 dc1) := (unhide K).2.1.c 2 (by simp)
  have mQXx00 : w15.cell? ⟨X8, 0, none⟩ = some (.int .i64 fr) := (unhide K).2.2.2.2.1.c 0 (by simp)
  have mQXx01 : w15.cell? ⟨X8, 1, none⟩ = some (.int .i64 pa) := (unhide K).2.2.2.2.1.c 1 (by simp)
  have mQXx02 : w15.cell? ⟨X8, 2, none⟩ = some (.slice (some ⟨g7, 0, none⟩) dl1 dl1) := (unhide K).2.2.2.2.1.c 2 (by simp)
  go_wp2_with fail
  clear mPd0 mPd1 mPd2 mQXx00 mQXx01 mQXx02
  refine (markPlan17_own _ _ _ _ _ _ _ 1 _ (unhide K).2.2.2.1 (unhide Ed1) (hd1) (by omega) (by omega) _ _ (unhide LXx0) (by have zz := (unhide K).1.size; have s0 := unhide S0; have s1 := unhide S1; have s2 := unhide S2; have s3 := unhide S3; have s4 := unhide S4; have s5 := unhide S5; have s6 := unhide S6; have s7 := unhide S7; have s8 := unhide S8; have s9 := unhide S9; have s10 := unhide S10; have s11 := unhide S11; have s12 := unhide S12; have s13 := unhide S13; have s14 := unhide S14; have s15 := unhide S15; have s16 := unhide S16; omega)).mono ?_
  rintro x w16 ⟨rfl, om, on⟩
  have S17 : Hid (w15.heap.size ≤ w16.heap.size) := hide on.size
  have K : Hid (Below w.heap.size w w16 ∧ Blk w16 w.heap.size [.int .i64 fr, .int .i64 pa, .slice da1 dl1 dc1] ∧ OwnI w16 w5.heap.size (.slice a5 ((rjL fr pa ws js tk).length) c6) (rjL fr pa ws js tk) ∧ Blk w16 X8 [.int .i64 fr, .int .i64 pa, .slice (some ⟨g7, 0, none⟩) dl1 dl1] ∧ OwnE 3 jbC w16 w8.heap.size 67 (.slice (some ⟨g9, 0, none⟩) jl1 jl1) js ∧ OwnI w16 w9.heap.size (.slice a10 ((rjL fr pa ws js tk).length) c11) (rjL fr pa ws js tk)) := hide ⟨below_only (unhide K).1 on (by have s0 := unhide S0; have s1 := unhide S1; have s2 := unhide S2; have s3 := unhide S3; have s4 := unhide S4; have s5 := unhide S5; have s6 := unhide S6; have s7 := unhide S7; have s8 := unhide S8; have s9 := unhide S9; have s10 := unhide S10; have s11 := unhide S11; have s12 := unhide S12; have s13 := unhide S13; have s14 := unhide S14; have s15 := unhide S15; have s16 := unhide S16; have s17 := unhide S17; omega) (Nat.le_refl _), (unhide K).2.1.only on (by have s0 := unhide S0; have s1 := unhide S1; have s2 := unhide S2; have s3 := unhide S3; have s4 := unhide S4; have s5 := unhide S5; have s6 := unhide S6; have s7 := unhide S7; have s8 := unhide S8; have s9 := unhide S9; have s10 := unhide S10; have s11 := unhide S11; have s12 := unhide S12; have s13 := unhide S13; have s14 := unhide S14; have s15 := unhide S15; have s16 := unhide S16; have s17 := unhide S17; omega), (unhide K).2.2.1.only on (fun g hg => by have := (unhide LW0) g hg; have s0 := unhide S0; have s1 := unhide S1; have s2 := unhide S2; have s3 := unhide S3; have s4 := unhide S4; have s5 := unhide S5; have s6 := unhide S6; have s7 := unhide S7; have s8 := unhide S8; have s9 := unhide S9; have s10 := unhide S10; have s11 := unhide S11; have s12 := unhide S12; have s13 := unhide S13; have s14 := unhide S14; have s15 := unhide S15; have s16 := unhide S16; have s17 := unhide S17; omega), (unhide K).2.2.2.2.1.only on (by have s0 := unhide S0; have s1 := unhide S1; have s2 := unhide S2; have s3 := unhide S3; have s4 := unhide S4; have s5 := unhide S5; have s6 := unhide S6; have s7 := unhide S7; have s8 := unhide S8; have s9 := unhide S9; have s10 := unhide S10; have s11 := unhide S11; have s12 := unhide S12; have s13 := unhide S13; have s14 := unhide S14; have s15 := unhide S15; have s16 := unhide S16; have s17 := unhide S17; omega), (unhide K).2.2.2.2.2.1.only on (fun g hg => by have := (unhide LXx1) g hg; have s0 := unhide S0; have s1 := unhide S1; have s2 := unhide S2; have s3 := unhide S3; have s4 := unhide S4; have s5 := unhide S5; have s6 := unhide S6; have s7 := unhide S7; have s8 := unhide S8; have s9 := unhide S9; have s10 := unhide S10; have s11 := unhide S11; have s12 := unhide S12; have s13 := unhide S13; have s14 := unhide S14; have s15 := unhide S15; have s16 := unhide S16; have s17 := unhide S17; omega), (unhide K).2.2.2.2.2.2.only on (fun g hg => by have := (unhide LG0) g hg; have s0 := unhide S0; have s1 := unhide S1; have s2 := unhide S2; have s3 := unhide S3; have s4 := unhide S4; have s5 := unhide S5; have s6 := unhide S6; have s7 := unhide S7; have s8 := unhide S8; have s9 := unhide S9; have s10 := unhide S10; have s11 := unhide S11; have s12 := unhide S12; have s13 := unhide S13; have s14 := unhide S14; have s15 := unhide S15; have s16 := unhide S16; have s17 := unhide S17; omega)⟩
  clear KEPT om on
  have KEPT : Hid (∀ W u3, (Below w.heap.size w W ∧ Blk W w.heap.size [.int .i64 fr, .int .i64 pa, .slice da1 dl1 dc1] ∧ OwnI W w5.heap.size (.slice a5 ((rjL fr pa ws js tk).length) c6) (rjL fr pa ws js tk) ∧ Blk W X8 [.int .i64 fr, .int .i64 pa, .slice (some ⟨g7, 0, none⟩) dl1 dl1] ∧ OwnE 3 jbC W w8.heap.size 67 (.slice (some ⟨g9, 0, none⟩) jl1 jl1) js ∧ OwnI W w9.heap.size (.slice a10 ((rjL fr pa ws js tk).length) c11) (rjL fr pa ws js tk)) → Below W.heap.size W u3 → (Below w.heap.size w u3 ∧ Blk u3 w.heap.size [.int .i64 fr, .int .i64 pa, .slice da1 dl1 dc1] ∧ OwnI u3 w5.heap.size (.slice a5 ((rjL fr pa ws js tk).length) c6) (rjL fr pa ws js tk) ∧ Blk u3 X8 [.int .i64 fr, .int .i64 pa, .slice (some ⟨g7, 0, none⟩) dl1 dl1] ∧ OwnE 3 jbC u3 w8.heap.size 67 (.slice (some ⟨g9, 0, none⟩) jl1 jl1) js ∧ OwnI u3 w9.heap.size (.slice a10 ((rjL fr pa ws js tk).length) c11) (rjL fr pa ws js tk))) := hide (fun W u3 h b => ⟨h.1.trans (b.mono h.1.size), h.2.1.below b, h.2.2.1.below b, h.2.2.2.1.below b, h.2.2.2.2.1.below b, h.2.2.2.2.2.below b⟩)
  have nk16 : ¬ (1 + 3 * (dl1 : Int) < 0) := by omega
  have mPd0 : w16.cell? ⟨w.heap.size, 0, none⟩ = some (.int .i64 fr) := (unhide K).2.1.c 0 (by simp)
  have mPd1 : w16.cell? ⟨w.heap.size, 1, none⟩ = some (.int .i64 pa) := (unhide K).2.1.c 1 (by simp)
  have mPd2 : w16.cell? ⟨w.heap.size, 2, none⟩ = some (.slice da1 dl1 dc1) := (unhide K).2.1.c 2 (by simp)
  have mQXx00 : w16.cell? ⟨X8, 0, none⟩ = some (.int .i64 fr) := (unhide K).2.2.2.1.c 0 (by simp)
  have mQXx01 : w16.cell? ⟨X8, 1, none⟩ = some (.int .i64 pa) := (unhide K).2.2.2.1.c 1 (by simp)
  have mQXx02 : w16.cell? ⟨X8, 2, none⟩ = some (.slice (some ⟨g7, 0, none⟩) dl1 dl1) := (unhide K).2.2.2.1.c 2 (by simp)
  go_wp2_with fail
  clear mPd0 mPd1 mPd2 mQXx00 mQXx01 mQXx02
  refine (markJobS_any _ _ _ _ _ (1 + 3 * (dl1 : Int)) _ (unhide K).2.2.2.2.1 (unhide Ej1) (hj1) (by omega) (by omega)).mono ?_
  rintro x w17 ⟨rfl, om, gr⟩
  have on := Only.of_row (lo := w8.heap.size) (hi := w9.heap.size) gr (unhide LXx1)
  have S18 : Hid (w16.heap.size ≤ w17.heap.size) := hide on.size
  have K : Hid (Below w.heap.size w w17 ∧ Blk w17 w.heap.size [.int .i64 fr, .int .i64 pa, .slice da1 dl1 dc1] ∧ OwnI w17 w5.heap.size (.slice a5 ((rjL fr pa ws js tk).length) c6) (rjL fr pa ws js tk) ∧ Blk w17 X8 [.int .i64 fr, .int .i64 pa, .slice (some ⟨g7, 0, none⟩) dl1 dl1] ∧ OwnI w17 w9.heap.size (.slice a10 ((rjL fr pa ws js tk).length) c11) (rjL fr pa ws js tk)) := hide ⟨below_only (unhide K).1 on (by have s0 := unhide S0; have s1 := unhide S1; have s2 := unhide S2; have s3 := unhide S3; have s4 := unhide S4; have s5 := unhide S5; have s6 := unhide S6; have s7 := unhide S7; have s8 := unhide S8; have s9 := unhide S9; have s10 := unhide S10; have s11 := unhide S11; have s12 := unhide S12; have s13 := unhide S13; have s14 := unhide S14; have s15 := unhide S15; have s16 := unhide S16; have s17 := unhide S17; have s18 := unhide S18; omega) (Nat.le_refl _), (unhide K).2.1.only on (by have s0 := unhide S0; have s1 := unhide S1; have s2 := unhide S2; have s3 := unhide S3; have s4 := unhide S4; have s5 := unhide S5; have s6 := unhide S6; have s7 := unhide S7; have s8 := unhide S8; have s9 := unhide S9; have s10 := unhide S10; have s11 := unhide S11; have s12 := unhide S12; have s13 := unhide S13; have s14 := unhide S14; have s15 := unhide S15; have s16 := unhide S16; have s17 := unhide S17; have s18 := unhide S18; omega), (unhide K).2.2.1.only on (fun g hg => by have := (unhide LW0) g hg; have s0 := unhide S0; have s1 := unhide S1; have s2 := unhide S2; have s3 := unhide S3; have s4 := unhide S4; have s5 := unhide S5; have s6 := unhide S6; have s7 := unhide S7; have s8 := unhide S8; have s9 := unhide S9; have s10 := unhide S10; have s11 := unhide S11; have s12 := unhide S12; have s13 := unhide S13; have s14 := unhide S14; have s15 := unhide S15; have s16 := unhide S16; have s17 := unhide S17; have s18 := unhide S18; omega), (unhide K).2.2.2.1.only on (by have s0 := unhide S0; have s1 := unhide S1; have s2 := unhide S2; have s3 := unhide S3; have s4 := unhide S4; have s5 := unhide S5; have s6 := unhide S6; have s7 := unhide S7; have s8 := unhide S8; have s9 := unhide S9; have s10 := unhide S10; have s11 := unhide S11; have s12 := unhide S12; have s13 := unhide S13; have s14 := unhide S14; have s15 := unhide S15; have s16 := unhide S16; have s17 := unhide S17; have s18 := unhide S18; omega), (unhide K).2.2.2.2.2.only on (fun g hg => by have := (unhide LG0) g hg; have s0 := unhide S0; have s1 := unhide S1; have s2 := unhide S2; have s3 := unhide S3; have s4 := unhide S4; have s5 := unhide S5; have s6 := unhide S6; have s7 := unhide S7; have s8 := unhide S8; have s9 := unhide S9; have s10 := unhide S10; have s11 := unhide S11; have s12 := unhide S12; have s13 := unhide S13; have s14 := unhide S14; have s15 := unhide S15; have s16 := unhide S16; have s17 := unhide S17; have s18 := unhide S18; omega)⟩
  clear KEPT om on gr
  have KEPT : Hid (∀ W u3, (Below w.heap.size w W ∧ Blk W w.heap.size [.int .i64 fr, .int .i64 pa, .slice da1 dl1 dc1] ∧ OwnI W w5.heap.size (.slice a5 ((rjL fr pa ws js tk).length) c6) (rjL fr pa ws js tk) ∧ Blk W X8 [.int .i64 fr, .int .i64 pa, .slice (some ⟨g7, 0, none⟩) dl1 dl1] ∧ OwnI W w9.heap.size (.slice a10 ((rjL fr pa ws js tk).length) c11) (rjL fr pa ws js tk)) → Below W.heap.size W u3 → (Below w.heap.size w u3 ∧ Blk u3 w.heap.size [.int .i64 fr, .int .i64 pa, .slice da1 dl1 dc1] ∧ OwnI u3 w5.heap.size (.slice a5 ((rjL fr pa ws js tk).length) c6) (rjL fr pa ws js tk) ∧ Blk u3 X8 [.int .i64 fr, .int .i64 pa, .slice (some ⟨g7, 0, none⟩) dl1 dl1] ∧ OwnI u3 w9.heap.size (.slice a10 ((rjL fr pa ws js tk).length) c11) (rjL fr pa ws js tk))) := hide (fun W u3 h b => ⟨h.1.trans (b.mono h.1.size), h.2.1.below b, h.2.2.1.below b, h.2.2.2.1.below b, h.2.2.2.2.below b⟩)
  have nk17 : ¬ (1 + 3 * (dl1 : Int) + 3 * (jl1 : Int) < 0) := by omega
  have mPd0 : w17.cell? ⟨w.heap.size, 0, none⟩ = some (.int .i64 fr) := (unhide K).2.1.c 0 (by simp)
  have mPd1 : w17.cell? ⟨w.heap.size, 1, none⟩ = some (.int .i64 pa) := (unhide K).2.1.c 1 (by simp)
  have mPd2 : w17.cell? ⟨w.heap.size, 2, none⟩ = some (.slice da1 dl1 dc1) := (unhide K).2.1.c 2 (by simp)
  have mQXx00 : w17.cell? ⟨X8, 0, none⟩ = some (.int .i64 fr) := (unhide K).2.2.2.1.c 0 (by simp)
  have mQXx01 : w17.cell? ⟨X8, 1, none⟩ = some (.int .i64 pa) := (unhide K).2.2.2.1.c 1 (by simp)
  have mQXx02 : w17.cell? ⟨X8, 2, none⟩ = some (.slice (some ⟨g7, 0, none⟩) dl1 dl1) := (unhide K).2.2.2.1.c 2 (by simp)
  go_wp2_with fail
  clear mPd0 mPd1 mPd2 mQXx00 mQXx01 mQXx02
  refine (eqIntS_same _ _ _ _ _ _ _ _ (unhide K).2.2.2.2.row (unhide K).2.2.1.row).mono ?_
  rintro x w18 ⟨rfl, b⟩
  have S19 : Hid (w17.heap.size ≤ w18.heap.size) := hide b.size
  have K : Hid (Below w.heap.size w w18 ∧ Blk w18 w.heap.size [.int .i64 fr, .int .i64 pa, .slice da1 dl1 dc1] ∧ OwnI w18 w5.heap.size (.slice a5 ((rjL fr pa ws js tk).length) c6) (rjL fr pa ws js tk) ∧ Blk w18 X8 [.int .i64 fr, .int .i64 pa, .slice (some ⟨g7, 0, none⟩) dl1 dl1] ∧ OwnI w18 w9.heap.size (.slice a10 ((rjL fr pa ws js tk).length) c11) (rjL fr pa ws js tk)) := hide ((unhide KEPT) _ _ (unhide K) b)
  clear b
  have mPd0 : w18.cell? ⟨w.heap.size, 0, none⟩ = some (.int .i64 fr) := (unhide K).2.1.c 0 (by simp)
  have mPd1 : w18.cell? ⟨w.heap.size, 1, none⟩ = some (.int .i64 pa) := (unhide K).2.1.c 1 (by simp)
  have mPd2 : w18.cell? ⟨w.heap.size, 2, none⟩ = some (.slice da1 dl1 dc1) := (unhide K).2.1.c 2 (by simp)
  have mQXx00 : w18.cell? ⟨X8, 0, none⟩ = some (.int .i64 fr) := (unhide K).2.2.2.1.c 0 (by simp)
  have mQXx01 : w18.cell? ⟨X8, 1, none⟩ = some (.int .i64 pa) := (unhide K).2.2.2.1.c 1 (by simp)
  have mQXx02 : w18.cell? ⟨X8, 2, none⟩ = some (.slice (some ⟨g7, 0, none⟩) dl1 dl1) := (unhide K).2.2.2.1.c 2 (by simp)
  go_wp2_with fail
  clear mPd0 mPd1 mPd2 mQXx00 mQXx01 mQXx02
  refine (markIntS_own _ _ _ _ _ 1 _ (unhide K).2.2.2.2 (rfl) (by have := hfl; omega) (by omega) (by omega)).mono ?_
  rintro x w19 ⟨rfl, om, gr⟩
  have on := Only.of_row (lo := w9.heap.size) (hi := w10.heap.size) gr (unhide LG0)
  have S20 : Hid (w18.heap.size ≤ w19.heap.size) := hide on.size
  have K : Hid (Below w.heap.size w w19 ∧ Blk w19 w.heap.size [.int .i64 fr, .int .i64 pa, .slice da1 dl1 dc1] ∧ OwnI w19 w5.heap.size (.slice a5 ((rjL fr pa ws js tk).length) c6) (rjL fr pa ws js tk) ∧ Blk w19 X8 [.int .i64 fr, .int .i64 pa, .slice (some ⟨g7, 0, none⟩) dl1 dl1] ∧ OwnI w19 w9.heap.size (.slice a10 ((rjL fr pa ws js tk).length) c11) (markI (rjL fr pa ws js tk) 1 ((rjL fr pa ws js tk).length))) := hide ⟨below_only (unhide K).1 on (by have s0 := unhide S0; have s1 := unhide S1; have s2 := unhide S2; have s3 := unhide S3; have s4 := unhide S4; have s5 := unhide S5; have s6 := unhide S6; have s7 := unhide S7; have s8 := unhide S8; have s9 := unhide S9; have s10 := unhide S10; have s11 := unhide S11; have s12 := unhide S12; have s13 := unhide S13; have s14 := unhide S14; have s15 := unhide S15; have s16 := unhide S16; have s17 := unhide S17; have s18 := unhide S18; have s19 := unhide S19; have s20 := unhide S20; omega) (Nat.le_refl _), (unhide K).2.1.only on (by have s0 := unhide S0; have s1 := unhide S1; have s2 := unhide S2; have s3 := unhide S3; have s4 := unhide S4; have s5 := unhide S5; have s6 := unhide S6; have s7 := unhide S7; have s8 := unhide S8; have s9 := unhide S9; have s10 := unhide S10; have s11 := unhide S11; have s12 := unhide S12; have s13 := unhide S13; have s14 := unhide S14; have s15 := unhide S15; have s16 := unhide S16; have s17 := unhide S17; have s18 := unhide S18; have s19 := unhide S19; have s20 := unhide S20; omega), (unhide K).2.2.1.only on (fun g hg => by have := (unhide LW0) g hg; have s0 := unhide S0; have s1 := unhide S1; have s2 := unhide S2; have s3 := unhide S3; have s4 := unhide S4; have s5 := unhide S5; have s6 := unhide S6; have s7 := unhide S7; have s8 := unhide S8; have s9 := unhide S9; have s10 := unhide S10; have s11 := unhide S11; have s12 := unhide S12; have s13 := unhide S13; have s14 := unhide S14; have s15 := unhide S15; have s16 := unhide S16; have s17 := unhide S17; have s18 := unhide S18; have s19 := unhide S19; have s20 := unhide S20; omega), (unhide K).2.2.2.1.only on (by have s0 := unhide S0; have s1 := unhide S1; have s2 := unhide S2; have s3 := unhide S3; have s4 := unhide S4; have s5 := unhide S5; have s6 := unhide S6; have s7 := unhide S7; have s8 := unhide S8; have s9 := unhide S9; have s10 := unhide S10; have s11 := unhide S11; have s12 := unhide S12; have s13 := unhide S13; have s14 := unhide S14; have s15 := unhide S15; have s16 := unhide S16; have s17 := unhide S17; have s18 := unhide S18; have s19 := unhide S19; have s20 := unhide S20; omega), om⟩
  clear KEPT om on gr
  have KEPT : Hid (∀ W u3, (Below w.heap.size w W ∧ Blk W w.heap.size [.int .i64 fr, .int .i64 pa, .slice da1 dl1 dc1] ∧ OwnI W w5.heap.size (.slice a5 ((rjL fr pa ws js tk).length) c6) (rjL fr pa ws js tk) ∧ Blk W X8 [.int .i64 fr, .int .i64 pa, .slice (some ⟨g7, 0, none⟩) dl1 dl1] ∧ OwnI W w9.heap.size (.slice a10 ((rjL fr pa ws js tk).length) c11) (markI (rjL fr pa ws js tk) 1 ((rjL fr pa ws js tk).length))) → Below W.heap.size W u3 → (Below w.heap.size w u3 ∧ Blk u3 w.heap.size [.int .i64 fr, .int .i64 pa, .slice da1 dl1 dc1] ∧ OwnI u3 w5.heap.size (.slice a5 ((rjL fr pa ws js tk).length) c6) (rjL fr pa ws js tk) ∧ Blk u3 X8 [.int .i64 fr, .int .i64 pa, .slice (some ⟨g7, 0, none⟩) dl1 dl1] ∧ OwnI u3 w9.heap.size (.slice a10 ((rjL fr pa ws js tk).length) c11) (markI (rjL fr pa ws js tk) 1 ((rjL fr pa ws js tk).length)))) := hide (fun W u3 h b => ⟨h.1.trans (b.mono h.1.size), h.2.1.below b, h.2.2.1.below b, h.2.2.2.1.below b, h.2.2.2.2.below b⟩)
  have mPd0 : w19.cell? ⟨w.heap.size, 0, none⟩ = some (.int .i64 fr) := (unhide K).2.1.c 0 (by simp)
  have mPd1 : w19.cell? ⟨w.heap.size, 1, none⟩ = some (.int .i64 pa) := (unhide K).2.1.c 1 (by simp)
  have mPd2 : w19.cell? ⟨w.heap.size, 2, none⟩ = some (.slice da1 dl1 dc1) := (unhide K).2.1.c 2 (by simp)
  have mQXx00 : w19.cell? ⟨X8, 0, none⟩ = some (.int .i64 fr) := (unhide K).2.2.2.1.c 0 (by simp)
  have mQXx01 : w19.cell? ⟨X8, 1, none⟩ = some (.int .i64 pa) := (unhide K).2.2.2.1.c 1 (by simp)
  have mQXx02 : w19.cell? ⟨X8, 2, none⟩ = some (.slice (some ⟨g7, 0, none⟩) dl1 dl1) := (unhide K).2.2.2.1.c 2 (by simp)
  go_wp2_with fail
  clear mPd0 mPd1 mPd2 mQXx00 mQXx01 mQXx02
  refine (heldIntS_any _ _ _ _ _ 1 _ (unhide K).2.2.2.2 (rfl) (by have := hfl; omega) (by omega) (by omega)).mono ?_
  rintro x w20 ⟨rfl, hw⟩
  have b : Below w19.heap.size w19 w20 := by rw [hw]; exact Below.refl _ _
  clear hw
  have S21 : Hid (w19.heap.size ≤ w20.heap.size) := hide b.size
  have K : Hid (Below w.heap.size w w20 ∧ Blk w20 w.heap.size [.int .i64 fr, .int .i64 pa, .slice da1 dl1 dc1] ∧ OwnI w20 w5.heap.size (.slice a5 ((rjL fr pa ws js tk).length) c6) (rjL fr pa ws js tk) ∧ Blk w20 X8 [.int .i64 fr, .int .i64 pa, .slice (some ⟨g7, 0, none⟩) dl1 dl1] ∧ OwnI w20 w9.heap.size (.slice a10 ((rjL fr pa ws js tk).length) c11) (markI (rjL fr pa ws js tk) 1 ((rjL fr pa ws js tk).length))) := hide ((unhide KEPT) _ _ (unhide K) b)
  clear b
  have nq20 : ¬ (1 + ((rjL fr pa ws js tk).length : Int) < 0) := by omega
  have nn20 : (1 + ((rjL fr pa ws js tk).length : Int) != 1 + ((rjL fr pa ws js tk).length : Int)) = false := by simp
  have mPd0 : w20.cell? ⟨w.heap.size, 0, none⟩ = some (.int .i64 fr) := (unhide K).2.1.c 0 (by simp)
  have mPd1 : w20.cell? ⟨w.heap.size, 1, none⟩ = some (.int .i64 pa) := (unhide K).2.1.c 1 (by simp)
  have mPd2 : w20.cell? ⟨w.heap.size, 2, none⟩ = some (.slice da1 dl1 dc1) := (unhide K).2.1.c 2 (by simp)
  have mQXx00 : w20.cell? ⟨X8, 0, none⟩ = some (.int .i64 fr) := (unhide K).2.2.2.1.c 0 (by simp)
  have mQXx01 : w20.cell? ⟨X8, 1, none⟩ = some (.int .i64 pa) := (unhide K).2.2.2.1.c 1 (by simp)
  have mQXx02 : w20.cell? ⟨X8, 2, none⟩ = some (.slice (some ⟨g7, 0, none⟩) dl1 dl1) := (unhide K).2.2.2.1.c 2 (by simp)
  go_wp2_with fail
  clear mPd0 mPd1 mPd2 mQXx00 mQXx01 mQXx02
  refine (toPlan17_own _ _ _ _ _ _ _ ((unhide Rd).below (unhide K).1) hd1).mono ?_
  rintro x w21 ⟨⟨g14, rfl, oc⟩, b⟩
  have LT21 : Hid (PpLies w20.heap.size w21.heap.size (some ⟨g14, 0, none⟩) dl1 dl1) := hide oc.lies
  have S22 : Hid (w20.heap.size ≤ w21.heap.size) := hide b.size
  have K : Hid (Below w.heap.size w w21 ∧ Blk w21 w.heap.size [.int .i64 fr, .int .i64 pa, .slice da1 dl1 dc1] ∧ OwnI w21 w5.heap.size (.slice a5 ((rjL fr pa ws js tk).length) c6) (rjL fr pa ws js tk) ∧ Blk w21 X8 [.int .i64 fr, .int .i64 pa, .slice (some ⟨g7, 0, none⟩) dl1 dl1] ∧ OwnI w21 w9.heap.size (.slice a10 ((rjL fr pa ws js tk).length) c11) (markI (rjL fr pa ws js tk) 1 ((rjL fr pa ws js tk).length))) := hide ((unhide KEPT) _ _ (unhide K) b)
  have K : Hid (Below w.heap.size w w21 ∧ Blk w21 w.heap.size [.int .i64 fr, .int .i64 pa, .slice da1 dl1 dc1] ∧ OwnI w21 w5.heap.size (.slice a5 ((rjL fr pa ws js tk).length) c6) (rjL fr pa ws js tk) ∧ Blk w21 X8 [.int .i64 fr, .int .i64 pa, .slice (some ⟨g7, 0, none⟩) dl1 dl1] ∧ OwnI w21 w9.heap.size (.slice a10 ((rjL fr pa ws js tk).length) c11) (markI (rjL fr pa ws js tk) 1 ((rjL fr pa ws js tk).length)) ∧ PpOwn w21 w20.heap.size (some ⟨g14, 0, none⟩) dl1 dl1 ws) := hide ⟨(unhide K).1, (unhide K).2.1, (unhide K).2.2.1, (unhide K).2.2.2.1, (unhide K).2.2.2.2, oc⟩
  clear KEPT oc b
  have KEPT : Hid (∀ W u3, (Below w.heap.size w W ∧ Blk W w.heap.size [.int .i64 fr, .int .i64 pa, .slice da1 dl1 dc1] ∧ OwnI W w5.heap.size (.slice a5 ((rjL fr pa ws js tk).length) c6) (rjL fr pa ws js tk) ∧ Blk W X8 [.int .i64 fr, .int .i64 pa, .slice (some ⟨g7, 0, none⟩) dl1 dl1] ∧ OwnI W w9.heap.size (.slice a10 ((rjL fr pa ws js tk).length) c11) (markI (rjL fr pa ws js tk) 1 ((rjL fr pa ws js tk).length)) ∧ PpOwn W w20.heap.size (some ⟨g14, 0, none⟩) dl1 dl1 ws) → Below W.heap.size W u3 → (Below w.heap.size w u3 ∧ Blk u3 w.heap.size [.int .i64 fr, .int .i64 pa, .slice da1 dl1 dc1] ∧ OwnI u3 w5.heap.size (.slice a5 ((rjL fr pa ws js tk).length) c6) (rjL fr pa ws js tk) ∧ Blk u3 X8 [.int .i64 fr, .int .i64 pa, .slice (some ⟨g7, 0, none⟩) dl1 dl1] ∧ OwnI u3 w9.heap.size (.slice a10 ((rjL fr pa ws js tk).length) c11) (markI (rjL fr pa ws js tk) 1 ((rjL fr pa ws js tk).length)) ∧ PpOwn u3 w20.heap.size (some ⟨g14, 0, none⟩) dl1 dl1 ws)) := hide (fun W u3 h b => ⟨h.1.trans (b.mono h.1.size), h.2.1.below b, h.2.2.1.below b, h.2.2.2.1.below b, h.2.2.2.2.1.below b, h.2.2.2.2.2.below b⟩)
  have mPd0 : w21.cell? ⟨w.heap.size, 0, none⟩ = some (.int .i64 fr) := (unhide K).2.1.c 0 (by simp)
  have mPd1 : w21.cell? ⟨w.heap.size, 1, none⟩ = some (.int .i64 pa) := (unhide K).2.1.c 1 (by simp)
  have mPd2 : w21.cell? ⟨w.heap.size, 2, none⟩ = some (.slice da1 dl1 dc1) := (unhide K).2.1.c 2 (by simp)
  have mQXx00 : w21.cell? ⟨X8, 0, none⟩ = some (.int .i64 fr) := (unhide K).2.2.2.1.c 0 (by simp)
  have mQXx01 : w21.cell? ⟨X8, 1, none⟩ = some (.int .i64 pa) := (unhide K).2.2.2.1.c 1 (by simp)
  have mQXx02 : w21.cell? ⟨X8, 2, none⟩ = some (.slice (some ⟨g7, 0, none⟩) dl1 dl1) := (unhide K).2.2.2.1.c 2 (by simp)
  go_wp2_with fail
  clear mPd0 mPd1 mPd2 mQXx00 mQXx01 mQXx02
  obtain ⟨g15, hg15⟩ : ∃ G, w21.heap.size = G := ⟨_, rfl⟩
  refine (toJobS_own _ _ _ _ _ ((unhide Rj).below (unhide K).1) hj1).mono ?_
  rintro x w22 ⟨rfl, oc, b⟩
  rw [hg15] at oc ⊢
  have Bg15 := hide hg15
  clear hg15
  have LT22 : Hid (∀ g, (Value.slice (some ⟨g15, 0, none⟩) jl1 jl1).ownBlock = some g → w21.heap.size ≤ g ∧ g < w22.heap.size) := hide (by have e := unhide Bg15; have l := oc.lies; rw [← e] at l ⊢; exact l)
  have S23 : Hid (w21.heap.size ≤ w22.heap.size) := hide b.size
  have K : Hid (Below w.heap.size w w22 ∧ Blk w22 w.heap.size [.int .i64 fr, .int .i64 pa, .slice da1 dl1 dc1] ∧ OwnI w22 w5.heap.size (.slice a5 ((rjL fr pa ws js tk).length) c6) (rjL fr pa ws js tk) ∧ Blk w22 X8 [.int .i64 fr, .int .i64 pa, .slice (some ⟨g7, 0, none⟩) dl1 dl1] ∧ OwnI w22 w9.heap.size (.slice a10 ((rjL fr pa ws js tk).length) c11) (markI (rjL fr pa ws js tk) 1 ((rjL fr pa ws js tk).length)) ∧ PpOwn w22 w20.heap.size (some ⟨g14, 0, none⟩) dl1 dl1 ws) := hide ((unhide KEPT) _ _ (unhide K) b)
  have K : Hid (Below w.heap.size w w22 ∧ Blk w22 w.heap.size [.int .i64 fr, .int .i64 pa, .slice da1 dl1 dc1] ∧ OwnI w22 w5.heap.size (.slice a5 ((rjL fr pa ws js tk).length) c6) (rjL fr pa ws js tk) ∧ Blk w22 X8 [.int .i64 fr, .int .i64 pa, .slice (some ⟨g7, 0, none⟩) dl1 dl1] ∧ OwnI w22 w9.heap.size (.slice a10 ((rjL fr pa ws js tk).length) c11) (markI (rjL fr pa ws js tk) 1 ((rjL fr pa ws js tk).length)) ∧ PpOwn w22 w20.heap.size (some ⟨g14, 0, none⟩) dl1 dl1 ws ∧ OwnE 3 jbC w22 w21.heap.size 67 (.slice (some ⟨g15, 0, none⟩) jl1 jl1) js) := hide ⟨(unhide K).1, (unhide K).2.1, (unhide K).2.2.1, (unhide K).2.2.2.1, (unhide K).2.2.2.2.1, (unhide K).2.2.2.2.2, (by have e := unhide Bg15; rw [e]; exact oc)⟩
  clear KEPT oc b
  have KEPT : Hid (∀ W u3, (Below w.heap.size w W ∧ Blk W w.heap.size [.int .i64 fr, .int .i64 pa, .slice da1 dl1 dc1] ∧ OwnI W w5.heap.size (.slice a5 ((rjL fr pa ws js tk).length) c6) (rjL fr pa ws js tk) ∧ Blk W X8 [.int .i64 fr, .int .i64 pa, .slice (some ⟨g7, 0, none⟩) dl1 dl1] ∧ OwnI W w9.heap.size (.slice a10 ((rjL fr pa ws js tk).length) c11) (markI (rjL fr pa ws js tk) 1 ((rjL fr pa ws js tk).length)) ∧ PpOwn W w20.heap.size (some ⟨g14, 0, none⟩) dl1 dl1 ws ∧ OwnE 3 jbC W w21.heap.size 67 (.slice (some ⟨g15, 0, none⟩) jl1 jl1) js) → Below W.heap.size W u3 → (Below w.heap.size w u3 ∧ Blk u3 w.heap.size [.int .i64 fr, .int .i64 pa, .slice da1 dl1 dc1] ∧ OwnI u3 w5.heap.size (.slice a5 ((rjL fr pa ws js tk).length) c6) (rjL fr pa ws js tk) ∧ Blk u3 X8 [.int .i64 fr, .int .i64 pa, .slice (some ⟨g7, 0, none⟩) dl1 dl1] ∧ OwnI u3 w9.heap.size (.slice a10 ((rjL fr pa ws js tk).length) c11) (markI (rjL fr pa ws js tk) 1 ((rjL fr pa ws js tk).length)) ∧ PpOwn u3 w20.heap.size (some ⟨g14, 0, none⟩) dl1 dl1 ws ∧ OwnE 3 jbC u3 w21.heap.size 67 (.slice (some ⟨g15, 0, none⟩) jl1 jl1) js)) := hide (fun W u3 h b => ⟨h.1.trans (b.mono h.1.size), h.2.1.below b, h.2.2.1.below b, h.2.2.2.1.below b, h.2.2.2.2.1.below b, h.2.2.2.2.2.1.below b, h.2.2.2.2.2.2.below b⟩)
  have mPd0 : w22.cell? ⟨w.heap.size, 0, none⟩ = some (.int .i64 fr) := (unhide K).2.1.c 0 (by simp)
  have mPd1 : w22.cell? ⟨w.heap.size, 1, none⟩ = some (.int .i64 pa) := (unhide K).2.1.c 1 (by simp)
  have mPd2 : w22.cell? ⟨w.heap.size, 2, none⟩ = some (.slice da1 dl1 dc1) := (unhide K).2.1.c 2 (by simp)
  have mQXx00 : w22.cell? ⟨X8, 0, none⟩ = some (.int .i64 fr) := (unhide K).2.2.2.1.c 0 (by simp)
  have mQXx01 : w22.cell? ⟨X8, 1, none⟩ = some (.int .i64 pa) := (unhide K).2.2.2.1.c 1 (by simp)
  have mQXx02 : w22.cell? ⟨X8, 2, none⟩ = some (.slice (some ⟨g7, 0, none⟩) dl1 dl1) := (unhide K).2.2.2.1.c 2 (by simp)
  go_wp2_with fail
  clear mPd0 mPd1 mPd2 mQXx00 mQXx01 mQXx02
  refine (implRunJobs_any _ _ _ _ _ _ _ _ _ _ _ _ (unhide K).2.2.2.2.2.1.read (unhide K).2.2.2.2.2.2.row ).mono ?_
  rintro x w23 ⟨a16, c17, rfl, oH_0, b⟩
  have LH0 : Hid (∀ g, (Value.slice a16 ((rjL fr pa ws js tk).length) c17).ownBlock = some g → w22.heap.size ≤ g ∧ g < w23.heap.size) := hide oH_0.lies
  have S24 : Hid (w22.heap.size ≤ w23.heap.size) := hide b.size
  have K : Hid (Below w.heap.size w w23 ∧ Blk w23 w.heap.size [.int .i64 fr, .int .i64 pa, .slice da1 dl1 dc1] ∧ OwnI w23 w5.heap.size (.slice a5 ((rjL fr pa ws js tk).length) c6) (rjL fr pa ws js tk) ∧ Blk w23 X8 [.int .i64 fr, .int .i64 pa, .slice (some ⟨g7, 0, none⟩) dl1 dl1] ∧ OwnI w23 w9.heap.size (.slice a10 ((rjL fr pa ws js tk).length) c11) (markI (rjL fr pa ws js tk) 1 ((rjL fr pa ws js tk).length)) ∧ PpOwn w23 w20.heap.size (some ⟨g14, 0, none⟩) dl1 dl1 ws ∧ OwnE 3 jbC w23 w21.heap.size 67 (.slice (some ⟨g15, 0, none⟩) jl1 jl1) js) := hide ((unhide KEPT) _ _ (unhide K) b)
  have K : Hid (Below w.heap.size w w23 ∧ Blk w23 w.heap.size [.int .i64 fr, .int .i64 pa, .slice da1 dl1 dc1] ∧ OwnI w23 w5.heap.size (.slice a5 ((rjL fr pa ws js tk).length) c6) (rjL fr pa ws js tk) ∧ Blk w23 X8 [.int .i64 fr, .int .i64 pa, .slice (some ⟨g7, 0, none⟩) dl1 dl1] ∧ OwnI w23 w9.heap.size (.slice a10 ((rjL fr pa ws js tk).length) c11) (markI (rjL fr pa ws js tk) 1 ((rjL fr pa ws js tk).length)) ∧ PpOwn w23 w20.heap.size (some ⟨g14, 0, none⟩) dl1 dl1 ws ∧ OwnE 3 jbC w23 w21.heap.size 67 (.slice (some ⟨g15, 0, none⟩) jl1 jl1) js ∧ OwnI w23 w22.heap.size (.slice a16 ((rjL fr pa ws js tk).length) c17) (rjL fr pa ws js tk)) := hide ⟨(unhide K).1, (unhide K).2.1, (unhide K).2.2.1, (unhide K).2.2.2.1, (unhide K).2.2.2.2.1, (unhide K).2.2.2.2.2.1, (unhide K).2.2.2.2.2.2, oH_0⟩
  clear KEPT
  have KEPT : Hid (∀ W u3, (Below w.heap.size w W ∧ Blk W w.heap.size [.int .i64 fr, .int .i64 pa, .slice da1 dl1 dc1] ∧ OwnI W w5.heap.size (.slice a5 ((rjL fr pa ws js tk).length) c6) (rjL fr pa ws js tk) ∧ Blk W X8 [.int .i64 fr, .int .i64 pa, .slice (some ⟨g7, 0, none⟩) dl1 dl1] ∧ OwnI W w9.heap.size (.slice a10 ((rjL fr pa ws js tk).length) c11) (markI (rjL fr pa ws js tk) 1 ((rjL fr pa ws js tk).length)) ∧ PpOwn W w20.heap.size (some ⟨g14, 0, none⟩) dl1 dl1 ws ∧ OwnE 3 jbC W w21.heap.size 67 (.slice (some ⟨g15, 0, none⟩) jl1 jl1) js ∧ OwnI W w22.heap.size (.slice a16 ((rjL fr pa ws js tk).length) c17) (rjL fr pa ws js tk)) → Below W.heap.size W u3 → (Below w.heap.size w u3 ∧ Blk u3 w.heap.size [.int .i64 fr, .int .i64 pa, .slice da1 dl1 dc1] ∧ OwnI u3 w5.heap.size (.slice a5 ((rjL fr pa ws js tk).length) c6) (rjL fr pa ws js tk) ∧ Blk u3 X8 [.int .i64 fr, .int .i64 pa, .slice (some ⟨g7, 0, none⟩) dl1 dl1] ∧ OwnI u3 w9.heap.size (.slice a10 ((rjL fr pa ws js tk).length) c11) (markI (rjL fr pa ws js tk) 1 ((rjL fr pa ws js tk).length)) ∧ PpOwn u3 w20.heap.size (some ⟨g14, 0, none⟩) dl1 dl1 ws ∧ OwnE 3 jbC u3 w21.heap.size 67 (.slice (some ⟨g15, 0, none⟩) jl1 jl1) js ∧ OwnI u3 w22.heap.size (.slice a16 ((rjL fr pa ws js tk).length) c17) (rjL fr pa ws js tk))) := hide (fun W u3 h b => ⟨h.1.trans (b.mono h.1.size), h.2.1.below b, h.2.2.1.below b, h.2.2.2.1.below b, h.2.2.2.2.1.below b, h.2.2.2.2.2.1.below b, h.2.2.2.2.2.2.1.below b, h.2.2.2.2.2.2.2.below b⟩)
  clear oH_0
  clear b
  have K : Hid (Below w.heap.size w w23 ∧ Blk w23 w.heap.size [.int .i64 fr, .int .i64 pa, .slice da1 dl1 dc1] ∧ OwnI w23 w5.heap.size (.slice a5 ((rjL fr pa ws js tk).length) c6) (rjL fr pa ws js tk) ∧ Blk w23 X8 [.int .i64 fr, .int .i64 pa, .slice (some ⟨g7, 0, none⟩) dl1 dl1] ∧ OwnI w23 w9.heap.size (.slice a10 ((rjL fr pa ws js tk).length) c11) (markI (rjL fr pa ws js tk) 1 ((rjL fr pa ws js tk).length)) ∧ OwnI w23 w22.heap.size (.slice a16 ((rjL fr pa ws js tk).length) c17) (rjL fr pa ws js tk)) := hide ⟨(unhide K).1, (unhide K).2.1, (unhide K).2.2.1, (unhide K).2.2.2.1, (unhide K).2.2.2.2.1, (unhide K).2.2.2.2.2.2.2⟩
  clear KEPT
  have KEPT : Hid (∀ W u3, (Below w.heap.size w W ∧ Blk W w.heap.size [.int .i64 fr, .int .i64 pa, .slice da1 dl1 dc1] ∧ OwnI W w5.heap.size (.slice a5 ((rjL fr pa ws js tk).length) c6) (rjL fr pa ws js tk) ∧ Blk W X8 [.int .i64 fr, .int .i64 pa, .slice (some ⟨g7, 0, none⟩) dl1 dl1] ∧ OwnI W w9.heap.size (.slice a10 ((rjL fr pa ws js tk).length) c11) (markI (rjL fr pa ws js tk) 1 ((rjL fr pa ws js tk).length)) ∧ OwnI W w22.heap.size (.slice a16 ((rjL fr pa ws js tk).length) c17) (rjL fr pa ws js tk)) → Below W.heap.size W u3 → (Below w.heap.size w u3 ∧ Blk u3 w.heap.size [.int .i64 fr, .int .i64 pa, .slice da1 dl1 dc1] ∧ OwnI u3 w5.heap.size (.slice a5 ((rjL fr pa ws js tk).length) c6) (rjL fr pa ws js tk) ∧ Blk u3 X8 [.int .i64 fr, .int .i64 pa, .slice (some ⟨g7, 0, none⟩) dl1 dl1] ∧ OwnI u3 w9.heap.size (.slice a10 ((rjL fr pa ws js tk).length) c11) (markI (rjL fr pa ws js tk) 1 ((rjL fr pa ws js tk).length)) ∧ OwnI u3 w22.heap.size (.slice a16 ((rjL fr pa ws js tk).length) c17) (rjL fr pa ws js tk))) := hide (fun W u3 h b => ⟨h.1.trans (b.mono h.1.size), h.2.1.below b, h.2.2.1.below b, h.2.2.2.1.below b, h.2.2.2.2.1.below b, h.2.2.2.2.2.below b⟩)
  have mPd0 : w23.cell? ⟨w.heap.size, 0, none⟩ = some (.int .i64 fr) := (unhide K).2.1.c 0 (by simp)
  have mPd1 : w23.cell? ⟨w.heap.size, 1, none⟩ = some (.int .i64 pa) := (unhide K).2.1.c 1 (by simp)
  have mPd2 : w23.cell? ⟨w.heap.size, 2, none⟩ = some (.slice da1 dl1 dc1) := (unhide K).2.1.c 2 (by simp)
  have mQXx00 : w23.cell? ⟨X8, 0, none⟩ = some (.int .i64 fr) := (unhide K).2.2.2.1.c 0 (by simp)
  have mQXx01 : w23.cell? ⟨X8, 1, none⟩ = some (.int .i64 pa) := (unhide K).2.2.2.1.c 1 (by simp)
  have mQXx02 : w23.cell? ⟨X8, 2, none⟩ = some (.slice (some ⟨g7, 0, none⟩) dl1 dl1) := (unhide K).2.2.2.1.c 2 (by simp)
  go_wp2_with fail
  clear mPd0 mPd1 mPd2 mQXx00 mQXx01 mQXx02
  refine (eqIntS_same _ _ _ _ _ _ _ _ (unhide K).2.2.2.2.2.row (unhide K).2.2.1.row).mono ?_
  rintro x w24 ⟨rfl, b⟩
  have S25 : Hid (w23.heap.size ≤ w24.heap.size) := hide b.size
  have K : Hid (Below w.heap.size w w24 ∧ Blk w24 w.heap.size [.int .i64 fr, .int .i64 pa, .slice da1 dl1 dc1] ∧ OwnI w24 w5.heap.size (.slice a5 ((rjL fr pa ws js tk).length) c6) (rjL fr pa ws js tk) ∧ Blk w24 X8 [.int .i64 fr, .int .i64 pa, .slice (some ⟨g7, 0, none⟩) dl1 dl1] ∧ OwnI w24 w9.heap.size (.slice a10 ((rjL fr pa ws js tk).length) c11) (markI (rjL fr pa ws js tk) 1 ((rjL fr pa ws js tk).length)) ∧ OwnI w24 w22.heap.size (.slice a16 ((rjL fr pa ws js tk).length) c17) (rjL fr pa ws js tk)) := hide ((unhide KEPT) _ _ (unhide K) b)
  clear b
  have mPd0 : w24.cell? ⟨w.heap.size, 0, none⟩ = some (.int .i64 fr) := (unhide K).2.1.c 0 (by simp)
  have mPd1 : w24.cell? ⟨w.heap.size, 1, none⟩ = some (.int .i64 pa) := (unhide K).2.1.c 1 (by simp)
  have mPd2 : w24.cell? ⟨w.heap.size, 2, none⟩ = some (.slice da1 dl1 dc1) := (unhide K).2.1.c 2 (by simp)
  have mQXx00 : w24.cell? ⟨X8, 0, none⟩ = some (.int .i64 fr) := (unhide K).2.2.2.1.c 0 (by simp)
  have mQXx01 : w24.cell? ⟨X8, 1, none⟩ = some (.int .i64 pa) := (unhide K).2.2.2.1.c 1 (by simp)
  have mQXx02 : w24.cell? ⟨X8, 2, none⟩ = some (.slice (some ⟨g7, 0, none⟩) dl1 dl1) := (unhide K).2.2.2.1.c 2 (by simp)
  go_wp2_with fail
  clear mPd0 mPd1 mPd2 mQXx00 mQXx01 mQXx02
  refine (heldIntS_any _ _ _ _ _ 1 _ (unhide K).2.2.2.2.1 (rfl) (by have := hfl; omega) (by omega) (by omega)).mono ?_
  rintro x w25 ⟨rfl, hw⟩
  have b : Below w24.heap.size w24 w25 := by rw [hw]; exact Below.refl _ _
  clear hw
  have S26 : Hid (w24.heap.size ≤ w25.heap.size) := hide b.size
  have K : Hid (Below w.heap.size w w25 ∧ Blk w25 w.heap.size [.int .i64 fr, .int .i64 pa, .slice da1 dl1 dc1] ∧ OwnI w25 w5.heap.size (.slice a5 ((rjL fr pa ws js tk).length) c6) (rjL fr pa ws js tk) ∧ Blk w25 X8 [.int .i64 fr, .int .i64 pa, .slice (some ⟨g7, 0, none⟩) dl1 dl1] ∧ OwnI w25 w9.heap.size (.slice a10 ((rjL fr pa ws js tk).length) c11) (markI (rjL fr pa ws js tk) 1 ((rjL fr pa ws js tk).length)) ∧ OwnI w25 w22.heap.size (.slice a16 ((rjL fr pa ws js tk).length) c17) (rjL fr pa ws js tk)) := hide ((unhide KEPT) _ _ (unhide K) b)
  clear b
  have nq25 : ¬ (1 + ((rjL fr pa ws js tk).length : Int) < 0) := by omega
  have nn25 : (1 + ((rjL fr pa ws js tk).length : Int) != 1 + ((rjL fr pa ws js tk).length : Int)) = false := by simp
  have mPd0 : w25.cell? ⟨w.heap.size, 0, none⟩ = some (.int .i64 fr) := (unhide K).2.1.c 0 (by simp)
  have mPd1 : w25.cell? ⟨w.heap.size, 1, none⟩ = some (.int .i64 pa) := (unhide K).2.1.c 1 (by simp)
  have mPd2 : w25.cell? ⟨w.heap.size, 2, none⟩ = some (.slice da1 dl1 dc1) := (unhide K).2.1.c 2 (by simp)
  have mQXx00 : w25.cell? ⟨X8, 0, none⟩ = some (.int .i64 fr) := (unhide K).2.2.2.1.c 0 (by simp)
  have mQXx01 : w25.cell? ⟨X8, 1, none⟩ = some (.int .i64 pa) := (unhide K).2.2.2.1.c 1 (by simp)
  have mQXx02 : w25.cell? ⟨X8, 2, none⟩ = some (.slice (some ⟨g7, 0, none⟩) dl1 dl1) := (unhide K).2.2.2.1.c 2 (by simp)
  go_wp2_with fail
  clear mPd0 mPd1 mPd2 mQXx00 mQXx01 mQXx02
  go_ret
  exact ⟨rfl, (unhide K).1⟩
end Go.Proofs.Ytndhiecakojjgaz
