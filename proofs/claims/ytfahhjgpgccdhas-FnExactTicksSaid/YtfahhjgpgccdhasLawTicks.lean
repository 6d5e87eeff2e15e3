/-
  The law FnExactTicks returns true at every argument and writes nothing that was there: the walk. No condition.
-/
import Derived.Test.YtfahhjgpgccdhasRowPl
import Derived.Test.YtfahhjgpgccdhasMarkPl
import Derived.Test.YtfahhjgpgccdhasTkIs
import Derived.Test.YtfahhjgpgccdhasLimTo
import Derived.Test.YtfahhjgpgccdhasOnly
import Derived.Test.YtfahhjgpgccdhasMarkI
import Derived.Deep.RegionHeld3
namespace Go.Proofs.Ytfahhjgpgccdhas
open Go.RowKit
set_option maxRecDepth 20000 in
set_option maxHeartbeats 8000000 in
theorem lawTicks (pv : Int) (pl : Int) (pg : Int) (pt : Int) (pr : Int) (pa : Int) (pb : Int) (po : Int) (pm : Bool) (da1 : Option Addr) (dl1 dc1 : Nat) (zs : List Int) (w : World) (hrd : Row w da1 dl1 zs)  :
    Calls Try.prog 7 #[.agg #[.int .i64 pv, .int .i64 pl, .int .i64 pg, .int .i64 pt, .int .i64 pr, .int .i64 pa, .int .i64 pb, .int .i64 po, .bool pm], .slice da1 dl1 dc1] w fun x w' => x = .returned (.bool true) ∧ Below w.heap.size w w' := by
  have Rd := hide hrd
  have smd1 := hrd.small
  have Ed1 := hide hrd.len_eq
  clear hrd
  by_cases gd : (1048576 : Int) < dl1
  · go_enter Try.func7, Try.ntmps7
    go_wp2_with fail
    go_ret
    exact ⟨rfl, bel1 _⟩
  have hd1 : dl1 ≤ 1048576 := by omega
  have hq : (tkB ⟨pv, pl, pg, pt, pr, pa, pb, po, pm⟩ zs != tkB ⟨pv, pl, pg, pt, pr, pa, pb, po, pm⟩ zs) = false := by simp
  have hsm := tkR_small ⟨pv, pl, pg, pt, pr, pa, pb, po, pm⟩ zs
  go_enter Try.func7, Try.ntmps7
  go_wp2_with fail
  obtain ⟨w1, hw1⟩ : ∃ W, W = (w.alloc (Obj.cells #[.int .i64 pv, .int .i64 pl, .int .i64 pg, .int .i64 pt, .int .i64 pr, .int .i64 pa, .int .i64 pb, .int .i64 po, .bool pm] 26)) := ⟨_, rfl⟩
  rw [← hw1]
  have K : Hid (Below w.heap.size w w1 ∧ Blk w1 w.heap.size [.int .i64 pv, .int .i64 pl, .int .i64 pg, .int .i64 pt, .int .i64 pr, .int .i64 pa, .int .i64 pb, .int .i64 po, .bool pm]) := hide ⟨(by rw [hw1]; exact bel1 _), (by rw [hw1]; exact Blk.new _ _)⟩
  have S0 : Hid (w.heap.size + 1 ≤ w1.heap.size) := hide (by rw [hw1]; simp; try omega)
  clear hw1
  have KEPT : Hid (∀ W u3, (Below w.heap.size w W ∧ Blk W w.heap.size [.int .i64 pv, .int .i64 pl, .int .i64 pg, .int .i64 pt, .int .i64 pr, .int .i64 pa, .int .i64 pb, .int .i64 po, .bool pm]) → Below W.heap.size W u3 → (Below w.heap.size w u3 ∧ Blk u3 w.heap.size [.int .i64 pv, .int .i64 pl, .int .i64 pg, .int .i64 pt, .int .i64 pr, .int .i64 pa, .int .i64 pb, .int .i64 po, .bool pm])) := hide (fun W u3 h b => ⟨h.1.trans (b.mono h.1.size), h.2.below b⟩)
  refine (toPilot_any _ _ _ _ _ _ _ _ _ _).mono ?_
  rintro x w2 ⟨rfl, b⟩
  have S1 : Hid (w1.heap.size ≤ w2.heap.size) := hide b.size
  have K : Hid (Below w.heap.size w w2 ∧ Blk w2 w.heap.size [.int .i64 pv, .int .i64 pl, .int .i64 pg, .int .i64 pt, .int .i64 pr, .int .i64 pa, .int .i64 pb, .int .i64 po, .bool pm]) := hide ((unhide KEPT) _ _ (unhide K) b)
  clear b
  have mPp0 : w2.cell? ⟨w.heap.size, 0, none⟩ = some (.int .i64 pv) := (unhide K).2.c 0 (by simp)
  have mPp1 : w2.cell? ⟨w.heap.size, 1, none⟩ = some (.int .i64 pl) := (unhide K).2.c 1 (by simp)
  have mPp2 : w2.cell? ⟨w.heap.size, 2, none⟩ = some (.int .i64 pg) := (unhide K).2.c 2 (by simp)
  have mPp3 : w2.cell? ⟨w.heap.size, 3, none⟩ = some (.int .i64 pt) := (unhide K).2.c 3 (by simp)
  have mPp4 : w2.cell? ⟨w.heap.size, 4, none⟩ = some (.int .i64 pr) := (unhide K).2.c 4 (by simp)
  have mPp5 : w2.cell? ⟨w.heap.size, 5, none⟩ = some (.int .i64 pa) := (unhide K).2.c 5 (by simp)
  have mPp6 : w2.cell? ⟨w.heap.size, 6, none⟩ = some (.int .i64 pb) := (unhide K).2.c 6 (by simp)
  have mPp7 : w2.cell? ⟨w.heap.size, 7, none⟩ = some (.int .i64 po) := (unhide K).2.c 7 (by simp)
  have mPp8 : w2.cell? ⟨w.heap.size, 8, none⟩ = some (.bool pm) := (unhide K).2.c 8 (by simp)
  go_wp2_with fail
  clear mPp0 mPp1 mPp2 mPp3 mPp4 mPp5 mPp6 mPp7 mPp8
  obtain ⟨g1, hg1⟩ : ∃ G, w2.heap.size = G := ⟨_, rfl⟩
  refine (toIntS_own _ _ _ _ _ ((unhide Rd).below (unhide K).1) hd1).mono ?_
  rintro x w3 ⟨rfl, oc, b⟩
  rw [hg1] at oc ⊢
  have Bg1 := hide hg1
  clear hg1
  have LT3 : Hid (∀ g, (Value.slice (some ⟨g1, 0, none⟩) dl1 dl1).ownBlock = some g → w2.heap.size ≤ g ∧ g < w3.heap.size) := hide (by have e := unhide Bg1; have l := oc.lies; rw [← e] at l ⊢; exact l)
  have S2 : Hid (w2.heap.size ≤ w3.heap.size) := hide b.size
  have K : Hid (Below w.heap.size w w3 ∧ Blk w3 w.heap.size [.int .i64 pv, .int .i64 pl, .int .i64 pg, .int .i64 pt, .int .i64 pr, .int .i64 pa, .int .i64 pb, .int .i64 po, .bool pm]) := hide ((unhide KEPT) _ _ (unhide K) b)
  have K : Hid (Below w.heap.size w w3 ∧ Blk w3 w.heap.size [.int .i64 pv, .int .i64 pl, .int .i64 pg, .int .i64 pt, .int .i64 pr, .int .i64 pa, .int .i64 pb, .int .i64 po, .bool pm] ∧ OwnI w3 w2.heap.size (.slice (some ⟨g1, 0, none⟩) dl1 dl1) zs) := hide ⟨(unhide K).1, (unhide K).2, (by have e := unhide Bg1; rw [e]; exact oc)⟩
  clear KEPT oc b
  have KEPT : Hid (∀ W u3, (Below w.heap.size w W ∧ Blk W w.heap.size [.int .i64 pv, .int .i64 pl, .int .i64 pg, .int .i64 pt, .int .i64 pr, .int .i64 pa, .int .i64 pb, .int .i64 po, .bool pm] ∧ OwnI W w2.heap.size (.slice (some ⟨g1, 0, none⟩) dl1 dl1) zs) → Below W.heap.size W u3 → (Below w.heap.size w u3 ∧ Blk u3 w.heap.size [.int .i64 pv, .int .i64 pl, .int .i64 pg, .int .i64 pt, .int .i64 pr, .int .i64 pa, .int .i64 pb, .int .i64 po, .bool pm] ∧ OwnI u3 w2.heap.size (.slice (some ⟨g1, 0, none⟩) dl1 dl1) zs)) := hide (fun W u3 h b => ⟨h.1.trans (b.mono h.1.size), h.2.1.below b, h.2.2.below b⟩)
  have mPp0 : w3.cell? ⟨w.heap.size, 0, none⟩ = some (.int .i64 pv) := (unhide K).2.1.c 0 (by simp)
  have mPp1 : w3.cell? ⟨w.heap.size, 1, none⟩ = some (.int .i64 pl) := (unhide K).2.1.c 1 (by simp)
  have mPp2 : w3.cell? ⟨w.heap.size, 2, none⟩ = some (.int .i64 pg) := (unhide K).2.1.c 2 (by simp)
  have mPp3 : w3.cell? ⟨w.heap.size, 3, none⟩ = some (.int .i64 pt) := (unhide K).2.1.c 3 (by simp)
  have mPp4 : w3.cell? ⟨w.heap.size, 4, none⟩ = some (.int .i64 pr) := (unhide K).2.1.c 4 (by simp)
  have mPp5 : w3.cell? ⟨w.heap.size, 5, none⟩ = some (.int .i64 pa) := (unhide K).2.1.c 5 (by simp)
  have mPp6 : w3.cell? ⟨w.heap.size, 6, none⟩ = some (.int .i64 pb) := (unhide K).2.1.c 6 (by simp)
  have mPp7 : w3.cell? ⟨w.heap.size, 7, none⟩ = some (.int .i64 po) := (unhide K).2.1.c 7 (by simp)
  have mPp8 : w3.cell? ⟨w.heap.size, 8, none⟩ = some (.bool pm) := (unhide K).2.1.c 8 (by simp)
  go_wp2_with fail
  clear mPp0 mPp1 mPp2 mPp3 mPp4 mPp5 mPp6 mPp7 mPp8
  refine (specTicks_any _ _ _ _ _ _ _ _ _ _ _ _ _ _ (unhide K).2.2.row ).mono ?_
  rintro x w4 ⟨a2, c3, rfl, oW_0, b⟩
  have LW0 : Hid (∀ g, (Value.slice a2 ((tkR ⟨pv, pl, pg, pt, pr, pa, pb, po, pm⟩ zs).length) c3).ownBlock = some g → w3.heap.size ≤ g ∧ g < w4.heap.size) := hide oW_0.lies
  have S3 : Hid (w3.heap.size ≤ w4.heap.size) := hide b.size
  have K : Hid (Below w.heap.size w w4 ∧ Blk w4 w.heap.size [.int .i64 pv, .int .i64 pl, .int .i64 pg, .int .i64 pt, .int .i64 pr, .int .i64 pa, .int .i64 pb, .int .i64 po, .bool pm] ∧ OwnI w4 w2.heap.size (.slice (some ⟨g1, 0, none⟩) dl1 dl1) zs) := hide ((unhide KEPT) _ _ (unhide K) b)
  have K : Hid (Below w.heap.size w w4 ∧ Blk w4 w.heap.size [.int .i64 pv, .int .i64 pl, .int .i64 pg, .int .i64 pt, .int .i64 pr, .int .i64 pa, .int .i64 pb, .int .i64 po, .bool pm] ∧ OwnI w4 w2.heap.size (.slice (some ⟨g1, 0, none⟩) dl1 dl1) zs ∧ OwnE 9 plC w4 w3.heap.size 28 (.slice a2 ((tkR ⟨pv, pl, pg, pt, pr, pa, pb, po, pm⟩ zs).length) c3) (tkR ⟨pv, pl, pg, pt, pr, pa, pb, po, pm⟩ zs)) := hide ⟨(unhide K).1, (unhide K).2.1, (unhide K).2.2, oW_0⟩
  clear KEPT
  have KEPT : Hid (∀ W u3, (Below w.heap.size w W ∧ Blk W w.heap.size [.int .i64 pv, .int .i64 pl, .int .i64 pg, .int .i64 pt, .int .i64 pr, .int .i64 pa, .int .i64 pb, .int .i64 po, .bool pm] ∧ OwnI W w2.heap.size (.slice (some ⟨g1, 0, none⟩) dl1 dl1) zs ∧ OwnE 9 plC W w3.heap.size 28 (.slice a2 ((tkR ⟨pv, pl, pg, pt, pr, pa, pb, po, pm⟩ zs).length) c3) (tkR ⟨pv, pl, pg, pt, pr, pa, pb, po, pm⟩ zs)) → Below W.heap.size W u3 → (Below w.heap.size w u3 ∧ Blk u3 w.heap.size [.int .i64 pv, .int .i64 pl, .int .i64 pg, .int .i64 pt, .int .i64 pr, .int .i64 pa, .int .i64 pb, .int .i64 po, .bool pm] ∧ OwnI u3 w2.heap.size (.slice (some ⟨g1, 0, none⟩) dl1 dl1) zs ∧ OwnE 9 plC u3 w3.heap.size 28 (.slice a2 ((tkR ⟨pv, pl, pg, pt, pr, pa, pb, po, pm⟩ zs).length) c3) (tkR ⟨pv, pl, pg, pt, pr, pa, pb, po, pm⟩ zs))) := hide (fun W u3 h b => ⟨h.1.trans (b.mono h.1.size), h.2.1.below b, h.2.2.1.below b, h.2.2.2.below b⟩)
  clear oW_0
  clear b
  have K : Hid (Below w.heap.size w w4 ∧ Blk w4 w.heap.size [.int .i64 pv, .int .i64 pl, .int .i64 pg, .int .i64 pt, .int .i64 pr, .int .i64 pa, .int .i64 pb, .int .i64 po, .bool pm] ∧ OwnE 9 plC w4 w3.heap.size 28 (.slice a2 ((tkR ⟨pv, pl, pg, pt, pr, pa, pb, po, pm⟩ zs).length) c3) (tkR ⟨pv, pl, pg, pt, pr, pa, pb, po, pm⟩ zs)) := hide ⟨(unhide K).1, (unhide K).2.1, (unhide K).2.2.2⟩
  clear KEPT
  have KEPT : Hid (∀ W u3, (Below w.heap.size w W ∧ Blk W w.heap.size [.int .i64 pv, .int .i64 pl, .int .i64 pg, .int .i64 pt, .int .i64 pr, .int .i64 pa, .int .i64 pb, .int .i64 po, .bool pm] ∧ OwnE 9 plC W w3.heap.size 28 (.slice a2 ((tkR ⟨pv, pl, pg, pt, pr, pa, pb, po, pm⟩ zs).length) c3) (tkR ⟨pv, pl, pg, pt, pr, pa, pb, po, pm⟩ zs)) → Below W.heap.size W u3 → (Below w.heap.size w u3 ∧ Blk u3 w.heap.size [.int .i64 pv, .int .i64 pl, .int .i64 pg, .int .i64 pt, .int .i64 pr, .int .i64 pa, .int .i64 pb, .int .i64 po, .bool pm] ∧ OwnE 9 plC u3 w3.heap.size 28 (.slice a2 ((tkR ⟨pv, pl, pg, pt, pr, pa, pb, po, pm⟩ zs).length) c3) (tkR ⟨pv, pl, pg, pt, pr, pa, pb, po, pm⟩ zs))) := hide (fun W u3 h b => ⟨h.1.trans (b.mono h.1.size), h.2.1.below b, h.2.2.below b⟩)
  have mPp0 : w4.cell? ⟨w.heap.size, 0, none⟩ = some (.int .i64 pv) := (unhide K).2.1.c 0 (by simp)
  have mPp1 : w4.cell? ⟨w.heap.size, 1, none⟩ = some (.int .i64 pl) := (unhide K).2.1.c 1 (by simp)
  have mPp2 : w4.cell? ⟨w.heap.size, 2, none⟩ = some (.int .i64 pg) := (unhide K).2.1.c 2 (by simp)
  have mPp3 : w4.cell? ⟨w.heap.size, 3, none⟩ = some (.int .i64 pt) := (unhide K).2.1.c 3 (by simp)
  have mPp4 : w4.cell? ⟨w.heap.size, 4, none⟩ = some (.int .i64 pr) := (unhide K).2.1.c 4 (by simp)
  have mPp5 : w4.cell? ⟨w.heap.size, 5, none⟩ = some (.int .i64 pa) := (unhide K).2.1.c 5 (by simp)
  have mPp6 : w4.cell? ⟨w.heap.size, 6, none⟩ = some (.int .i64 pb) := (unhide K).2.1.c 6 (by simp)
  have mPp7 : w4.cell? ⟨w.heap.size, 7, none⟩ = some (.int .i64 po) := (unhide K).2.1.c 7 (by simp)
  have mPp8 : w4.cell? ⟨w.heap.size, 8, none⟩ = some (.bool pm) := (unhide K).2.1.c 8 (by simp)
  go_wp2_with fail
  clear mPp0 mPp1 mPp2 mPp3 mPp4 mPp5 mPp6 mPp7 mPp8
  obtain ⟨g4, hg4⟩ : ∃ G, w4.heap.size = G := ⟨_, rfl⟩
  refine (toIntS_own _ _ _ _ _ ((unhide Rd).below (unhide K).1) hd1).mono ?_
  rintro x w5 ⟨rfl, oc, b⟩
  rw [hg4] at oc ⊢
  have Bg4 := hide hg4
  clear hg4
  have LXx1 : Hid (∀ g, (Value.slice (some ⟨g4, 0, none⟩) dl1 dl1).ownBlock = some g → w4.heap.size ≤ g ∧ g < w5.heap.size) := hide (by have e := unhide Bg4; have l := oc.lies; rw [← e] at l ⊢; exact l)
  have S4 : Hid (w4.heap.size ≤ w5.heap.size) := hide b.size
  have K : Hid (Below w.heap.size w w5 ∧ Blk w5 w.heap.size [.int .i64 pv, .int .i64 pl, .int .i64 pg, .int .i64 pt, .int .i64 pr, .int .i64 pa, .int .i64 pb, .int .i64 po, .bool pm] ∧ OwnE 9 plC w5 w3.heap.size 28 (.slice a2 ((tkR ⟨pv, pl, pg, pt, pr, pa, pb, po, pm⟩ zs).length) c3) (tkR ⟨pv, pl, pg, pt, pr, pa, pb, po, pm⟩ zs)) := hide ((unhide KEPT) _ _ (unhide K) b)
  have K : Hid (Below w.heap.size w w5 ∧ Blk w5 w.heap.size [.int .i64 pv, .int .i64 pl, .int .i64 pg, .int .i64 pt, .int .i64 pr, .int .i64 pa, .int .i64 pb, .int .i64 po, .bool pm] ∧ OwnE 9 plC w5 w3.heap.size 28 (.slice a2 ((tkR ⟨pv, pl, pg, pt, pr, pa, pb, po, pm⟩ zs).length) c3) (tkR ⟨pv, pl, pg, pt, pr, pa, pb, po, pm⟩ zs) ∧ OwnI w5 w4.heap.size (.slice (some ⟨g4, 0, none⟩) dl1 dl1) zs) := hide ⟨(unhide K).1, (unhide K).2.1, (unhide K).2.2, (by have e := unhide Bg4; rw [e]; exact oc)⟩
  clear KEPT oc b
  have KEPT : Hid (∀ W u3, (Below w.heap.size w W ∧ Blk W w.heap.size [.int .i64 pv, .int .i64 pl, .int .i64 pg, .int .i64 pt, .int .i64 pr, .int .i64 pa, .int .i64 pb, .int .i64 po, .bool pm] ∧ OwnE 9 plC W w3.heap.size 28 (.slice a2 ((tkR ⟨pv, pl, pg, pt, pr, pa, pb, po, pm⟩ zs).length) c3) (tkR ⟨pv, pl, pg, pt, pr, pa, pb, po, pm⟩ zs) ∧ OwnI W w4.heap.size (.slice (some ⟨g4, 0, none⟩) dl1 dl1) zs) → Below W.heap.size W u3 → (Below w.heap.size w u3 ∧ Blk u3 w.heap.size [.int .i64 pv, .int .i64 pl, .int .i64 pg, .int .i64 pt, .int .i64 pr, .int .i64 pa, .int .i64 pb, .int .i64 po, .bool pm] ∧ OwnE 9 plC u3 w3.heap.size 28 (.slice a2 ((tkR ⟨pv, pl, pg, pt, pr, pa, pb, po, pm⟩ zs).length) c3) (tkR ⟨pv, pl, pg, pt, pr, pa, pb, po, pm⟩ zs) ∧ OwnI u3 w4.heap.size (.slice (some ⟨g4, 0, none⟩) dl1 dl1) zs)) := hide (fun W u3 h b => ⟨h.1.trans (b.mono h.1.size), h.2.1.below b, h.2.2.1.below b, h.2.2.2.below b⟩)
  have mPp0 : w5.cell? ⟨w.heap.size, 0, none⟩ = some (.int .i64 pv) := (unhide K).2.1.c 0 (by simp)
  have mPp1 : w5.cell? ⟨w.heap.size, 1, none⟩ = some (.int .i64 pl) := (unhide K).2.1.c 1 (by simp)
  have mPp2 : w5.cell? ⟨w.heap.size, 2, none⟩ = some (.int .i64 pg) := (unhide K).2.1.c 2 (by simp)
  have mPp3 : w5.cell? ⟨w.heap.size, 3, none⟩ = some (.int .i64 pt) := (unhide K).2.1.c 3 (by simp)
  have mPp4 : w5.cell? ⟨w.heap.size, 4, none⟩ = some (.int .i64 pr) := (unhide K).2.1.c 4 (by simp)
  have mPp5 : w5.cell? ⟨w.heap.size, 5, none⟩ = some (.int .i64 pa) := (unhide K).2.1.c 5 (by simp)
  have mPp6 : w5.cell? ⟨w.heap.size, 6, none⟩ = some (.int .i64 pb) := (unhide K).2.1.c 6 (by simp)
  have mPp7 : w5.cell? ⟨w.heap.size, 7, none⟩ = some (.int .i64 po) := (unhide K).2.1.c 7 (by simp)
  have mPp8 : w5.cell? ⟨w.heap.size, 8, none⟩ = some (.bool pm) := (unhide K).2.1.c 8 (by simp)
  go_wp2_with fail
  clear mPp0 mPp1 mPp2 mPp3 mPp4 mPp5 mPp6 mPp7 mPp8
  refine (toPilot_any _ _ _ _ _ _ _ _ _ _).mono ?_
  rintro x w6 ⟨rfl, b⟩
  have S5 : Hid (w5.heap.size ≤ w6.heap.size) := hide b.size
  have K : Hid (Below w.heap.size w w6 ∧ Blk w6 w.heap.size [.int .i64 pv, .int .i64 pl, .int .i64 pg, .int .i64 pt, .int .i64 pr, .int .i64 pa, .int .i64 pb, .int .i64 po, .bool pm] ∧ OwnE 9 plC w6 w3.heap.size 28 (.slice a2 ((tkR ⟨pv, pl, pg, pt, pr, pa, pb, po, pm⟩ zs).length) c3) (tkR ⟨pv, pl, pg, pt, pr, pa, pb, po, pm⟩ zs) ∧ OwnI w6 w4.heap.size (.slice (some ⟨g4, 0, none⟩) dl1 dl1) zs) := hide ((unhide KEPT) _ _ (unhide K) b)
  clear b
  have mPp0 : w6.cell? ⟨w.heap.size, 0, none⟩ = some (.int .i64 pv) := (unhide K).2.1.c 0 (by simp)
  have mPp1 : w6.cell? ⟨w.heap.size, 1, none⟩ = some (.int .i64 pl) := (unhide K).2.1.c 1 (by simp)
  have mPp2 : w6.cell? ⟨w.heap.size, 2, none⟩ = some (.int .i64 pg) := (unhide K).2.1.c 2 (by simp)
  have mPp3 : w6.cell? ⟨w.heap.size, 3, none⟩ = some (.int .i64 pt) := (unhide K).2.1.c 3 (by simp)
  have mPp4 : w6.cell? ⟨w.heap.size, 4, none⟩ = some (.int .i64 pr) := (unhide K).2.1.c 4 (by simp)
  have mPp5 : w6.cell? ⟨w.heap.size, 5, none⟩ = some (.int .i64 pa) := (unhide K).2.1.c 5 (by simp)
  have mPp6 : w6.cell? ⟨w.heap.size, 6, none⟩ = some (.int .i64 pb) := (unhide K).2.1.c 6 (by simp)
  have mPp7 : w6.cell? ⟨w.heap.size, 7, none⟩ = some (.int .i64 po) := (unhide K).2.1.c 7 (by simp)
  have mPp8 : w6.cell? ⟨w.heap.size, 8, none⟩ = some (.bool pm) := (unhide K).2.1.c 8 (by simp)
  go_wp2_with fail
  clear mPp0 mPp1 mPp2 mPp3 mPp4 mPp5 mPp6 mPp7 mPp8
  refine (implTicks_any _ _ _ _ _ _ _ _ _ _ _ _ _ _ (unhide K).2.2.2.row ).mono ?_
  rintro x w7 ⟨a5, c6, rfl, oG_0, b⟩
  have LG0 : Hid (∀ g, (Value.slice a5 ((tkR ⟨pv, pl, pg, pt, pr, pa, pb, po, pm⟩ zs).length) c6).ownBlock = some g → w6.heap.size ≤ g ∧ g < w7.heap.size) := hide oG_0.lies
  have S6 : Hid (w6.heap.size ≤ w7.heap.size) := hide b.size
  have K : Hid (Below w.heap.size w w7 ∧ Blk w7 w.heap.size [.int .i64 pv, .int .i64 pl, .int .i64 pg, .int .i64 pt, .int .i64 pr, .int .i64 pa, .int .i64 pb, .int .i64 po, .bool pm] ∧ OwnE 9 plC w7 w3.heap.size 28 (.slice a2 ((tkR ⟨pv, pl, pg, pt, pr, pa, pb, po, pm⟩ zs).length) c3) (tkR ⟨pv, pl, pg, pt, pr, pa, pb, po, pm⟩ zs) ∧ OwnI w7 w4.heap.size (.slice (some ⟨g4, 0, none⟩) dl1 dl1) zs) := hide ((unhide KEPT) _ _ (unhide K) b)
  have K : Hid (Below w.heap.size w w7 ∧ Blk w7 w.heap.size [.int .i64 pv, .int .i64 pl, .int .i64 pg, .int .i64 pt, .int .i64 pr, .int .i64 pa, .int .i64 pb, .int .i64 po, .bool pm] ∧ OwnE 9 plC w7 w3.heap.size 28 (.slice a2 ((tkR ⟨pv, pl, pg, pt, pr, pa, pb, po, pm⟩ zs).length) c3) (tkR ⟨pv, pl, pg, pt, pr, pa, pb, po, pm⟩ zs) ∧ OwnI w7 w4.heap.size (.slice (some ⟨g4, 0, none⟩) dl1 dl1) zs ∧ OwnE 9 plC w7 w6.heap.size 28 (.slice a5 ((tkR ⟨pv, pl, pg, pt, pr, pa, pb, po, pm⟩ zs).length) c6) (tkR ⟨pv, pl, pg, pt, pr, pa, pb, po, pm⟩ zs)) := hide ⟨(unhide K).1, (unhide K).2.1, (unhide K).2.2.1, (unhide K).2.2.2, oG_0⟩
  clear KEPT
  have KEPT : Hid (∀ W u3, (Below w.heap.size w W ∧ Blk W w.heap.size [.int .i64 pv, .int .i64 pl, .int .i64 pg, .int .i64 pt, .int .i64 pr, .int .i64 pa, .int .i64 pb, .int .i64 po, .bool pm] ∧ OwnE 9 plC W w3.heap.size 28 (.slice a2 ((tkR ⟨pv, pl, pg, pt, pr, pa, pb, po, pm⟩ zs).length) c3) (tkR ⟨pv, pl, pg, pt, pr, pa, pb, po, pm⟩ zs) ∧ OwnI W w4.heap.size (.slice (some ⟨g4, 0, none⟩) dl1 dl1) zs ∧ OwnE 9 plC W w6.heap.size 28 (.slice a5 ((tkR ⟨pv, pl, pg, pt, pr, pa, pb, po, pm⟩ zs).length) c6) (tkR ⟨pv, pl, pg, pt, pr, pa, pb, po, pm⟩ zs)) → Below W.heap.size W u3 → (Below w.heap.size w u3 ∧ Blk u3 w.heap.size [.int .i64 pv, .int .i64 pl, .int .i64 pg, .int .i64 pt, .int .i64 pr, .int .i64 pa, .int .i64 pb, .int .i64 po, .bool pm] ∧ OwnE 9 plC u3 w3.heap.size 28 (.slice a2 ((tkR ⟨pv, pl, pg, pt, pr, pa, pb, po, pm⟩ zs).length) c3) (tkR ⟨pv, pl, pg, pt, pr, pa, pb, po, pm⟩ zs) ∧ OwnI u3 w4.heap.size (.slice (some ⟨g4, 0, none⟩) dl1 dl1) zs ∧ OwnE 9 plC u3 w6.heap.size 28 (.slice a5 ((tkR ⟨pv, pl, pg, pt, pr, pa, pb, po, pm⟩ zs).length) c6) (tkR ⟨pv, pl, pg, pt, pr, pa, pb, po, pm⟩ zs))) := hide (fun W u3 h b => ⟨h.1.trans (b.mono h.1.size), h.2.1.below b, h.2.2.1.below b, h.2.2.2.1.below b, h.2.2.2.2.below b⟩)
  clear oG_0
  clear b
  have mPp0 : w7.cell? ⟨w.heap.size, 0, none⟩ = some (.int .i64 pv) := (unhide K).2.1.c 0 (by simp)
  have mPp1 : w7.cell? ⟨w.heap.size, 1, none⟩ = some (.int .i64 pl) := (unhide K).2.1.c 1 (by simp)
  have mPp2 : w7.cell? ⟨w.heap.size, 2, none⟩ = some (.int .i64 pg) := (unhide K).2.1.c 2 (by simp)
  have mPp3 : w7.cell? ⟨w.heap.size, 3, none⟩ = some (.int .i64 pt) := (unhide K).2.1.c 3 (by simp)
  have mPp4 : w7.cell? ⟨w.heap.size, 4, none⟩ = some (.int .i64 pr) := (unhide K).2.1.c 4 (by simp)
  have mPp5 : w7.cell? ⟨w.heap.size, 5, none⟩ = some (.int .i64 pa) := (unhide K).2.1.c 5 (by simp)
  have mPp6 : w7.cell? ⟨w.heap.size, 6, none⟩ = some (.int .i64 pb) := (unhide K).2.1.c 6 (by simp)
  have mPp7 : w7.cell? ⟨w.heap.size, 7, none⟩ = some (.int .i64 po) := (unhide K).2.1.c 7 (by simp)
  have mPp8 : w7.cell? ⟨w.heap.size, 8, none⟩ = some (.bool pm) := (unhide K).2.1.c 8 (by simp)
  go_wp2_with fail
  clear mPp0 mPp1 mPp2 mPp3 mPp4 mPp5 mPp6 mPp7 mPp8
  refine (eqPilotS_same _ _ _ _ _ _ _ _ (unhide K).2.2.2.2.row (unhide K).2.2.1.row).mono ?_
  rintro x w8 ⟨rfl, b⟩
  have S7 : Hid (w7.heap.size ≤ w8.heap.size) := hide b.size
  have K : Hid (Below w.heap.size w w8 ∧ Blk w8 w.heap.size [.int .i64 pv, .int .i64 pl, .int .i64 pg, .int .i64 pt, .int .i64 pr, .int .i64 pa, .int .i64 pb, .int .i64 po, .bool pm] ∧ OwnE 9 plC w8 w3.heap.size 28 (.slice a2 ((tkR ⟨pv, pl, pg, pt, pr, pa, pb, po, pm⟩ zs).length) c3) (tkR ⟨pv, pl, pg, pt, pr, pa, pb, po, pm⟩ zs) ∧ OwnI w8 w4.heap.size (.slice (some ⟨g4, 0, none⟩) dl1 dl1) zs ∧ OwnE 9 plC w8 w6.heap.size 28 (.slice a5 ((tkR ⟨pv, pl, pg, pt, pr, pa, pb, po, pm⟩ zs).length) c6) (tkR ⟨pv, pl, pg, pt, pr, pa, pb, po, pm⟩ zs)) := hide ((unhide KEPT) _ _ (unhide K) b)
  clear b
  have mPp0 : w8.cell? ⟨w.heap.size, 0, none⟩ = some (.int .i64 pv) := (unhide K).2.1.c 0 (by simp)
  have mPp1 : w8.cell? ⟨w.heap.size, 1, none⟩ = some (.int .i64 pl) := (unhide K).2.1.c 1 (by simp)
  have mPp2 : w8.cell? ⟨w.heap.size, 2, none⟩ = some (.int .i64 pg) := (unhide K).2.1.c 2 (by simp)
  have mPp3 : w8.cell? ⟨w.heap.size, 3, none⟩ = some (.int .i64 pt) := (unhide K).2.1.c 3 (by simp)
  have mPp4 : w8.cell? ⟨w.heap.size, 4, none⟩ = some (.int .i64 pr) := (unhide K).2.1.c 4 (by simp)
  have mPp5 : w8.cell? ⟨w.heap.size, 5, none⟩ = some (.int .i64 pa) := (unhide K).2.1.c 5 (by simp)
  have mPp6 : w8.cell? ⟨w.heap.size, 6, none⟩ = some (.int .i64 pb) := (unhide K).2.1.c 6 (by simp)
  have mPp7 : w8.cell? ⟨w.heap.size, 7, none⟩ = some (.int .i64 po) := (unhide K).2.1.c 7 (by simp)
  have mPp8 : w8.cell? ⟨w.heap.size, 8, none⟩ = some (.bool pm) := (unhide K).2.1.c 8 (by simp)
  go_wp2_with fail
  clear mPp0 mPp1 mPp2 mPp3 mPp4 mPp5 mPp6 mPp7 mPp8
  obtain ⟨g7, hg7⟩ : ∃ G, w8.heap.size = G := ⟨_, rfl⟩
  refine (toIntS_own _ _ _ _ _ ((unhide Rd).below (unhide K).1) hd1).mono ?_
  rintro x w9 ⟨rfl, oc, b⟩
  rw [hg7] at oc ⊢
  have Bg7 := hide hg7
  clear hg7
  have IC := hide oc.row
  have S8 : Hid (w8.heap.size ≤ w9.heap.size) := hide b.size
  have K : Hid (Below w.heap.size w w9 ∧ Blk w9 w.heap.size [.int .i64 pv, .int .i64 pl, .int .i64 pg, .int .i64 pt, .int .i64 pr, .int .i64 pa, .int .i64 pb, .int .i64 po, .bool pm] ∧ OwnE 9 plC w9 w3.heap.size 28 (.slice a2 ((tkR ⟨pv, pl, pg, pt, pr, pa, pb, po, pm⟩ zs).length) c3) (tkR ⟨pv, pl, pg, pt, pr, pa, pb, po, pm⟩ zs) ∧ OwnI w9 w4.heap.size (.slice (some ⟨g4, 0, none⟩) dl1 dl1) zs ∧ OwnE 9 plC w9 w6.heap.size 28 (.slice a5 ((tkR ⟨pv, pl, pg, pt, pr, pa, pb, po, pm⟩ zs).length) c6) (tkR ⟨pv, pl, pg, pt, pr, pa, pb, po, pm⟩ zs)) := hide ((unhide KEPT) _ _ (unhide K) b)
  clear oc b
  have mPp0 : w9.cell? ⟨w.heap.size, 0, none⟩ = some (.int .i64 pv) := (unhide K).2.1.c 0 (by simp)
  have mPp1 : w9.cell? ⟨w.heap.size, 1, none⟩ = some (.int .i64 pl) := (unhide K).2.1.c 1 (by simp)
  have mPp2 : w9.cell? ⟨w.heap.size, 2, none⟩ = some (.int .i64 pg) := (unhide K).2.1.c 2 (by simp)
  have mPp3 : w9.cell? ⟨w.heap.size, 3, none⟩ = some (.int .i64 pt) := (unhide K).2.1.c 3 (by simp)
  have mPp4 : w9.cell? ⟨w.heap.size, 4, none⟩ = some (.int .i64 pr) := (unhide K).2.1.c 4 (by simp)
  have mPp5 : w9.cell? ⟨w.heap.size, 5, none⟩ = some (.int .i64 pa) := (unhide K).2.1.c 5 (by simp)
  have mPp6 : w9.cell? ⟨w.heap.size, 6, none⟩ = some (.int .i64 pb) := (unhide K).2.1.c 6 (by simp)
  have mPp7 : w9.cell? ⟨w.heap.size, 7, none⟩ = some (.int .i64 po) := (unhide K).2.1.c 7 (by simp)
  have mPp8 : w9.cell? ⟨w.heap.size, 8, none⟩ = some (.bool pm) := (unhide K).2.1.c 8 (by simp)
  go_wp2_with fail
  clear mPp0 mPp1 mPp2 mPp3 mPp4 mPp5 mPp6 mPp7 mPp8
  refine (eqIntS_same _ _ _ _ _ _ _ _ (unhide K).2.2.2.1.row (unhide IC)).mono ?_
  rintro x w10 ⟨rfl, b⟩
  have S9 : Hid (w9.heap.size ≤ w10.heap.size) := hide b.size
  have K : Hid (Below w.heap.size w w10 ∧ Blk w10 w.heap.size [.int .i64 pv, .int .i64 pl, .int .i64 pg, .int .i64 pt, .int .i64 pr, .int .i64 pa, .int .i64 pb, .int .i64 po, .bool pm] ∧ OwnE 9 plC w10 w3.heap.size 28 (.slice a2 ((tkR ⟨pv, pl, pg, pt, pr, pa, pb, po, pm⟩ zs).length) c3) (tkR ⟨pv, pl, pg, pt, pr, pa, pb, po, pm⟩ zs) ∧ OwnI w10 w4.heap.size (.slice (some ⟨g4, 0, none⟩) dl1 dl1) zs ∧ OwnE 9 plC w10 w6.heap.size 28 (.slice a5 ((tkR ⟨pv, pl, pg, pt, pr, pa, pb, po, pm⟩ zs).length) c6) (tkR ⟨pv, pl, pg, pt, pr, pa, pb, po, pm⟩ zs)) := hide ((unhide KEPT) _ _ (unhide K) b)
  clear b IC
  have mPp0 : w10.cell? ⟨w.heap.size, 0, none⟩ = some (.int .i64 pv) := (unhide K).2.1.c 0 (by simp)
  have mPp1 : w10.cell? ⟨w.heap.size, 1, none⟩ = some (.int .i64 pl) := (unhide K).2.1.c 1 (by simp)
  have mPp2 : w10.cell? ⟨w.heap.size, 2, none⟩ = some (.int .i64 pg) := (unhide K).2.1.c 2 (by simp)
  have mPp3 : w10.cell? ⟨w.heap.size, 3, none⟩ = some (.int .i64 pt) := (unhide K).2.1.c 3 (by simp)
  have mPp4 : w10.cell? ⟨w.heap.size, 4, none⟩ = some (.int .i64 pr) := (unhide K).2.1.c 4 (by simp)
  have mPp5 : w10.cell? ⟨w.heap.size, 5, none⟩ = some (.int .i64 pa) := (unhide K).2.1.c 5 (by simp)
  have mPp6 : w10.cell? ⟨w.heap.size, 6, none⟩ = some (.int .i64 pb) := (unhide K).2.1.c 6 (by simp)
  have mPp7 : w10.cell? ⟨w.heap.size, 7, none⟩ = some (.int .i64 po) := (unhide K).2.1.c 7 (by simp)
  have mPp8 : w10.cell? ⟨w.heap.size, 8, none⟩ = some (.bool pm) := (unhide K).2.1.c 8 (by simp)
  go_wp2_with fail
  clear mPp0 mPp1 mPp2 mPp3 mPp4 mPp5 mPp6 mPp7 mPp8
  refine (markIntS_own _ _ _ _ _ 1 _ (unhide K).2.2.2.1 (unhide Ed1) (hd1) (by omega) (by omega)).mono ?_
  rintro x w11 ⟨rfl, om, gr⟩
  have on := Only.of_row (lo := w4.heap.size) (hi := w5.heap.size) gr (unhide LXx1)
  have S10 : Hid (w10.heap.size ≤ w11.heap.size) := hide on.size
  have K : Hid (Below w.heap.size w w11 ∧ Blk w11 w.heap.size [.int .i64 pv, .int .i64 pl, .int .i64 pg, .int .i64 pt, .int .i64 pr, .int .i64 pa, .int .i64 pb, .int .i64 po, .bool pm] ∧ OwnE 9 plC w11 w3.heap.size 28 (.slice a2 ((tkR ⟨pv, pl, pg, pt, pr, pa, pb, po, pm⟩ zs).length) c3) (tkR ⟨pv, pl, pg, pt, pr, pa, pb, po, pm⟩ zs) ∧ OwnE 9 plC w11 w6.heap.size 28 (.slice a5 ((tkR ⟨pv, pl, pg, pt, pr, pa, pb, po, pm⟩ zs).length) c6) (tkR ⟨pv, pl, pg, pt, pr, pa, pb, po, pm⟩ zs)) := hide ⟨below_only (unhide K).1 on (by have s0 := unhide S0; have s1 := unhide S1; have s2 := unhide S2; have s3 := unhide S3; have s4 := unhide S4; have s5 := unhide S5; have s6 := unhide S6; have s7 := unhide S7; have s8 := unhide S8; have s9 := unhide S9; have s10 := unhide S10; omega) (Nat.le_refl _), (unhide K).2.1.only on (by have s0 := unhide S0; have s1 := unhide S1; have s2 := unhide S2; have s3 := unhide S3; have s4 := unhide S4; have s5 := unhide S5; have s6 := unhide S6; have s7 := unhide S7; have s8 := unhide S8; have s9 := unhide S9; have s10 := unhide S10; omega), (unhide K).2.2.1.only on (fun g hg => by have := (unhide LW0) g hg; have s0 := unhide S0; have s1 := unhide S1; have s2 := unhide S2; have s3 := unhide S3; have s4 := unhide S4; have s5 := unhide S5; have s6 := unhide S6; have s7 := unhide S7; have s8 := unhide S8; have s9 := unhide S9; have s10 := unhide S10; omega), (unhide K).2.2.2.2.only on (fun g hg => by have := (unhide LG0) g hg; have s0 := unhide S0; have s1 := unhide S1; have s2 := unhide S2; have s3 := unhide S3; have s4 := unhide S4; have s5 := unhide S5; have s6 := unhide S6; have s7 := unhide S7; have s8 := unhide S8; have s9 := unhide S9; have s10 := unhide S10; omega)⟩
  clear KEPT om on gr
  have KEPT : Hid (∀ W u3, (Below w.heap.size w W ∧ Blk W w.heap.size [.int .i64 pv, .int .i64 pl, .int .i64 pg, .int .i64 pt, .int .i64 pr, .int .i64 pa, .int .i64 pb, .int .i64 po, .bool pm] ∧ OwnE 9 plC W w3.heap.size 28 (.slice a2 ((tkR ⟨pv, pl, pg, pt, pr, pa, pb, po, pm⟩ zs).length) c3) (tkR ⟨pv, pl, pg, pt, pr, pa, pb, po, pm⟩ zs) ∧ OwnE 9 plC W w6.heap.size 28 (.slice a5 ((tkR ⟨pv, pl, pg, pt, pr, pa, pb, po, pm⟩ zs).length) c6) (tkR ⟨pv, pl, pg, pt, pr, pa, pb, po, pm⟩ zs)) → Below W.heap.size W u3 → (Below w.heap.size w u3 ∧ Blk u3 w.heap.size [.int .i64 pv, .int .i64 pl, .int .i64 pg, .int .i64 pt, .int .i64 pr, .int .i64 pa, .int .i64 pb, .int .i64 po, .bool pm] ∧ OwnE 9 plC u3 w3.heap.size 28 (.slice a2 ((tkR ⟨pv, pl, pg, pt, pr, pa, pb, po, pm⟩ zs).length) c3) (tkR ⟨pv, pl, pg, pt, pr, pa, pb, po, pm⟩ zs) ∧ OwnE 9 plC u3 w6.heap.size 28 (.slice a5 ((tkR ⟨pv, pl, pg, pt, pr, pa, pb, po, pm⟩ zs).length) c6) (tkR ⟨pv, pl, pg, pt, pr, pa, pb, po, pm⟩ zs))) := hide (fun W u3 h b => ⟨h.1.trans (b.mono h.1.size), h.2.1.below b, h.2.2.1.below b, h.2.2.2.below b⟩)
  have nk11 : ¬ (1 + (dl1 : Int) < 0) := by omega
  have mPp0 : w11.cell? ⟨w.heap.size, 0, none⟩ = some (.int .i64 pv) := (unhide K).2.1.c 0 (by simp)
  have mPp1 : w11.cell? ⟨w.heap.size, 1, none⟩ = some (.int .i64 pl) := (unhide K).2.1.c 1 (by simp)
  have mPp2 : w11.cell? ⟨w.heap.size, 2, none⟩ = some (.int .i64 pg) := (unhide K).2.1.c 2 (by simp)
  have mPp3 : w11.cell? ⟨w.heap.size, 3, none⟩ = some (.int .i64 pt) := (unhide K).2.1.c 3 (by simp)
  have mPp4 : w11.cell? ⟨w.heap.size, 4, none⟩ = some (.int .i64 pr) := (unhide K).2.1.c 4 (by simp)
  have mPp5 : w11.cell? ⟨w.heap.size, 5, none⟩ = some (.int .i64 pa) := (unhide K).2.1.c 5 (by simp)
  have mPp6 : w11.cell? ⟨w.heap.size, 6, none⟩ = some (.int .i64 pb) := (unhide K).2.1.c 6 (by simp)
  have mPp7 : w11.cell? ⟨w.heap.size, 7, none⟩ = some (.int .i64 po) := (unhide K).2.1.c 7 (by simp)
  have mPp8 : w11.cell? ⟨w.heap.size, 8, none⟩ = some (.bool pm) := (unhide K).2.1.c 8 (by simp)
  go_wp2_with fail
  clear mPp0 mPp1 mPp2 mPp3 mPp4 mPp5 mPp6 mPp7 mPp8
  refine (eqPilotS_same _ _ _ _ _ _ _ _ (unhide K).2.2.2.row (unhide K).2.2.1.row).mono ?_
  rintro x w12 ⟨rfl, b⟩
  have S11 : Hid (w11.heap.size ≤ w12.heap.size) := hide b.size
  have K : Hid (Below w.heap.size w w12 ∧ Blk w12 w.heap.size [.int .i64 pv, .int .i64 pl, .int .i64 pg, .int .i64 pt, .int .i64 pr, .int .i64 pa, .int .i64 pb, .int .i64 po, .bool pm] ∧ OwnE 9 plC w12 w3.heap.size 28 (.slice a2 ((tkR ⟨pv, pl, pg, pt, pr, pa, pb, po, pm⟩ zs).length) c3) (tkR ⟨pv, pl, pg, pt, pr, pa, pb, po, pm⟩ zs) ∧ OwnE 9 plC w12 w6.heap.size 28 (.slice a5 ((tkR ⟨pv, pl, pg, pt, pr, pa, pb, po, pm⟩ zs).length) c6) (tkR ⟨pv, pl, pg, pt, pr, pa, pb, po, pm⟩ zs)) := hide ((unhide KEPT) _ _ (unhide K) b)
  clear b
  have mPp0 : w12.cell? ⟨w.heap.size, 0, none⟩ = some (.int .i64 pv) := (unhide K).2.1.c 0 (by simp)
  have mPp1 : w12.cell? ⟨w.heap.size, 1, none⟩ = some (.int .i64 pl) := (unhide K).2.1.c 1 (by simp)
  have mPp2 : w12.cell? ⟨w.heap.size, 2, none⟩ = some (.int .i64 pg) := (unhide K).2.1.c 2 (by simp)
  have mPp3 : w12.cell? ⟨w.heap.size, 3, none⟩ = some (.int .i64 pt) := (unhide K).2.1.c 3 (by simp)
  have mPp4 : w12.cell? ⟨w.heap.size, 4, none⟩ = some (.int .i64 pr) := (unhide K).2.1.c 4 (by simp)
  have mPp5 : w12.cell? ⟨w.heap.size, 5, none⟩ = some (.int .i64 pa) := (unhide K).2.1.c 5 (by simp)
  have mPp6 : w12.cell? ⟨w.heap.size, 6, none⟩ = some (.int .i64 pb) := (unhide K).2.1.c 6 (by simp)
  have mPp7 : w12.cell? ⟨w.heap.size, 7, none⟩ = some (.int .i64 po) := (unhide K).2.1.c 7 (by simp)
  have mPp8 : w12.cell? ⟨w.heap.size, 8, none⟩ = some (.bool pm) := (unhide K).2.1.c 8 (by simp)
  go_wp2_with fail
  clear mPp0 mPp1 mPp2 mPp3 mPp4 mPp5 mPp6 mPp7 mPp8
  refine (markPilotS_any _ _ _ _ _ 1 _ (unhide K).2.2.2 (rfl) (by have := hsm; omega) (by omega) (by omega)).mono ?_
  rintro x w13 ⟨rfl, om, gr⟩
  have on := Only.of_row (lo := w6.heap.size) (hi := w7.heap.size) gr (unhide LG0)
  have S12 : Hid (w12.heap.size ≤ w13.heap.size) := hide on.size
  have K : Hid (Below w.heap.size w w13 ∧ Blk w13 w.heap.size [.int .i64 pv, .int .i64 pl, .int .i64 pg, .int .i64 pt, .int .i64 pr, .int .i64 pa, .int .i64 pb, .int .i64 po, .bool pm] ∧ OwnE 9 plC w13 w3.heap.size 28 (.slice a2 ((tkR ⟨pv, pl, pg, pt, pr, pa, pb, po, pm⟩ zs).length) c3) (tkR ⟨pv, pl, pg, pt, pr, pa, pb, po, pm⟩ zs) ∧ OwnE 9 plC w13 w6.heap.size 28 (.slice a5 ((tkR ⟨pv, pl, pg, pt, pr, pa, pb, po, pm⟩ zs).length) c6) (markL mkPl 9 (tkR ⟨pv, pl, pg, pt, pr, pa, pb, po, pm⟩ zs) 1 ((tkR ⟨pv, pl, pg, pt, pr, pa, pb, po, pm⟩ zs).length))) := hide ⟨below_only (unhide K).1 on (by have s0 := unhide S0; have s1 := unhide S1; have s2 := unhide S2; have s3 := unhide S3; have s4 := unhide S4; have s5 := unhide S5; have s6 := unhide S6; have s7 := unhide S7; have s8 := unhide S8; have s9 := unhide S9; have s10 := unhide S10; have s11 := unhide S11; have s12 := unhide S12; omega) (Nat.le_refl _), (unhide K).2.1.only on (by have s0 := unhide S0; have s1 := unhide S1; have s2 := unhide S2; have s3 := unhide S3; have s4 := unhide S4; have s5 := unhide S5; have s6 := unhide S6; have s7 := unhide S7; have s8 := unhide S8; have s9 := unhide S9; have s10 := unhide S10; have s11 := unhide S11; have s12 := unhide S12; omega), (unhide K).2.2.1.only on (fun g hg => by have := (unhide LW0) g hg; have s0 := unhide S0; have s1 := unhide S1; have s2 := unhide S2; have s3 := unhide S3; have s4 := unhide S4; have s5 := unhide S5; have s6 := unhide S6; have s7 := unhide S7; have s8 := unhide S8; have s9 := unhide S9; have s10 := unhide S10; have s11 := unhide S11; have s12 := unhide S12; omega), om⟩
  clear KEPT om on gr
  have KEPT : Hid (∀ W u3, (Below w.heap.size w W ∧ Blk W w.heap.size [.int .i64 pv, .int .i64 pl, .int .i64 pg, .int .i64 pt, .int .i64 pr, .int .i64 pa, .int .i64 pb, .int .i64 po, .bool pm] ∧ OwnE 9 plC W w3.heap.size 28 (.slice a2 ((tkR ⟨pv, pl, pg, pt, pr, pa, pb, po, pm⟩ zs).length) c3) (tkR ⟨pv, pl, pg, pt, pr, pa, pb, po, pm⟩ zs) ∧ OwnE 9 plC W w6.heap.size 28 (.slice a5 ((tkR ⟨pv, pl, pg, pt, pr, pa, pb, po, pm⟩ zs).length) c6) (markL mkPl 9 (tkR ⟨pv, pl, pg, pt, pr, pa, pb, po, pm⟩ zs) 1 ((tkR ⟨pv, pl, pg, pt, pr, pa, pb, po, pm⟩ zs).length))) → Below W.heap.size W u3 → (Below w.heap.size w u3 ∧ Blk u3 w.heap.size [.int .i64 pv, .int .i64 pl, .int .i64 pg, .int .i64 pt, .int .i64 pr, .int .i64 pa, .int .i64 pb, .int .i64 po, .bool pm] ∧ OwnE 9 plC u3 w3.heap.size 28 (.slice a2 ((tkR ⟨pv, pl, pg, pt, pr, pa, pb, po, pm⟩ zs).length) c3) (tkR ⟨pv, pl, pg, pt, pr, pa, pb, po, pm⟩ zs) ∧ OwnE 9 plC u3 w6.heap.size 28 (.slice a5 ((tkR ⟨pv, pl, pg, pt, pr, pa, pb, po, pm⟩ zs).length) c6) (markL mkPl 9 (tkR ⟨pv, pl, pg, pt, pr, pa, pb, po, pm⟩ zs) 1 ((tkR ⟨pv, pl, pg, pt, pr, pa, pb, po, pm⟩ zs).length)))) := hide (fun W u3 h b => ⟨h.1.trans (b.mono h.1.size), h.2.1.below b, h.2.2.1.below b, h.2.2.2.below b⟩)
  have mPp0 : w13.cell? ⟨w.heap.size, 0, none⟩ = some (.int .i64 pv) := (unhide K).2.1.c 0 (by simp)
  have mPp1 : w13.cell? ⟨w.heap.size, 1, none⟩ = some (.int .i64 pl) := (unhide K).2.1.c 1 (by simp)
  have mPp2 : w13.cell? ⟨w.heap.size, 2, none⟩ = some (.int .i64 pg) := (unhide K).2.1.c 2 (by simp)
  have mPp3 : w13.cell? ⟨w.heap.size, 3, none⟩ = some (.int .i64 pt) := (unhide K).2.1.c 3 (by simp)
  have mPp4 : w13.cell? ⟨w.heap.size, 4, none⟩ = some (.int .i64 pr) := (unhide K).2.1.c 4 (by simp)
  have mPp5 : w13.cell? ⟨w.heap.size, 5, none⟩ = some (.int .i64 pa) := (unhide K).2.1.c 5 (by simp)
  have mPp6 : w13.cell? ⟨w.heap.size, 6, none⟩ = some (.int .i64 pb) := (unhide K).2.1.c 6 (by simp)
  have mPp7 : w13.cell? ⟨w.heap.size, 7, none⟩ = some (.int .i64 po) := (unhide K).2.1.c 7 (by simp)
  have mPp8 : w13.cell? ⟨w.heap.size, 8, none⟩ = some (.bool pm) := (unhide K).2.1.c 8 (by simp)
  go_wp2_with fail
  clear mPp0 mPp1 mPp2 mPp3 mPp4 mPp5 mPp6 mPp7 mPp8
  refine (heldPilotS_any _ _ _ _ _ 1 _ (unhide K).2.2.2 (rfl) (by have := hsm; omega) (by omega) (by omega)).mono ?_
  rintro x w14 ⟨rfl, hw⟩
  have b : Below w13.heap.size w13 w14 := by rw [hw]; exact Below.refl _ _
  clear hw
  have S13 : Hid (w13.heap.size ≤ w14.heap.size) := hide b.size
  have K : Hid (Below w.heap.size w w14 ∧ Blk w14 w.heap.size [.int .i64 pv, .int .i64 pl, .int .i64 pg, .int .i64 pt, .int .i64 pr, .int .i64 pa, .int .i64 pb, .int .i64 po, .bool pm] ∧ OwnE 9 plC w14 w3.heap.size 28 (.slice a2 ((tkR ⟨pv, pl, pg, pt, pr, pa, pb, po, pm⟩ zs).length) c3) (tkR ⟨pv, pl, pg, pt, pr, pa, pb, po, pm⟩ zs) ∧ OwnE 9 plC w14 w6.heap.size 28 (.slice a5 ((tkR ⟨pv, pl, pg, pt, pr, pa, pb, po, pm⟩ zs).length) c6) (markL mkPl 9 (tkR ⟨pv, pl, pg, pt, pr, pa, pb, po, pm⟩ zs) 1 ((tkR ⟨pv, pl, pg, pt, pr, pa, pb, po, pm⟩ zs).length))) := hide ((unhide KEPT) _ _ (unhide K) b)
  clear b
  have nq14 : ¬ (1 + 9 * ((tkR ⟨pv, pl, pg, pt, pr, pa, pb, po, pm⟩ zs).length : Int) < 0) := by omega
  have nn14 : (1 + 9 * ((tkR ⟨pv, pl, pg, pt, pr, pa, pb, po, pm⟩ zs).length : Int) != 1 + 9 * ((tkR ⟨pv, pl, pg, pt, pr, pa, pb, po, pm⟩ zs).length : Int)) = false := by simp
  have mPp0 : w14.cell? ⟨w.heap.size, 0, none⟩ = some (.int .i64 pv) := (unhide K).2.1.c 0 (by simp)
  have mPp1 : w14.cell? ⟨w.heap.size, 1, none⟩ = some (.int .i64 pl) := (unhide K).2.1.c 1 (by simp)
  have mPp2 : w14.cell? ⟨w.heap.size, 2, none⟩ = some (.int .i64 pg) := (unhide K).2.1.c 2 (by simp)
  have mPp3 : w14.cell? ⟨w.heap.size, 3, none⟩ = some (.int .i64 pt) := (unhide K).2.1.c 3 (by simp)
  have mPp4 : w14.cell? ⟨w.heap.size, 4, none⟩ = some (.int .i64 pr) := (unhide K).2.1.c 4 (by simp)
  have mPp5 : w14.cell? ⟨w.heap.size, 5, none⟩ = some (.int .i64 pa) := (unhide K).2.1.c 5 (by simp)
  have mPp6 : w14.cell? ⟨w.heap.size, 6, none⟩ = some (.int .i64 pb) := (unhide K).2.1.c 6 (by simp)
  have mPp7 : w14.cell? ⟨w.heap.size, 7, none⟩ = some (.int .i64 po) := (unhide K).2.1.c 7 (by simp)
  have mPp8 : w14.cell? ⟨w.heap.size, 8, none⟩ = some (.bool pm) := (unhide K).2.1.c 8 (by simp)
  go_wp2_with fail
  clear mPp0 mPp1 mPp2 mPp3 mPp4 mPp5 mPp6 mPp7 mPp8
  refine (toPilot_any _ _ _ _ _ _ _ _ _ _).mono ?_
  rintro x w15 ⟨rfl, b⟩
  have S14 : Hid (w14.heap.size ≤ w15.heap.size) := hide b.size
  have K : Hid (Below w.heap.size w w15 ∧ Blk w15 w.heap.size [.int .i64 pv, .int .i64 pl, .int .i64 pg, .int .i64 pt, .int .i64 pr, .int .i64 pa, .int .i64 pb, .int .i64 po, .bool pm] ∧ OwnE 9 plC w15 w3.heap.size 28 (.slice a2 ((tkR ⟨pv, pl, pg, pt, pr, pa, pb, po, pm⟩ zs).length) c3) (tkR ⟨pv, pl, pg, pt, pr, pa, pb, po, pm⟩ zs) ∧ OwnE 9 plC w15 w6.heap.size 28 (.slice a5 ((tkR ⟨pv, pl, pg, pt, pr, pa, pb, po, pm⟩ zs).length) c6) (markL mkPl 9 (tkR ⟨pv, pl, pg, pt, pr, pa, pb, po, pm⟩ zs) 1 ((tkR ⟨pv, pl, pg, pt, pr, pa, pb, po, pm⟩ zs).length))) := hide ((unhide KEPT) _ _ (unhide K) b)
  clear b
  have mPp0 : w15.cell? ⟨w.heap.size, 0, none⟩ = some (.int .i64 pv) := (unhide K).2.1.c 0 (by simp)
  have mPp1 : w15.cell? ⟨w.heap.size, 1, none⟩ = some (.int .i64 pl) := (unhide K).2.1.c 1 (by simp)
  have mPp2 : w15.cell? ⟨w.heap.size, 2, none⟩ = some (.int .i64 pg) := (unhide K).2.1.c 2 (by simp)
  have mPp3 : w15.cell? ⟨w.heap.size, 3, none⟩ = some (.int .i64 pt) := (unhide K).2.1.c 3 (by simp)
  have mPp4 : w15.cell? ⟨w.heap.size, 4, none⟩ = some (.int .i64 pr) := (unhide K).2.1.c 4 (by simp)
  have mPp5 : w15.cell? ⟨w.heap.size, 5, none⟩ = some (.int .i64 pa) := (unhide K).2.1.c 5 (by simp)
  have mPp6 : w15.cell? ⟨w.heap.size, 6, none⟩ = some (.int .i64 pb) := (unhide K).2.1.c 6 (by simp)
  have mPp7 : w15.cell? ⟨w.heap.size, 7, none⟩ = some (.int .i64 po) := (unhide K).2.1.c 7 (by simp)
  have mPp8 : w15.cell? ⟨w.heap.size, 8, none⟩ = some (.bool pm) := (unhide K).2.1.c 8 (by simp)
  go_wp2_with fail
  clear mPp0 mPp1 mPp2 mPp3 mPp4 mPp5 mPp6 mPp7 mPp8
  obtain ⟨g8, hg8⟩ : ∃ G, w15.heap.size = G := ⟨_, rfl⟩
  refine (toIntS_own _ _ _ _ _ ((unhide Rd).below (unhide K).1) hd1).mono ?_
  rintro x w16 ⟨rfl, oc, b⟩
  rw [hg8] at oc ⊢
  have Bg8 := hide hg8
  clear hg8
  have LT16 : Hid (∀ g, (Value.slice (some ⟨g8, 0, none⟩) dl1 dl1).ownBlock = some g → w15.heap.size ≤ g ∧ g < w16.heap.size) := hide (by have e := unhide Bg8; have l := oc.lies; rw [← e] at l ⊢; exact l)
  have S15 : Hid (w15.heap.size ≤ w16.heap.size) := hide b.size
  have K : Hid (Below w.heap.size w w16 ∧ Blk w16 w.heap.size [.int .i64 pv, .int .i64 pl, .int .i64 pg, .int .i64 pt, .int .i64 pr, .int .i64 pa, .int .i64 pb, .int .i64 po, .bool pm] ∧ OwnE 9 plC w16 w3.heap.size 28 (.slice a2 ((tkR ⟨pv, pl, pg, pt, pr, pa, pb, po, pm⟩ zs).length) c3) (tkR ⟨pv, pl, pg, pt, pr, pa, pb, po, pm⟩ zs) ∧ OwnE 9 plC w16 w6.heap.size 28 (.slice a5 ((tkR ⟨pv, pl, pg, pt, pr, pa, pb, po, pm⟩ zs).length) c6) (markL mkPl 9 (tkR ⟨pv, pl, pg, pt, pr, pa, pb, po, pm⟩ zs) 1 ((tkR ⟨pv, pl, pg, pt, pr, pa, pb, po, pm⟩ zs).length))) := hide ((unhide KEPT) _ _ (unhide K) b)
  have K : Hid (Below w.heap.size w w16 ∧ Blk w16 w.heap.size [.int .i64 pv, .int .i64 pl, .int .i64 pg, .int .i64 pt, .int .i64 pr, .int .i64 pa, .int .i64 pb, .int .i64 po, .bool pm] ∧ OwnE 9 plC w16 w3.heap.size 28 (.slice a2 ((tkR ⟨pv, pl, pg, pt, pr, pa, pb, po, pm⟩ zs).length) c3) (tkR ⟨pv, pl, pg, pt, pr, pa, pb, po, pm⟩ zs) ∧ OwnE 9 plC w16 w6.heap.size 28 (.slice a5 ((tkR ⟨pv, pl, pg, pt, pr, pa, pb, po, pm⟩ zs).length) c6) (markL mkPl 9 (tkR ⟨pv, pl, pg, pt, pr, pa, pb, po, pm⟩ zs) 1 ((tkR ⟨pv, pl, pg, pt, pr, pa, pb, po, pm⟩ zs).length)) ∧ OwnI w16 w15.heap.size (.slice (some ⟨g8, 0, none⟩) dl1 dl1) zs) := hide ⟨(unhide K).1, (unhide K).2.1, (unhide K).2.2.1, (unhide K).2.2.2, (by have e := unhide Bg8; rw [e]; exact oc)⟩
  clear KEPT oc b
  have KEPT : Hid (∀ W u3, (Below w.heap.size w W ∧ Blk W w.heap.size [.int .i64 pv, .int .i64 pl, .int .i64 pg, .int .i64 pt, .int .i64 pr, .int .i64 pa, .int .i64 pb, .int .i64 po, .bool pm] ∧ OwnE 9 plC W w3.heap.size 28 (.slice a2 ((tkR ⟨pv, pl, pg, pt, pr, pa, pb, po, pm⟩ zs).length) c3) (tkR ⟨pv, pl, pg, pt, pr, pa, pb, po, pm⟩ zs) ∧ OwnE 9 plC W w6.heap.size 28 (.slice a5 ((tkR ⟨pv, pl, pg, pt, pr, pa, pb, po, pm⟩ zs).length) c6) (markL mkPl 9 (tkR ⟨pv, pl, pg, pt, pr, pa, pb, po, pm⟩ zs) 1 ((tkR ⟨pv, pl, pg, pt, pr, pa, pb, po, pm⟩ zs).length)) ∧ OwnI W w15.heap.size (.slice (some ⟨g8, 0, none⟩) dl1 dl1) zs) → Below W.heap.size W u3 → (Below w.heap.size w u3 ∧ Blk u3 w.heap.size [.int .i64 pv, .int .i64 pl, .int .i64 pg, .int .i64 pt, .int .i64 pr, .int .i64 pa, .int .i64 pb, .int .i64 po, .bool pm] ∧ OwnE 9 plC u3 w3.heap.size 28 (.slice a2 ((tkR ⟨pv, pl, pg, pt, pr, pa, pb, po, pm⟩ zs).length) c3) (tkR ⟨pv, pl, pg, pt, pr, pa, pb, po, pm⟩ zs) ∧ OwnE 9 plC u3 w6.heap.size 28 (.slice a5 ((tkR ⟨pv, pl, pg, pt, pr, pa, pb, po, pm⟩ zs).length) c6) (markL mkPl 9 (tkR ⟨pv, pl, pg, pt, pr, pa, pb, po, pm⟩ zs) 1 ((tkR ⟨pv, pl, pg, pt, pr, pa, pb, po, pm⟩ zs).length)) ∧ OwnI u3 w15.heap.size (.slice (some ⟨g8, 0, none⟩) dl1 dl1) zs)) := hide (fun W u3 h b => ⟨h.1.trans (b.mono h.1.size), h.2.1.below b, h.2.2.1.below b, h.2.2.2.1.below b, h.2.2.2.2.below b⟩)
  have mPp0 : w16.cell? ⟨w.heap.size, 0, none⟩ = some (.int .i64 pv) := (unhide K).2.1.c 0 (by simp)
  have mPp1 : w16.cell? ⟨w.heap.size, 1, none⟩ = some (.int .i64 pl) := (unhide K).2.1.c 1 (by simp)
  have mPp2 : w16.cell? ⟨w.heap.size, 2, none⟩ = some (.int .i64 pg) := (unhide K).2.1.c 2 (by simp)
  have mPp3 : w16.cell? ⟨w.heap.size, 3, none⟩ = some (.int .i64 pt) := (unhide K).2.1.c 3 (by simp)
  have mPp4 : w16.cell? ⟨w.heap.size, 4, none⟩ = some (.int .i64 pr) := (unhide K).2.1.c 4 (by simp)
  have mPp5 : w16.cell? ⟨w.heap.size, 5, none⟩ = some (.int .i64 pa) := (unhide K).2.1.c 5 (by simp)
  have mPp6 : w16.cell? ⟨w.heap.size, 6, none⟩ = some (.int .i64 pb) := (unhide K).2.1.c 6 (by simp)
  have mPp7 : w16.cell? ⟨w.heap.size, 7, none⟩ = some (.int .i64 po) := (unhide K).2.1.c 7 (by simp)
  have mPp8 : w16.cell? ⟨w.heap.size, 8, none⟩ = some (.bool pm) := (unhide K).2.1.c 8 (by simp)
  go_wp2_with fail
  clear mPp0 mPp1 mPp2 mPp3 mPp4 mPp5 mPp6 mPp7 mPp8
  refine (implTicks_any _ _ _ _ _ _ _ _ _ _ _ _ _ _ (unhide K).2.2.2.2.row ).mono ?_
  rintro x w17 ⟨a9, c10, rfl, oH_0, b⟩
  have LH0 : Hid (∀ g, (Value.slice a9 ((tkR ⟨pv, pl, pg, pt, pr, pa, pb, po, pm⟩ zs).length) c10).ownBlock = some g → w16.heap.size ≤ g ∧ g < w17.heap.size) := hide oH_0.lies
  have S16 : Hid (w16.heap.size ≤ w17.heap.size) := hide b.size
  have K : Hid (Below w.heap.size w w17 ∧ Blk w17 w.heap.size [.int .i64 pv, .int .i64 pl, .int .i64 pg, .int .i64 pt, .int .i64 pr, .int .i64 pa, .int .i64 pb, .int .i64 po, .bool pm] ∧ OwnE 9 plC w17 w3.heap.size 28 (.slice a2 ((tkR ⟨pv, pl, pg, pt, pr, pa, pb, po, pm⟩ zs).length) c3) (tkR ⟨pv, pl, pg, pt, pr, pa, pb, po, pm⟩ zs) ∧ OwnE 9 plC w17 w6.heap.size 28 (.slice a5 ((tkR ⟨pv, pl, pg, pt, pr, pa, pb, po, pm⟩ zs).length) c6) (markL mkPl 9 (tkR ⟨pv, pl, pg, pt, pr, pa, pb, po, pm⟩ zs) 1 ((tkR ⟨pv, pl, pg, pt, pr, pa, pb, po, pm⟩ zs).length)) ∧ OwnI w17 w15.heap.size (.slice (some ⟨g8, 0, none⟩) dl1 dl1) zs) := hide ((unhide KEPT) _ _ (unhide K) b)
  have K : Hid (Below w.heap.size w w17 ∧ Blk w17 w.heap.size [.int .i64 pv, .int .i64 pl, .int .i64 pg, .int .i64 pt, .int .i64 pr, .int .i64 pa, .int .i64 pb, .int .i64 po, .bool pm] ∧ OwnE 9 plC w17 w3.heap.size 28 (.slice a2 ((tkR ⟨pv, pl, pg, pt, pr, pa, pb, po, pm⟩ zs).length) c3) (tkR ⟨pv, pl, pg, pt, pr, pa, pb, po, pm⟩ zs) ∧ OwnE 9 plC w17 w6.heap.size 28 (.slice a5 ((tkR ⟨pv, pl, pg, pt, pr, pa, pb, po, pm⟩ zs).length) c6) (markL mkPl 9 (tkR ⟨pv, pl, pg, pt, pr, pa, pb, po, pm⟩ zs) 1 ((tkR ⟨pv, pl, pg, pt, pr, pa, pb, po, pm⟩ zs).length)) ∧ OwnI w17 w15.heap.size (.slice (some ⟨g8, 0, none⟩) dl1 dl1) zs ∧ OwnE 9 plC w17 w16.heap.size 28 (.slice a9 ((tkR ⟨pv, pl, pg, pt, pr, pa, pb, po, pm⟩ zs).length) c10) (tkR ⟨pv, pl, pg, pt, pr, pa, pb, po, pm⟩ zs)) := hide ⟨(unhide K).1, (unhide K).2.1, (unhide K).2.2.1, (unhide K).2.2.2.1, (unhide K).2.2.2.2, oH_0⟩
  clear KEPT
  have KEPT : Hid (∀ W u3, (Below w.heap.size w W ∧ Blk W w.heap.size [.int .i64 pv, .int .i64 pl, .int .i64 pg, .int .i64 pt, .int .i64 pr, .int .i64 pa, .int .i64 pb, .int .i64 po, .bool pm] ∧ OwnE 9 plC W w3.heap.size 28 (.slice a2 ((tkR ⟨pv, pl, pg, pt, pr, pa, pb, po, pm⟩ zs).length) c3) (tkR ⟨pv, pl, pg, pt, pr, pa, pb, po, pm⟩ zs) ∧ OwnE 9 plC W w6.heap.size 28 (.slice a5 ((tkR ⟨pv, pl, pg, pt, pr, pa, pb, po, pm⟩ zs).length) c6) (markL mkPl 9 (tkR ⟨pv, pl, pg, pt, pr, pa, pb, po, pm⟩ zs) 1 ((tkR ⟨pv, pl, pg, pt, pr, pa, pb, po, pm⟩ zs).length)) ∧ OwnI W w15.heap.size (.slice (some ⟨g8, 0, none⟩) dl1 dl1) zs ∧ OwnE 9 plC W w16.heap.size 28 (.slice a9 ((tkR ⟨pv, pl, pg, pt, pr, pa, pb, po, pm⟩ zs).length) c10) (tkR ⟨pv, pl, pg, pt, pr, pa, pb, po, pm⟩ zs)) → Below W.heap.size W u3 → (Below w.heap.size w u3 ∧ Blk u3 w.heap.size [.int .i64 pv, .int .i64 pl, .int .i64 pg, .int .i64 pt, .int .i64 pr, .int .i64 pa, .int .i64 pb, .int .i64 po, .bool pm] ∧ OwnE 9 plC u3 w3.heap.size 28 (.slice a2 ((tkR ⟨pv, pl, pg, pt, pr, pa, pb, po, pm⟩ zs).length) c3) (tkR ⟨pv, pl, pg, pt, pr, pa, pb, po, pm⟩ zs) ∧ OwnE 9 plC u3 w6.heap.size 28 (.slice a5 ((tkR ⟨pv, pl, pg, pt, pr, pa, pb, po, pm⟩ zs).length) c6) (markL mkPl 9 (tkR ⟨pv, pl, pg, pt, pr, pa, pb, po, pm⟩ zs) 1 ((tkR ⟨pv, pl, pg, pt, pr, pa, pb, po, pm⟩ zs).length)) ∧ OwnI u3 w15.heap.size (.slice (some ⟨g8, 0, none⟩) dl1 dl1) zs ∧ OwnE 9 plC u3 w16.heap.size 28 (.slice a9 ((tkR ⟨pv, pl, pg, pt, pr, pa, pb, po, pm⟩ zs).length) c10) (tkR ⟨pv, pl, pg, pt, pr, pa, pb, po, pm⟩ zs))) := hide (fun W u3 h b => ⟨h.1.trans (b.mono h.1.size), h.2.1.below b, h.2.2.1.below b, h.2.2.2.1.below b, h.2.2.2.2.1.below b, h.2.2.2.2.2.below b⟩)
  clear oH_0
  clear b
  have K : Hid (Below w.heap.size w w17 ∧ Blk w17 w.heap.size [.int .i64 pv, .int .i64 pl, .int .i64 pg, .int .i64 pt, .int .i64 pr, .int .i64 pa, .int .i64 pb, .int .i64 po, .bool pm] ∧ OwnE 9 plC w17 w3.heap.size 28 (.slice a2 ((tkR ⟨pv, pl, pg, pt, pr, pa, pb, po, pm⟩ zs).length) c3) (tkR ⟨pv, pl, pg, pt, pr, pa, pb, po, pm⟩ zs) ∧ OwnE 9 plC w17 w6.heap.size 28 (.slice a5 ((tkR ⟨pv, pl, pg, pt, pr, pa, pb, po, pm⟩ zs).length) c6) (markL mkPl 9 (tkR ⟨pv, pl, pg, pt, pr, pa, pb, po, pm⟩ zs) 1 ((tkR ⟨pv, pl, pg, pt, pr, pa, pb, po, pm⟩ zs).length)) ∧ OwnE 9 plC w17 w16.heap.size 28 (.slice a9 ((tkR ⟨pv, pl, pg, pt, pr, pa, pb, po, pm⟩ zs).length) c10) (tkR ⟨pv, pl, pg, pt, pr, pa, pb, po, pm⟩ zs)) := hide ⟨(unhide K).1, (unhide K).2.1, (unhide K).2.2.1, (unhide K).2.2.2.1, (unhide K).2.2.2.2.2⟩
  clear KEPT
  have KEPT : Hid (∀ W u3, (Below w.heap.size w W ∧ Blk W w.heap.size [.int .i64 pv, .int .i64 pl, .int .i64 pg, .int .i64 pt, .int .i64 pr, .int .i64 pa, .int .i64 pb, .int .i64 po, .bool pm] ∧ OwnE 9 plC W w3.heap.size 28 (.slice a2 ((tkR ⟨pv, pl, pg, pt, pr, pa, pb, po, pm⟩ zs).length) c3) (tkR ⟨pv, pl, pg, pt, pr, pa, pb, po, pm⟩ zs) ∧ OwnE 9 plC W w6.heap.size 28 (.slice a5 ((tkR ⟨pv, pl, pg, pt, pr, pa, pb, po, pm⟩ zs).length) c6) (markL mkPl 9 (tkR ⟨pv, pl, pg, pt, pr, pa, pb, po, pm⟩ zs) 1 ((tkR ⟨pv, pl, pg, pt, pr, pa, pb, po, pm⟩ zs).length)) ∧ OwnE 9 plC W w16.heap.size 28 (.slice a9 ((tkR ⟨pv, pl, pg, pt, pr, pa, pb, po, pm⟩ zs).length) c10) (tkR ⟨pv, pl, pg, pt, pr, pa, pb, po, pm⟩ zs)) → Below W.heap.size W u3 → (Below w.heap.size w u3 ∧ Blk u3 w.heap.size [.int .i64 pv, .int .i64 pl, .int .i64 pg, .int .i64 pt, .int .i64 pr, .int .i64 pa, .int .i64 pb, .int .i64 po, .bool pm] ∧ OwnE 9 plC u3 w3.heap.size 28 (.slice a2 ((tkR ⟨pv, pl, pg, pt, pr, pa, pb, po, pm⟩ zs).length) c3) (tkR ⟨pv, pl, pg, pt, pr, pa, pb, po, pm⟩ zs) ∧ OwnE 9 plC u3 w6.heap.size 28 (.slice a5 ((tkR ⟨pv, pl, pg, pt, pr, pa, pb, po, pm⟩ zs).length) c6) (markL mkPl 9 (tkR ⟨pv, pl, pg, pt, pr, pa, pb, po, pm⟩ zs) 1 ((tkR ⟨pv, pl, pg, pt, pr, pa, pb, po, pm⟩ zs).length)) ∧ OwnE 9 plC u3 w16.heap.size 28 (.slice a9 ((tkR ⟨pv, pl, pg, pt, pr, pa, pb, po, pm⟩ zs).length) c10) (tkR ⟨pv, pl, pg, pt, pr, pa, pb, po, pm⟩ zs))) := hide (fun W u3 h b => ⟨h.1.trans (b.mono h.1.size), h.2.1.below b, h.2.2.1.below b, h.2.2.2.1.below b, h.2.2.2.2.below b⟩)
  have mPp0 : w17.cell? ⟨w.heap.size, 0, none⟩ = some (.int .i64 pv) := (unhide K).2.1.c 0 (by simp)
  have mPp1 : w17.cell? ⟨w.heap.size, 1, none⟩ = some (.int .i64 pl) := (unhide K).2.1.c 1 (by simp)
  have mPp2 : w17.cell? ⟨w.heap.size, 2, none⟩ = some (.int .i64 pg) := (unhide K).2.1.c 2 (by simp)
  have mPp3 : w17.cell? ⟨w.heap.size, 3, none⟩ = some (.int .i64 pt) := (unhide K).2.1.c 3 (by simp)
  have mPp4 : w17.cell? ⟨w.heap.size, 4, none⟩ = some (.int .i64 pr) := (unhide K).2.1.c 4 (by simp)
  have mPp5 : w17.cell? ⟨w.heap.size, 5, none⟩ = some (.int .i64 pa) := (unhide K).2.1.c 5 (by simp)
  have mPp6 : w17.cell? ⟨w.heap.size, 6, none⟩ = some (.int .i64 pb) := (unhide K).2.1.c 6 (by simp)
  have mPp7 : w17.cell? ⟨w.heap.size, 7, none⟩ = some (.int .i64 po) := (unhide K).2.1.c 7 (by simp)
  have mPp8 : w17.cell? ⟨w.heap.size, 8, none⟩ = some (.bool pm) := (unhide K).2.1.c 8 (by simp)
  go_wp2_with fail
  clear mPp0 mPp1 mPp2 mPp3 mPp4 mPp5 mPp6 mPp7 mPp8
  refine (eqPilotS_same _ _ _ _ _ _ _ _ (unhide K).2.2.2.2.row (unhide K).2.2.1.row).mono ?_
  rintro x w18 ⟨rfl, b⟩
  have S17 : Hid (w17.heap.size ≤ w18.heap.size) := hide b.size
  have K : Hid (Below w.heap.size w w18 ∧ Blk w18 w.heap.size [.int .i64 pv, .int .i64 pl, .int .i64 pg, .int .i64 pt, .int .i64 pr, .int .i64 pa, .int .i64 pb, .int .i64 po, .bool pm] ∧ OwnE 9 plC w18 w3.heap.size 28 (.slice a2 ((tkR ⟨pv, pl, pg, pt, pr, pa, pb, po, pm⟩ zs).length) c3) (tkR ⟨pv, pl, pg, pt, pr, pa, pb, po, pm⟩ zs) ∧ OwnE 9 plC w18 w6.heap.size 28 (.slice a5 ((tkR ⟨pv, pl, pg, pt, pr, pa, pb, po, pm⟩ zs).length) c6) (markL mkPl 9 (tkR ⟨pv, pl, pg, pt, pr, pa, pb, po, pm⟩ zs) 1 ((tkR ⟨pv, pl, pg, pt, pr, pa, pb, po, pm⟩ zs).length)) ∧ OwnE 9 plC w18 w16.heap.size 28 (.slice a9 ((tkR ⟨pv, pl, pg, pt, pr, pa, pb, po, pm⟩ zs).length) c10) (tkR ⟨pv, pl, pg, pt, pr, pa, pb, po, pm⟩ zs)) := hide ((unhide KEPT) _ _ (unhide K) b)
  clear b
  have mPp0 : w18.cell? ⟨w.heap.size, 0, none⟩ = some (.int .i64 pv) := (unhide K).2.1.c 0 (by simp)
  have mPp1 : w18.cell? ⟨w.heap.size, 1, none⟩ = some (.int .i64 pl) := (unhide K).2.1.c 1 (by simp)
  have mPp2 : w18.cell? ⟨w.heap.size, 2, none⟩ = some (.int .i64 pg) := (unhide K).2.1.c 2 (by simp)
  have mPp3 : w18.cell? ⟨w.heap.size, 3, none⟩ = some (.int .i64 pt) := (unhide K).2.1.c 3 (by simp)
  have mPp4 : w18.cell? ⟨w.heap.size, 4, none⟩ = some (.int .i64 pr) := (unhide K).2.1.c 4 (by simp)
  have mPp5 : w18.cell? ⟨w.heap.size, 5, none⟩ = some (.int .i64 pa) := (unhide K).2.1.c 5 (by simp)
  have mPp6 : w18.cell? ⟨w.heap.size, 6, none⟩ = some (.int .i64 pb) := (unhide K).2.1.c 6 (by simp)
  have mPp7 : w18.cell? ⟨w.heap.size, 7, none⟩ = some (.int .i64 po) := (unhide K).2.1.c 7 (by simp)
  have mPp8 : w18.cell? ⟨w.heap.size, 8, none⟩ = some (.bool pm) := (unhide K).2.1.c 8 (by simp)
  go_wp2_with fail
  clear mPp0 mPp1 mPp2 mPp3 mPp4 mPp5 mPp6 mPp7 mPp8
  refine (heldPilotS_any _ _ _ _ _ 1 _ (unhide K).2.2.2.1 (rfl) (by have := hsm; omega) (by omega) (by omega)).mono ?_
  rintro x w19 ⟨rfl, hw⟩
  have b : Below w18.heap.size w18 w19 := by rw [hw]; exact Below.refl _ _
  clear hw
  have S18 : Hid (w18.heap.size ≤ w19.heap.size) := hide b.size
  have K : Hid (Below w.heap.size w w19 ∧ Blk w19 w.heap.size [.int .i64 pv, .int .i64 pl, .int .i64 pg, .int .i64 pt, .int .i64 pr, .int .i64 pa, .int .i64 pb, .int .i64 po, .bool pm] ∧ OwnE 9 plC w19 w3.heap.size 28 (.slice a2 ((tkR ⟨pv, pl, pg, pt, pr, pa, pb, po, pm⟩ zs).length) c3) (tkR ⟨pv, pl, pg, pt, pr, pa, pb, po, pm⟩ zs) ∧ OwnE 9 plC w19 w6.heap.size 28 (.slice a5 ((tkR ⟨pv, pl, pg, pt, pr, pa, pb, po, pm⟩ zs).length) c6) (markL mkPl 9 (tkR ⟨pv, pl, pg, pt, pr, pa, pb, po, pm⟩ zs) 1 ((tkR ⟨pv, pl, pg, pt, pr, pa, pb, po, pm⟩ zs).length)) ∧ OwnE 9 plC w19 w16.heap.size 28 (.slice a9 ((tkR ⟨pv, pl, pg, pt, pr, pa, pb, po, pm⟩ zs).length) c10) (tkR ⟨pv, pl, pg, pt, pr, pa, pb, po, pm⟩ zs)) := hide ((unhide KEPT) _ _ (unhide K) b)
  clear b
  have nq19 : ¬ (1 + 9 * ((tkR ⟨pv, pl, pg, pt, pr, pa, pb, po, pm⟩ zs).length : Int) < 0) := by omega
  have nn19 : (1 + 9 * ((tkR ⟨pv, pl, pg, pt, pr, pa, pb, po, pm⟩ zs).length : Int) != 1 + 9 * ((tkR ⟨pv, pl, pg, pt, pr, pa, pb, po, pm⟩ zs).length : Int)) = false := by simp
  have mPp0 : w19.cell? ⟨w.heap.size, 0, none⟩ = some (.int .i64 pv) := (unhide K).2.1.c 0 (by simp)
  have mPp1 : w19.cell? ⟨w.heap.size, 1, none⟩ = some (.int .i64 pl) := (unhide K).2.1.c 1 (by simp)
  have mPp2 : w19.cell? ⟨w.heap.size, 2, none⟩ = some (.int .i64 pg) := (unhide K).2.1.c 2 (by simp)
  have mPp3 : w19.cell? ⟨w.heap.size, 3, none⟩ = some (.int .i64 pt) := (unhide K).2.1.c 3 (by simp)
  have mPp4 : w19.cell? ⟨w.heap.size, 4, none⟩ = some (.int .i64 pr) := (unhide K).2.1.c 4 (by simp)
  have mPp5 : w19.cell? ⟨w.heap.size, 5, none⟩ = some (.int .i64 pa) := (unhide K).2.1.c 5 (by simp)
  have mPp6 : w19.cell? ⟨w.heap.size, 6, none⟩ = some (.int .i64 pb) := (unhide K).2.1.c 6 (by simp)
  have mPp7 : w19.cell? ⟨w.heap.size, 7, none⟩ = some (.int .i64 po) := (unhide K).2.1.c 7 (by simp)
  have mPp8 : w19.cell? ⟨w.heap.size, 8, none⟩ = some (.bool pm) := (unhide K).2.1.c 8 (by simp)
  go_wp2_with fail
  clear mPp0 mPp1 mPp2 mPp3 mPp4 mPp5 mPp6 mPp7 mPp8
  go_ret
  exact ⟨rfl, (unhide K).1⟩
end Go.Proofs.Ytfahhjgpgccdhas
