/-
  The law FnExactCraftOk returns true at every argument and writes nothing that was there: the walk. No condition.
-/
import Derived.Test.YtkpmoolggpojdauToCf
import Derived.Test.YtkpmoolggpojdauLgImpl
import Derived.Test.YtkpmoolggpojdauOnly
import Derived.Deep.RegionHeld3
namespace Go.Proofs.Ytkpmoolggpojdau
open Go.RowKit
set_option maxRecDepth 20000 in
set_option maxHeartbeats 8000000 in
theorem lawCraftOk (x1 y1 d1 h1 c1 : Int) (w : World)   :
    Calls Try.prog 4 #[.agg #[.int .i64 x1, .int .i64 y1, .int .i64 d1, .int .i64 h1, .int .i64 c1]] w fun x w' => x = .returned (.bool true) ∧ Below w.heap.size w w' := by
  have hq : (cfB ⟨x1, y1, d1, h1, c1⟩ != cfB ⟨x1, y1, d1, h1, c1⟩) = false := by simp
  go_enter Try.func4, Try.ntmps4
  go_wp2_with fail
  obtain ⟨w1, hw1⟩ : ∃ W, W = (w.alloc (Obj.cells #[.int .i64 x1, .int .i64 y1, .int .i64 d1, .int .i64 h1, .int .i64 c1] 29)) := ⟨_, rfl⟩
  rw [← hw1]
  have K : Hid (Below w.heap.size w w1 ∧ Blk w1 w.heap.size [.int .i64 x1, .int .i64 y1, .int .i64 d1, .int .i64 h1, .int .i64 c1]) := hide ⟨(by rw [hw1]; exact bel1 _), (by rw [hw1]; exact Blk.new _ _)⟩
  have S0 : Hid (w.heap.size + 1 ≤ w1.heap.size) := hide (by rw [hw1]; simp; try omega)
  clear hw1
  have KEPT : Hid (∀ W u3, (Below w.heap.size w W ∧ Blk W w.heap.size [.int .i64 x1, .int .i64 y1, .int .i64 d1, .int .i64 h1, .int .i64 c1]) → Below W.heap.size W u3 → (Below w.heap.size w u3 ∧ Blk u3 w.heap.size [.int .i64 x1, .int .i64 y1, .int .i64 d1, .int .i64 h1, .int .i64 c1])) := hide (fun W u3 h b => ⟨h.1.trans (b.mono h.1.size), h.2.below b⟩)
  refine (toCraft_any _ _ _ _ _ _).mono ?_
  rintro x w2 ⟨rfl, b⟩
  have S1 : Hid (w1.heap.size ≤ w2.heap.size) := hide b.size
  have K : Hid (Below w.heap.size w w2 ∧ Blk w2 w.heap.size [.int .i64 x1, .int .i64 y1, .int .i64 d1, .int .i64 h1, .int .i64 c1]) := hide ((unhide KEPT) _ _ (unhide K) b)
  clear b
  have mPc0 : w2.cell? ⟨w.heap.size, 0, none⟩ = some (.int .i64 x1) := (unhide K).2.c 0 (by simp)
  have mPc1 : w2.cell? ⟨w.heap.size, 1, none⟩ = some (.int .i64 y1) := (unhide K).2.c 1 (by simp)
  have mPc2 : w2.cell? ⟨w.heap.size, 2, none⟩ = some (.int .i64 d1) := (unhide K).2.c 2 (by simp)
  have mPc3 : w2.cell? ⟨w.heap.size, 3, none⟩ = some (.int .i64 h1) := (unhide K).2.c 3 (by simp)
  have mPc4 : w2.cell? ⟨w.heap.size, 4, none⟩ = some (.int .i64 c1) := (unhide K).2.c 4 (by simp)
  go_wp2_with fail
  clear mPc0 mPc1 mPc2 mPc3 mPc4
  refine (specCraftOk_any _ _ _ _ _ _  ).mono ?_
  rintro x w3 ⟨rfl, b⟩
  have S2 : Hid (w2.heap.size ≤ w3.heap.size) := hide b.size
  have K : Hid (Below w.heap.size w w3 ∧ Blk w3 w.heap.size [.int .i64 x1, .int .i64 y1, .int .i64 d1, .int .i64 h1, .int .i64 c1]) := hide ((unhide KEPT) _ _ (unhide K) b)
  clear b
  have mPc0 : w3.cell? ⟨w.heap.size, 0, none⟩ = some (.int .i64 x1) := (unhide K).2.c 0 (by simp)
  have mPc1 : w3.cell? ⟨w.heap.size, 1, none⟩ = some (.int .i64 y1) := (unhide K).2.c 1 (by simp)
  have mPc2 : w3.cell? ⟨w.heap.size, 2, none⟩ = some (.int .i64 d1) := (unhide K).2.c 2 (by simp)
  have mPc3 : w3.cell? ⟨w.heap.size, 3, none⟩ = some (.int .i64 h1) := (unhide K).2.c 3 (by simp)
  have mPc4 : w3.cell? ⟨w.heap.size, 4, none⟩ = some (.int .i64 c1) := (unhide K).2.c 4 (by simp)
  go_wp2_with fail
  clear mPc0 mPc1 mPc2 mPc3 mPc4
  refine (toCraft_any _ _ _ _ _ _).mono ?_
  rintro x w4 ⟨rfl, b⟩
  have S3 : Hid (w3.heap.size ≤ w4.heap.size) := hide b.size
  have K : Hid (Below w.heap.size w w4 ∧ Blk w4 w.heap.size [.int .i64 x1, .int .i64 y1, .int .i64 d1, .int .i64 h1, .int .i64 c1]) := hide ((unhide KEPT) _ _ (unhide K) b)
  clear b
  have mPc0 : w4.cell? ⟨w.heap.size, 0, none⟩ = some (.int .i64 x1) := (unhide K).2.c 0 (by simp)
  have mPc1 : w4.cell? ⟨w.heap.size, 1, none⟩ = some (.int .i64 y1) := (unhide K).2.c 1 (by simp)
  have mPc2 : w4.cell? ⟨w.heap.size, 2, none⟩ = some (.int .i64 d1) := (unhide K).2.c 2 (by simp)
  have mPc3 : w4.cell? ⟨w.heap.size, 3, none⟩ = some (.int .i64 h1) := (unhide K).2.c 3 (by simp)
  have mPc4 : w4.cell? ⟨w.heap.size, 4, none⟩ = some (.int .i64 c1) := (unhide K).2.c 4 (by simp)
  go_wp2_with fail
  clear mPc0 mPc1 mPc2 mPc3 mPc4
  refine (implCraftOk_any _ _ _ _ _ _  ).mono ?_
  rintro x w5 ⟨rfl, b⟩
  have S4 : Hid (w4.heap.size ≤ w5.heap.size) := hide b.size
  have K : Hid (Below w.heap.size w w5 ∧ Blk w5 w.heap.size [.int .i64 x1, .int .i64 y1, .int .i64 d1, .int .i64 h1, .int .i64 c1]) := hide ((unhide KEPT) _ _ (unhide K) b)
  clear b
  have mPc0 : w5.cell? ⟨w.heap.size, 0, none⟩ = some (.int .i64 x1) := (unhide K).2.c 0 (by simp)
  have mPc1 : w5.cell? ⟨w.heap.size, 1, none⟩ = some (.int .i64 y1) := (unhide K).2.c 1 (by simp)
  have mPc2 : w5.cell? ⟨w.heap.size, 2, none⟩ = some (.int .i64 d1) := (unhide K).2.c 2 (by simp)
  have mPc3 : w5.cell? ⟨w.heap.size, 3, none⟩ = some (.int .i64 h1) := (unhide K).2.c 3 (by simp)
  have mPc4 : w5.cell? ⟨w.heap.size, 4, none⟩ = some (.int .i64 c1) := (unhide K).2.c 4 (by simp)
  go_wp2_with fail
  clear mPc0 mPc1 mPc2 mPc3 mPc4
  go_ret
  exact ⟨rfl, (unhide K).1⟩
end Go.Proofs.Ytkpmoolggpojdau
