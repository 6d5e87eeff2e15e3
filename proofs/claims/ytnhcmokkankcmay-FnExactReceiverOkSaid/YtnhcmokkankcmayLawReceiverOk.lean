/-
  The law FnExactReceiverOk returns true at every argument and writes nothing that was there: the walk. No condition.
-/
import Derived.Test.YtnhcmokkankcmayToRv
import Derived.Test.YtnhcmokkankcmayBuAny
import Derived.Test.YtnhcmokkankcmayOnly
import Derived.Deep.RegionHeld3
namespace Go.Proofs.Ytnhcmokkankcmay
open Go.RowKit
set_option maxRecDepth 20000 in
set_option maxHeartbeats 8000000 in
theorem lawReceiverOk (rl rn rk : Int) (w : World)   :
    Calls Try.prog 6 #[.agg #[.int .i64 rl, .int .i64 rn, .int .i64 rk]] w fun x w' => x = .returned (.bool true) ∧ Below w.heap.size w w' := by
  have hq0 : (rvB rl rn rk != rvB rl rn rk) = false := by simp
  go_enter Try.func6, Try.ntmps6
  go_wp2_with fail
  obtain ⟨w1, hw1⟩ : ∃ W, W = (w.alloc (Obj.cells #[.int .i64 rl, .int .i64 rn, .int .i64 rk] 41)) := ⟨_, rfl⟩
  rw [← hw1]
  have K : Hid (Below w.heap.size w w1 ∧ Blk w1 w.heap.size [.int .i64 rl, .int .i64 rn, .int .i64 rk]) := hide ⟨(by rw [hw1]; exact bel1 _), (by rw [hw1]; exact Blk.new _ _)⟩
  have S0 : Hid (w.heap.size + 1 ≤ w1.heap.size) := hide (by rw [hw1]; simp; try omega)
  clear hw1
  have KEPT : Hid (∀ W u3, (Below w.heap.size w W ∧ Blk W w.heap.size [.int .i64 rl, .int .i64 rn, .int .i64 rk]) → Below W.heap.size W u3 → (Below w.heap.size w u3 ∧ Blk u3 w.heap.size [.int .i64 rl, .int .i64 rn, .int .i64 rk])) := hide (fun W u3 h b => ⟨h.1.trans (b.mono h.1.size), h.2.below b⟩)
  refine (toReceiver_any _ _ _ _).mono ?_
  rintro x w2 ⟨rfl, b⟩
  have S1 : Hid (w1.heap.size ≤ w2.heap.size) := hide b.size
  have K : Hid (Below w.heap.size w w2 ∧ Blk w2 w.heap.size [.int .i64 rl, .int .i64 rn, .int .i64 rk]) := hide ((unhide KEPT) _ _ (unhide K) b)
  clear b
  have mPd0 : w2.cell? ⟨w.heap.size, 0, none⟩ = some (.int .i64 rl) := (unhide K).2.c 0 (by simp)
  have mPd1 : w2.cell? ⟨w.heap.size, 1, none⟩ = some (.int .i64 rn) := (unhide K).2.c 1 (by simp)
  have mPd2 : w2.cell? ⟨w.heap.size, 2, none⟩ = some (.int .i64 rk) := (unhide K).2.c 2 (by simp)
  go_wp2_with fail
  clear mPd0 mPd1 mPd2
  refine (specReceiverOk_any _ _ _ _  ).mono ?_
  rintro x w3 ⟨rfl, b⟩
  have S2 : Hid (w2.heap.size ≤ w3.heap.size) := hide b.size
  have K : Hid (Below w.heap.size w w3 ∧ Blk w3 w.heap.size [.int .i64 rl, .int .i64 rn, .int .i64 rk]) := hide ((unhide KEPT) _ _ (unhide K) b)
  clear b
  have mPd0 : w3.cell? ⟨w.heap.size, 0, none⟩ = some (.int .i64 rl) := (unhide K).2.c 0 (by simp)
  have mPd1 : w3.cell? ⟨w.heap.size, 1, none⟩ = some (.int .i64 rn) := (unhide K).2.c 1 (by simp)
  have mPd2 : w3.cell? ⟨w.heap.size, 2, none⟩ = some (.int .i64 rk) := (unhide K).2.c 2 (by simp)
  go_wp2_with fail
  clear mPd0 mPd1 mPd2
  refine (toReceiver_any _ _ _ _).mono ?_
  rintro x w4 ⟨rfl, b⟩
  have S3 : Hid (w3.heap.size ≤ w4.heap.size) := hide b.size
  have K : Hid (Below w.heap.size w w4 ∧ Blk w4 w.heap.size [.int .i64 rl, .int .i64 rn, .int .i64 rk]) := hide ((unhide KEPT) _ _ (unhide K) b)
  clear b
  have mPd0 : w4.cell? ⟨w.heap.size, 0, none⟩ = some (.int .i64 rl) := (unhide K).2.c 0 (by simp)
  have mPd1 : w4.cell? ⟨w.heap.size, 1, none⟩ = some (.int .i64 rn) := (unhide K).2.c 1 (by simp)
  have mPd2 : w4.cell? ⟨w.heap.size, 2, none⟩ = some (.int .i64 rk) := (unhide K).2.c 2 (by simp)
  go_wp2_with fail
  clear mPd0 mPd1 mPd2
  refine (implReceiverOk_any _ _ _ _  ).mono ?_
  rintro x w5 ⟨rfl, b⟩
  have S4 : Hid (w4.heap.size ≤ w5.heap.size) := hide b.size
  have K : Hid (Below w.heap.size w w5 ∧ Blk w5 w.heap.size [.int .i64 rl, .int .i64 rn, .int .i64 rk]) := hide ((unhide KEPT) _ _ (unhide K) b)
  clear b
  have mPd0 : w5.cell? ⟨w.heap.size, 0, none⟩ = some (.int .i64 rl) := (unhide K).2.c 0 (by simp)
  have mPd1 : w5.cell? ⟨w.heap.size, 1, none⟩ = some (.int .i64 rn) := (unhide K).2.c 1 (by simp)
  have mPd2 : w5.cell? ⟨w.heap.size, 2, none⟩ = some (.int .i64 rk) := (unhide K).2.c 2 (by simp)
  go_wp2_with fail
  clear mPd0 mPd1 mPd2
  go_ret
  exact ⟨rfl, (unhide K).1⟩
end Go.Proofs.Ytnhcmokkankcmay
