/-
  The law FnExactClockOk returns true at every argument and writes nothing that was there: the walk. No condition.
-/
import Derived.Test.YtilahgifaglekbbCkSpec
import Derived.Test.YtilahgifaglekbbCkImpl
import Derived.Test.YtilahgifaglekbbCkAny
import Derived.Test.YtilahgifaglekbbToCk
import Derived.Test.YtilahgifaglekbbOnly
import Derived.Deep.RegionHeld3
namespace Go.Proofs.Ytilahgifaglekbb
open Go.RowKit
set_option maxRecDepth 20000 in
set_option maxHeartbeats 8000000 in
theorem lawClockOk (ho cy dy : Int) (w : World)   :
    Calls Try.prog 3 #[.agg #[.int .i64 ho, .int .i64 cy, .int .i64 dy]] w fun x w' => x = .returned (.bool true) ∧ Below w.heap.size w w' := by
  have hq : (ckB ho cy dy != ckB ho cy dy) = false := by simp
  go_enter Try.func3, Try.ntmps3
  go_wp2_with fail
  obtain ⟨w1, hw1⟩ : ∃ W, W = (w.alloc (Obj.cells #[.int .i64 ho, .int .i64 cy, .int .i64 dy] 23)) := ⟨_, rfl⟩
  rw [← hw1]
  have K : Hid (Below w.heap.size w w1 ∧ Blk w1 w.heap.size [.int .i64 ho, .int .i64 cy, .int .i64 dy]) := hide ⟨(by rw [hw1]; exact bel1 _), (by rw [hw1]; exact Blk.new _ _)⟩
  have S0 : Hid (w.heap.size + 1 ≤ w1.heap.size) := hide (by rw [hw1]; simp; try omega)
  clear hw1
  have KEPT : Hid (∀ W u3, (Below w.heap.size w W ∧ Blk W w.heap.size [.int .i64 ho, .int .i64 cy, .int .i64 dy]) → Below W.heap.size W u3 → (Below w.heap.size w u3 ∧ Blk u3 w.heap.size [.int .i64 ho, .int .i64 cy, .int .i64 dy])) := hide (fun W u3 h b => ⟨h.1.trans (b.mono h.1.size), h.2.below b⟩)
  refine (toClock_any _ _ _ _).mono ?_
  rintro x w2 ⟨rfl, b⟩
  have S1 : Hid (w1.heap.size ≤ w2.heap.size) := hide b.size
  have K : Hid (Below w.heap.size w w2 ∧ Blk w2 w.heap.size [.int .i64 ho, .int .i64 cy, .int .i64 dy]) := hide ((unhide KEPT) _ _ (unhide K) b)
  clear b
  have mPv0 : w2.cell? ⟨w.heap.size, 0, none⟩ = some (.int .i64 ho) := (unhide K).2.c 0 (by simp)
  have mPv1 : w2.cell? ⟨w.heap.size, 1, none⟩ = some (.int .i64 cy) := (unhide K).2.c 1 (by simp)
  have mPv2 : w2.cell? ⟨w.heap.size, 2, none⟩ = some (.int .i64 dy) := (unhide K).2.c 2 (by simp)
  go_wp2_with fail
  clear mPv0 mPv1 mPv2
  refine (specClockOk_any _ _ _ _  ).mono ?_
  rintro x w3 ⟨rfl, b⟩
  have S2 : Hid (w2.heap.size ≤ w3.heap.size) := hide b.size
  have K : Hid (Below w.heap.size w w3 ∧ Blk w3 w.heap.size [.int .i64 ho, .int .i64 cy, .int .i64 dy]) := hide ((unhide KEPT) _ _ (unhide K) b)
  clear b
  have mPv0 : w3.cell? ⟨w.heap.size, 0, none⟩ = some (.int .i64 ho) := (unhide K).2.c 0 (by simp)
  have mPv1 : w3.cell? ⟨w.heap.size, 1, none⟩ = some (.int .i64 cy) := (unhide K).2.c 1 (by simp)
  have mPv2 : w3.cell? ⟨w.heap.size, 2, none⟩ = some (.int .i64 dy) := (unhide K).2.c 2 (by simp)
  go_wp2_with fail
  clear mPv0 mPv1 mPv2
  refine (toClock_any _ _ _ _).mono ?_
  rintro x w4 ⟨rfl, b⟩
  have S3 : Hid (w3.heap.size ≤ w4.heap.size) := hide b.size
  have K : Hid (Below w.heap.size w w4 ∧ Blk w4 w.heap.size [.int .i64 ho, .int .i64 cy, .int .i64 dy]) := hide ((unhide KEPT) _ _ (unhide K) b)
  clear b
  have mPv0 : w4.cell? ⟨w.heap.size, 0, none⟩ = some (.int .i64 ho) := (unhide K).2.c 0 (by simp)
  have mPv1 : w4.cell? ⟨w.heap.size, 1, none⟩ = some (.int .i64 cy) := (unhide K).2.c 1 (by simp)
  have mPv2 : w4.cell? ⟨w.heap.size, 2, none⟩ = some (.int .i64 dy) := (unhide K).2.c 2 (by simp)
  go_wp2_with fail
  clear mPv0 mPv1 mPv2
  refine (implClockOk_any _ _ _ _  ).mono ?_
  rintro x w5 ⟨rfl, b⟩
  have S4 : Hid (w4.heap.size ≤ w5.heap.size) := hide b.size
  have K : Hid (Below w.heap.size w w5 ∧ Blk w5 w.heap.size [.int .i64 ho, .int .i64 cy, .int .i64 dy]) := hide ((unhide KEPT) _ _ (unhide K) b)
  clear b
  have mPv0 : w5.cell? ⟨w.heap.size, 0, none⟩ = some (.int .i64 ho) := (unhide K).2.c 0 (by simp)
  have mPv1 : w5.cell? ⟨w.heap.size, 1, none⟩ = some (.int .i64 cy) := (unhide K).2.c 1 (by simp)
  have mPv2 : w5.cell? ⟨w.heap.size, 2, none⟩ = some (.int .i64 dy) := (unhide K).2.c 2 (by simp)
  go_wp2_with fail
  clear mPv0 mPv1 mPv2
  go_ret
  exact ⟨rfl, (unhide K).1⟩
end Go.Proofs.Ytilahgifaglekbb
