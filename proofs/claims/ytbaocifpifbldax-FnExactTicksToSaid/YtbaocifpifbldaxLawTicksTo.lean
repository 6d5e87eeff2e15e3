/-
  The law FnExactTicksTo returns true at every argument and writes nothing that was there: the walk. No condition.
-/
import Derived.Test.YtbaocifpifbldaxToTc
import Derived.Test.YtbaocifpifbldaxTaAny
import Derived.Test.YtbaocifpifbldaxOnly
import Derived.Deep.RegionHeld3
namespace Go.Proofs.Ytbaocifpifbldax
open Go.RowKit
set_option maxRecDepth 20000 in
set_option maxHeartbeats 8000000 in
theorem lawTicksTo (ti th tc tf tk ts : Int) (w : World)   :
    Calls Try.prog 3 #[.agg #[.int .i64 ti, .int .i64 th, .int .i64 tc, .int .i64 tf, .int .i64 tk, .int .i64 ts]] w fun x w' => x = .returned (.bool true) ∧ Below w.heap.size w w' := by
  have hq : (tiN ti th tc tf tk ts != tiN ti th tc tf tk ts) = false := by simp
  have hq2 : (tiB ti th tc tf tk ts != tiB ti th tc tf tk ts) = false := by simp
  go_enter Try.func3, Try.ntmps3
  go_wp2_with fail
  obtain ⟨w1, hw1⟩ : ∃ W, W = (w.alloc (Obj.cells #[.int .i64 ti, .int .i64 th, .int .i64 tc, .int .i64 tf, .int .i64 tk, .int .i64 ts] 23)) := ⟨_, rfl⟩
  rw [← hw1]
  have K : Hid (Below w.heap.size w w1 ∧ Blk w1 w.heap.size [.int .i64 ti, .int .i64 th, .int .i64 tc, .int .i64 tf, .int .i64 tk, .int .i64 ts]) := hide ⟨(by rw [hw1]; exact bel1 _), (by rw [hw1]; exact Blk.new _ _)⟩
  have S0 : Hid (w.heap.size + 1 ≤ w1.heap.size) := hide (by rw [hw1]; simp; try omega)
  clear hw1
  have KEPT : Hid (∀ W u3, (Below w.heap.size w W ∧ Blk W w.heap.size [.int .i64 ti, .int .i64 th, .int .i64 tc, .int .i64 tf, .int .i64 tk, .int .i64 ts]) → Below W.heap.size W u3 → (Below w.heap.size w u3 ∧ Blk u3 w.heap.size [.int .i64 ti, .int .i64 th, .int .i64 tc, .int .i64 tf, .int .i64 tk, .int .i64 ts])) := hide (fun W u3 h b => ⟨h.1.trans (b.mono h.1.size), h.2.below b⟩)
  refine (toTrack_any _ _ _ _ _ _ _).mono ?_
  rintro x w2 ⟨rfl, b⟩
  have S1 : Hid (w1.heap.size ≤ w2.heap.size) := hide b.size
  have K : Hid (Below w.heap.size w w2 ∧ Blk w2 w.heap.size [.int .i64 ti, .int .i64 th, .int .i64 tc, .int .i64 tf, .int .i64 tk, .int .i64 ts]) := hide ((unhide KEPT) _ _ (unhide K) b)
  clear b
  have mPt0 : w2.cell? ⟨w.heap.size, 0, none⟩ = some (.int .i64 ti) := (unhide K).2.c 0 (by simp)
  have mPt1 : w2.cell? ⟨w.heap.size, 1, none⟩ = some (.int .i64 th) := (unhide K).2.c 1 (by simp)
  have mPt2 : w2.cell? ⟨w.heap.size, 2, none⟩ = some (.int .i64 tc) := (unhide K).2.c 2 (by simp)
  have mPt3 : w2.cell? ⟨w.heap.size, 3, none⟩ = some (.int .i64 tf) := (unhide K).2.c 3 (by simp)
  have mPt4 : w2.cell? ⟨w.heap.size, 4, none⟩ = some (.int .i64 tk) := (unhide K).2.c 4 (by simp)
  have mPt5 : w2.cell? ⟨w.heap.size, 5, none⟩ = some (.int .i64 ts) := (unhide K).2.c 5 (by simp)
  go_wp2_with fail
  clear mPt0 mPt1 mPt2 mPt3 mPt4 mPt5
  refine (specTicksTo_any _ _ _ _ _ _ _  ).mono ?_
  rintro x w3 ⟨rfl, b⟩
  have S2 : Hid (w2.heap.size ≤ w3.heap.size) := hide b.size
  have K : Hid (Below w.heap.size w w3 ∧ Blk w3 w.heap.size [.int .i64 ti, .int .i64 th, .int .i64 tc, .int .i64 tf, .int .i64 tk, .int .i64 ts]) := hide ((unhide KEPT) _ _ (unhide K) b)
  clear b
  have mPt0 : w3.cell? ⟨w.heap.size, 0, none⟩ = some (.int .i64 ti) := (unhide K).2.c 0 (by simp)
  have mPt1 : w3.cell? ⟨w.heap.size, 1, none⟩ = some (.int .i64 th) := (unhide K).2.c 1 (by simp)
  have mPt2 : w3.cell? ⟨w.heap.size, 2, none⟩ = some (.int .i64 tc) := (unhide K).2.c 2 (by simp)
  have mPt3 : w3.cell? ⟨w.heap.size, 3, none⟩ = some (.int .i64 tf) := (unhide K).2.c 3 (by simp)
  have mPt4 : w3.cell? ⟨w.heap.size, 4, none⟩ = some (.int .i64 tk) := (unhide K).2.c 4 (by simp)
  have mPt5 : w3.cell? ⟨w.heap.size, 5, none⟩ = some (.int .i64 ts) := (unhide K).2.c 5 (by simp)
  go_wp2_with fail
  clear mPt0 mPt1 mPt2 mPt3 mPt4 mPt5
  refine (toTrack_any _ _ _ _ _ _ _).mono ?_
  rintro x w4 ⟨rfl, b⟩
  have S3 : Hid (w3.heap.size ≤ w4.heap.size) := hide b.size
  have K : Hid (Below w.heap.size w w4 ∧ Blk w4 w.heap.size [.int .i64 ti, .int .i64 th, .int .i64 tc, .int .i64 tf, .int .i64 tk, .int .i64 ts]) := hide ((unhide KEPT) _ _ (unhide K) b)
  clear b
  have mPt0 : w4.cell? ⟨w.heap.size, 0, none⟩ = some (.int .i64 ti) := (unhide K).2.c 0 (by simp)
  have mPt1 : w4.cell? ⟨w.heap.size, 1, none⟩ = some (.int .i64 th) := (unhide K).2.c 1 (by simp)
  have mPt2 : w4.cell? ⟨w.heap.size, 2, none⟩ = some (.int .i64 tc) := (unhide K).2.c 2 (by simp)
  have mPt3 : w4.cell? ⟨w.heap.size, 3, none⟩ = some (.int .i64 tf) := (unhide K).2.c 3 (by simp)
  have mPt4 : w4.cell? ⟨w.heap.size, 4, none⟩ = some (.int .i64 tk) := (unhide K).2.c 4 (by simp)
  have mPt5 : w4.cell? ⟨w.heap.size, 5, none⟩ = some (.int .i64 ts) := (unhide K).2.c 5 (by simp)
  go_wp2_with fail
  clear mPt0 mPt1 mPt2 mPt3 mPt4 mPt5
  refine (implTicksTo_any _ _ _ _ _ _ _  ).mono ?_
  rintro x w5 ⟨rfl, b⟩
  have S4 : Hid (w4.heap.size ≤ w5.heap.size) := hide b.size
  have K : Hid (Below w.heap.size w w5 ∧ Blk w5 w.heap.size [.int .i64 ti, .int .i64 th, .int .i64 tc, .int .i64 tf, .int .i64 tk, .int .i64 ts]) := hide ((unhide KEPT) _ _ (unhide K) b)
  clear b
  have mPt0 : w5.cell? ⟨w.heap.size, 0, none⟩ = some (.int .i64 ti) := (unhide K).2.c 0 (by simp)
  have mPt1 : w5.cell? ⟨w.heap.size, 1, none⟩ = some (.int .i64 th) := (unhide K).2.c 1 (by simp)
  have mPt2 : w5.cell? ⟨w.heap.size, 2, none⟩ = some (.int .i64 tc) := (unhide K).2.c 2 (by simp)
  have mPt3 : w5.cell? ⟨w.heap.size, 3, none⟩ = some (.int .i64 tf) := (unhide K).2.c 3 (by simp)
  have mPt4 : w5.cell? ⟨w.heap.size, 4, none⟩ = some (.int .i64 tk) := (unhide K).2.c 4 (by simp)
  have mPt5 : w5.cell? ⟨w.heap.size, 5, none⟩ = some (.int .i64 ts) := (unhide K).2.c 5 (by simp)
  go_wp2_with fail
  clear mPt0 mPt1 mPt2 mPt3 mPt4 mPt5
  go_ret
  exact ⟨rfl, (unhide K).1⟩
end Go.Proofs.Ytbaocifpifbldax
