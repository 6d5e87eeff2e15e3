/-
  The law FnExactMisfit returns true at every argument and writes nothing that was there: the walk. No condition.
-/
import Derived.Test.YtidgkkldhnckeatToPe
import Derived.Test.YtidgkkldhnckeatToFx
import Derived.Test.YtidgkkldhnckeatNavImpl
import Derived.Test.YtidgkkldhnckeatOnly
import Derived.Deep.RegionHeld3
namespace Go.Proofs.Ytidgkkldhnckeat
open Go.RowKit
set_option maxRecDepth 20000 in
set_option maxHeartbeats 8000000 in
theorem lawMisfit (px py : Int) (fx fy ff : Int) (w : World)   :
    Calls Try.prog 3 #[.agg #[.int .i64 px, .int .i64 py], .agg #[.int .i64 fx, .int .i64 fy, .int .i64 ff]] w fun x w' => x = .returned (.bool true) ∧ Below w.heap.size w w' := by
  have hq : (misR px py fx fy ff != misR px py fx fy ff) = false := by simp
  go_enter Try.func3, Try.ntmps3
  go_wp2_with fail
  obtain ⟨w1, hw1⟩ : ∃ W, W = ((w.alloc (Obj.cells #[.int .i64 px, .int .i64 py] 23)).alloc (Obj.cells #[.int .i64 fx, .int .i64 fy, .int .i64 ff] 25)) := ⟨_, rfl⟩
  rw [← hw1]
  have K : Hid (Below w.heap.size w w1 ∧ Blk w1 w.heap.size [.int .i64 px, .int .i64 py] ∧ Blk w1 (w.heap.size + 1) [.int .i64 fx, .int .i64 fy, .int .i64 ff]) := hide ⟨(by rw [hw1]; exact bel2 _ _), (by rw [hw1]; exact blkAt2_0), (by rw [hw1]; exact blkAt2_1)⟩
  have S0 : Hid (w.heap.size + 2 ≤ w1.heap.size) := hide (by rw [hw1]; simp; try omega)
  clear hw1
  have KEPT : Hid (∀ W u3, (Below w.heap.size w W ∧ Blk W w.heap.size [.int .i64 px, .int .i64 py] ∧ Blk W (w.heap.size + 1) [.int .i64 fx, .int .i64 fy, .int .i64 ff]) → Below W.heap.size W u3 → (Below w.heap.size w u3 ∧ Blk u3 w.heap.size [.int .i64 px, .int .i64 py] ∧ Blk u3 (w.heap.size + 1) [.int .i64 fx, .int .i64 fy, .int .i64 ff])) := hide (fun W u3 h b => ⟨h.1.trans (b.mono h.1.size), h.2.1.below b, h.2.2.below b⟩)
  have mPp0 : w1.cell? ⟨w.heap.size, 0, none⟩ = some (.int .i64 px) := (unhide K).2.1.c 0 (by simp)
  have mPp1 : w1.cell? ⟨w.heap.size, 1, none⟩ = some (.int .i64 py) := (unhide K).2.1.c 1 (by simp)
  have mPf0 : w1.cell? ⟨w.heap.size + 1, 0, none⟩ = some (.int .i64 fx) := (unhide K).2.2.c 0 (by simp)
  have mPf1 : w1.cell? ⟨w.heap.size + 1, 1, none⟩ = some (.int .i64 fy) := (unhide K).2.2.c 1 (by simp)
  have mPf2 : w1.cell? ⟨w.heap.size + 1, 2, none⟩ = some (.int .i64 ff) := (unhide K).2.2.c 2 (by simp)
  go_region_held3 (fun w' => w'.cell? ⟨w.heap.size, 0, none⟩ = some (.int .i64 px) ∧ w'.cell? ⟨w.heap.size, 1, none⟩ = some (.int .i64 py) ∧ w'.cell? ⟨w.heap.size + 1, 0, none⟩ = some (.int .i64 fx) ∧ w'.cell? ⟨w.heap.size + 1, 1, none⟩ = some (.int .i64 fy) ∧ w'.cell? ⟨w.heap.size + 1, 2, none⟩ = some (.int .i64 ff)) (go_keep)
    ((first
      | (go_at_call 10; refine (toPlace_any _ _ _).mono ?_; rintro x w2 ⟨rfl, b⟩; have b : Below w1.heap.size w1 w2 := (by first | exact b | exact (bel0d' 1).trans b); have S1 : Hid (w1.heap.size ≤ w2.heap.size) := hide b.size; have K : Hid (Below w.heap.size w w2 ∧ Blk w2 w.heap.size [.int .i64 px, .int .i64 py] ∧ Blk w2 (w.heap.size + 1) [.int .i64 fx, .int .i64 fy, .int .i64 ff]) := hide ((unhide KEPT) _ _ (unhide K) b); clear b; clear mPp0 mPp1 mPf0 mPf1 mPf2; have mPp0 : w2.cell? ⟨w.heap.size, 0, none⟩ = some (.int .i64 px) := (unhide K).2.1.c 0 (by simp); have mPp1 : w2.cell? ⟨w.heap.size, 1, none⟩ = some (.int .i64 py) := (unhide K).2.1.c 1 (by simp); have mPf0 : w2.cell? ⟨w.heap.size + 1, 0, none⟩ = some (.int .i64 fx) := (unhide K).2.2.c 0 (by simp); have mPf1 : w2.cell? ⟨w.heap.size + 1, 1, none⟩ = some (.int .i64 fy) := (unhide K).2.2.c 1 (by simp); have mPf2 : w2.cell? ⟨w.heap.size + 1, 2, none⟩ = some (.int .i64 ff) := (unhide K).2.2.c 2 (by simp))
      | (go_at_call 11; refine (toFix_any _ _ _ _).mono ?_; rintro x w3 ⟨rfl, b⟩; have S2 : Hid (w2.heap.size ≤ w3.heap.size) := hide b.size; have K : Hid (Below w.heap.size w w3 ∧ Blk w3 w.heap.size [.int .i64 px, .int .i64 py] ∧ Blk w3 (w.heap.size + 1) [.int .i64 fx, .int .i64 fy, .int .i64 ff]) := hide ((unhide KEPT) _ _ (unhide K) b); clear b; clear mPp0 mPp1 mPf0 mPf1 mPf2; have mPp0 : w3.cell? ⟨w.heap.size, 0, none⟩ = some (.int .i64 px) := (unhide K).2.1.c 0 (by simp); have mPp1 : w3.cell? ⟨w.heap.size, 1, none⟩ = some (.int .i64 py) := (unhide K).2.1.c 1 (by simp); have mPf0 : w3.cell? ⟨w.heap.size + 1, 0, none⟩ = some (.int .i64 fx) := (unhide K).2.2.c 0 (by simp); have mPf1 : w3.cell? ⟨w.heap.size + 1, 1, none⟩ = some (.int .i64 fy) := (unhide K).2.2.c 1 (by simp); have mPf2 : w3.cell? ⟨w.heap.size + 1, 2, none⟩ = some (.int .i64 ff) := (unhide K).2.2.c 2 (by simp))
      | (go_at_call 9; refine (specMisfit_any _ _ _ _ _ _  ).mono ?_; rintro x w4 ⟨rfl, b⟩; have S3 : Hid (w3.heap.size ≤ w4.heap.size) := hide b.size; have K : Hid (Below w.heap.size w w4 ∧ Blk w4 w.heap.size [.int .i64 px, .int .i64 py] ∧ Blk w4 (w.heap.size + 1) [.int .i64 fx, .int .i64 fy, .int .i64 ff]) := hide ((unhide KEPT) _ _ (unhide K) b); clear b; clear mPp0 mPp1 mPf0 mPf1 mPf2; have mPp0 : w4.cell? ⟨w.heap.size, 0, none⟩ = some (.int .i64 px) := (unhide K).2.1.c 0 (by simp); have mPp1 : w4.cell? ⟨w.heap.size, 1, none⟩ = some (.int .i64 py) := (unhide K).2.1.c 1 (by simp); have mPf0 : w4.cell? ⟨w.heap.size + 1, 0, none⟩ = some (.int .i64 fx) := (unhide K).2.2.c 0 (by simp); have mPf1 : w4.cell? ⟨w.heap.size + 1, 1, none⟩ = some (.int .i64 fy) := (unhide K).2.2.c 1 (by simp); have mPf2 : w4.cell? ⟨w.heap.size + 1, 2, none⟩ = some (.int .i64 ff) := (unhide K).2.2.c 2 (by simp))))
  clear mPp0 mPp1 mPf0 mPf1 mPf2
  have mPp0 : w4.cell? ⟨w.heap.size, 0, none⟩ = some (.int .i64 px) := (unhide K).2.1.c 0 (by simp)
  have mPp1 : w4.cell? ⟨w.heap.size, 1, none⟩ = some (.int .i64 py) := (unhide K).2.1.c 1 (by simp)
  have mPf0 : w4.cell? ⟨w.heap.size + 1, 0, none⟩ = some (.int .i64 fx) := (unhide K).2.2.c 0 (by simp)
  have mPf1 : w4.cell? ⟨w.heap.size + 1, 1, none⟩ = some (.int .i64 fy) := (unhide K).2.2.c 1 (by simp)
  have mPf2 : w4.cell? ⟨w.heap.size + 1, 2, none⟩ = some (.int .i64 ff) := (unhide K).2.2.c 2 (by simp)
  go_wp2_with fail
  clear mPp0 mPp1 mPf0 mPf1 mPf2
  have mPp0 : w4.cell? ⟨w.heap.size, 0, none⟩ = some (.int .i64 px) := (unhide K).2.1.c 0 (by simp)
  have mPp1 : w4.cell? ⟨w.heap.size, 1, none⟩ = some (.int .i64 py) := (unhide K).2.1.c 1 (by simp)
  have mPf0 : w4.cell? ⟨w.heap.size + 1, 0, none⟩ = some (.int .i64 fx) := (unhide K).2.2.c 0 (by simp)
  have mPf1 : w4.cell? ⟨w.heap.size + 1, 1, none⟩ = some (.int .i64 fy) := (unhide K).2.2.c 1 (by simp)
  have mPf2 : w4.cell? ⟨w.heap.size + 1, 2, none⟩ = some (.int .i64 ff) := (unhide K).2.2.c 2 (by simp)
  go_region_held3 (fun w' => w'.cell? ⟨w.heap.size, 0, none⟩ = some (.int .i64 px) ∧ w'.cell? ⟨w.heap.size, 1, none⟩ = some (.int .i64 py) ∧ w'.cell? ⟨w.heap.size + 1, 0, none⟩ = some (.int .i64 fx) ∧ w'.cell? ⟨w.heap.size + 1, 1, none⟩ = some (.int .i64 fy) ∧ w'.cell? ⟨w.heap.size + 1, 2, none⟩ = some (.int .i64 ff)) (go_keep)
    ((first
      | (go_at_call 10; refine (toPlace_any _ _ _).mono ?_; rintro x w5 ⟨rfl, b⟩; have b : Below w4.heap.size w4 w5 := (by first | exact b | exact (bel0d' 1).trans b); have S4 : Hid (w4.heap.size ≤ w5.heap.size) := hide b.size; have K : Hid (Below w.heap.size w w5 ∧ Blk w5 w.heap.size [.int .i64 px, .int .i64 py] ∧ Blk w5 (w.heap.size + 1) [.int .i64 fx, .int .i64 fy, .int .i64 ff]) := hide ((unhide KEPT) _ _ (unhide K) b); clear b; clear mPp0 mPp1 mPf0 mPf1 mPf2; have mPp0 : w5.cell? ⟨w.heap.size, 0, none⟩ = some (.int .i64 px) := (unhide K).2.1.c 0 (by simp); have mPp1 : w5.cell? ⟨w.heap.size, 1, none⟩ = some (.int .i64 py) := (unhide K).2.1.c 1 (by simp); have mPf0 : w5.cell? ⟨w.heap.size + 1, 0, none⟩ = some (.int .i64 fx) := (unhide K).2.2.c 0 (by simp); have mPf1 : w5.cell? ⟨w.heap.size + 1, 1, none⟩ = some (.int .i64 fy) := (unhide K).2.2.c 1 (by simp); have mPf2 : w5.cell? ⟨w.heap.size + 1, 2, none⟩ = some (.int .i64 ff) := (unhide K).2.2.c 2 (by simp))
      | (go_at_call 11; refine (toFix_any _ _ _ _).mono ?_; rintro x w6 ⟨rfl, b⟩; have S5 : Hid (w5.heap.size ≤ w6.heap.size) := hide b.size; have K : Hid (Below w.heap.size w w6 ∧ Blk w6 w.heap.size [.int .i64 px, .int .i64 py] ∧ Blk w6 (w.heap.size + 1) [.int .i64 fx, .int .i64 fy, .int .i64 ff]) := hide ((unhide KEPT) _ _ (unhide K) b); clear b; clear mPp0 mPp1 mPf0 mPf1 mPf2; have mPp0 : w6.cell? ⟨w.heap.size, 0, none⟩ = some (.int .i64 px) := (unhide K).2.1.c 0 (by simp); have mPp1 : w6.cell? ⟨w.heap.size, 1, none⟩ = some (.int .i64 py) := (unhide K).2.1.c 1 (by simp); have mPf0 : w6.cell? ⟨w.heap.size + 1, 0, none⟩ = some (.int .i64 fx) := (unhide K).2.2.c 0 (by simp); have mPf1 : w6.cell? ⟨w.heap.size + 1, 1, none⟩ = some (.int .i64 fy) := (unhide K).2.2.c 1 (by simp); have mPf2 : w6.cell? ⟨w.heap.size + 1, 2, none⟩ = some (.int .i64 ff) := (unhide K).2.2.c 2 (by simp))
      | (go_at_call 12; refine (implMisfit_any _ _ _ _ _ _  ).mono ?_; rintro x w7 ⟨rfl, b⟩; have S6 : Hid (w6.heap.size ≤ w7.heap.size) := hide b.size; have K : Hid (Below w.heap.size w w7 ∧ Blk w7 w.heap.size [.int .i64 px, .int .i64 py] ∧ Blk w7 (w.heap.size + 1) [.int .i64 fx, .int .i64 fy, .int .i64 ff]) := hide ((unhide KEPT) _ _ (unhide K) b); clear b; clear mPp0 mPp1 mPf0 mPf1 mPf2; have mPp0 : w7.cell? ⟨w.heap.size, 0, none⟩ = some (.int .i64 px) := (unhide K).2.1.c 0 (by simp); have mPp1 : w7.cell? ⟨w.heap.size, 1, none⟩ = some (.int .i64 py) := (unhide K).2.1.c 1 (by simp); have mPf0 : w7.cell? ⟨w.heap.size + 1, 0, none⟩ = some (.int .i64 fx) := (unhide K).2.2.c 0 (by simp); have mPf1 : w7.cell? ⟨w.heap.size + 1, 1, none⟩ = some (.int .i64 fy) := (unhide K).2.2.c 1 (by simp); have mPf2 : w7.cell? ⟨w.heap.size + 1, 2, none⟩ = some (.int .i64 ff) := (unhide K).2.2.c 2 (by simp))))
  clear mPp0 mPp1 mPf0 mPf1 mPf2
  have mPp0 : w7.cell? ⟨w.heap.size, 0, none⟩ = some (.int .i64 px) := (unhide K).2.1.c 0 (by simp)
  have mPp1 : w7.cell? ⟨w.heap.size, 1, none⟩ = some (.int .i64 py) := (unhide K).2.1.c 1 (by simp)
  have mPf0 : w7.cell? ⟨w.heap.size + 1, 0, none⟩ = some (.int .i64 fx) := (unhide K).2.2.c 0 (by simp)
  have mPf1 : w7.cell? ⟨w.heap.size + 1, 1, none⟩ = some (.int .i64 fy) := (unhide K).2.2.c 1 (by simp)
  have mPf2 : w7.cell? ⟨w.heap.size + 1, 2, none⟩ = some (.int .i64 ff) := (unhide K).2.2.c 2 (by simp)
  go_wp2_with fail
  clear mPp0 mPp1 mPf0 mPf1 mPf2
  go_ret
  exact ⟨rfl, (unhide K).1⟩
end Go.Proofs.Ytidgkkldhnckeat
