/-
  The law FnExactPair returns true at every argument and writes nothing that was there: the walk. No condition.
-/
import Derived.Test.YtbaocifpifbldaxToAv
import Derived.Test.YtbaocifpifbldaxTaPan
import Derived.Test.YtbaocifpifbldaxOnly
import Derived.Deep.RegionHeld3
namespace Go.Proofs.Ytbaocifpifbldax
open Go.RowKit
set_option maxRecDepth 20000 in
set_option maxHeartbeats 8000000 in
theorem lawPair (ai ah ac as_ : Int) (bi bh bc bs : Int) (far : Int) (cl : Int) (near : Int) (wi : Int) (w : World)   :
    Calls Try.prog 6 #[.agg #[.int .i64 ai, .int .i64 ah, .int .i64 ac, .int .i64 as_], .agg #[.int .i64 bi, .int .i64 bh, .int .i64 bc, .int .i64 bs], .int .i64 far, .int .i64 cl, .int .i64 near, .int .i64 wi] w fun x w' => x = .returned (.bool true) ∧ Below w.heap.size w w' := by
  have hq : (pr1 ai ah ac as_ bi bh bc bs far cl near wi != pr1 ai ah ac as_ bi bh bc bs far cl near wi) = false := by simp
  have hq2 : (pr2 ai ah ac as_ bi bh bc bs far cl near wi != pr2 ai ah ac as_ bi bh bc bs far cl near wi) = false := by simp
  have hq3 : (prB15 ai ah ac as_ bi bh bc bs far cl near wi != prB15 ai ah ac as_ bi bh bc bs far cl near wi) = false := by simp
  go_enter Try.func6, Try.ntmps6
  go_wp2_with fail
  obtain ⟨w1, hw1⟩ : ∃ W, W = ((w.alloc (Obj.cells #[.int .i64 ai, .int .i64 ah, .int .i64 ac, .int .i64 as_] 30)).alloc (Obj.cells #[.int .i64 bi, .int .i64 bh, .int .i64 bc, .int .i64 bs] 30)) := ⟨_, rfl⟩
  rw [← hw1]
  have K : Hid (Below w.heap.size w w1 ∧ Blk w1 w.heap.size [.int .i64 ai, .int .i64 ah, .int .i64 ac, .int .i64 as_] ∧ Blk w1 (w.heap.size + 1) [.int .i64 bi, .int .i64 bh, .int .i64 bc, .int .i64 bs]) := hide ⟨(by rw [hw1]; exact bel2 _ _), (by rw [hw1]; exact blkAt2_0), (by rw [hw1]; exact blkAt2_1)⟩
  have S0 : Hid (w.heap.size + 2 ≤ w1.heap.size) := hide (by rw [hw1]; simp; try omega)
  clear hw1
  have KEPT : Hid (∀ W u3, (Below w.heap.size w W ∧ Blk W w.heap.size [.int .i64 ai, .int .i64 ah, .int .i64 ac, .int .i64 as_] ∧ Blk W (w.heap.size + 1) [.int .i64 bi, .int .i64 bh, .int .i64 bc, .int .i64 bs]) → Below W.heap.size W u3 → (Below w.heap.size w u3 ∧ Blk u3 w.heap.size [.int .i64 ai, .int .i64 ah, .int .i64 ac, .int .i64 as_] ∧ Blk u3 (w.heap.size + 1) [.int .i64 bi, .int .i64 bh, .int .i64 bc, .int .i64 bs])) := hide (fun W u3 h b => ⟨h.1.trans (b.mono h.1.size), h.2.1.below b, h.2.2.below b⟩)
  have mPa0 : w1.cell? ⟨w.heap.size, 0, none⟩ = some (.int .i64 ai) := (unhide K).2.1.c 0 (by simp)
  have mPa1 : w1.cell? ⟨w.heap.size, 1, none⟩ = some (.int .i64 ah) := (unhide K).2.1.c 1 (by simp)
  have mPa2 : w1.cell? ⟨w.heap.size, 2, none⟩ = some (.int .i64 ac) := (unhide K).2.1.c 2 (by simp)
  have mPa3 : w1.cell? ⟨w.heap.size, 3, none⟩ = some (.int .i64 as_) := (unhide K).2.1.c 3 (by simp)
  have mPc0 : w1.cell? ⟨w.heap.size + 1, 0, none⟩ = some (.int .i64 bi) := (unhide K).2.2.c 0 (by simp)
  have mPc1 : w1.cell? ⟨w.heap.size + 1, 1, none⟩ = some (.int .i64 bh) := (unhide K).2.2.c 1 (by simp)
  have mPc2 : w1.cell? ⟨w.heap.size + 1, 2, none⟩ = some (.int .i64 bc) := (unhide K).2.2.c 2 (by simp)
  have mPc3 : w1.cell? ⟨w.heap.size + 1, 3, none⟩ = some (.int .i64 bs) := (unhide K).2.2.c 3 (by simp)
  go_region_held3 (fun w' => w'.cell? ⟨w.heap.size, 0, none⟩ = some (.int .i64 ai) ∧ w'.cell? ⟨w.heap.size, 1, none⟩ = some (.int .i64 ah) ∧ w'.cell? ⟨w.heap.size, 2, none⟩ = some (.int .i64 ac) ∧ w'.cell? ⟨w.heap.size, 3, none⟩ = some (.int .i64 as_) ∧ w'.cell? ⟨w.heap.size + 1, 0, none⟩ = some (.int .i64 bi) ∧ w'.cell? ⟨w.heap.size + 1, 1, none⟩ = some (.int .i64 bh) ∧ w'.cell? ⟨w.heap.size + 1, 2, none⟩ = some (.int .i64 bc) ∧ w'.cell? ⟨w.heap.size + 1, 3, none⟩ = some (.int .i64 bs)) (go_keep)
    ((first
      | (go_at_call 13; refine (toOwn_any _ _ _ _ _).mono ?_; rintro x w2 ⟨rfl, b⟩; have b : Below w1.heap.size w1 w2 := (by first | exact b | exact (bel0d' 1).trans b); have S1 : Hid (w1.heap.size ≤ w2.heap.size) := hide b.size; have K : Hid (Below w.heap.size w w2 ∧ Blk w2 w.heap.size [.int .i64 ai, .int .i64 ah, .int .i64 ac, .int .i64 as_] ∧ Blk w2 (w.heap.size + 1) [.int .i64 bi, .int .i64 bh, .int .i64 bc, .int .i64 bs]) := hide ((unhide KEPT) _ _ (unhide K) b); clear b; clear mPa0 mPa1 mPa2 mPa3 mPc0 mPc1 mPc2 mPc3; have mPa0 : w2.cell? ⟨w.heap.size, 0, none⟩ = some (.int .i64 ai) := (unhide K).2.1.c 0 (by simp); have mPa1 : w2.cell? ⟨w.heap.size, 1, none⟩ = some (.int .i64 ah) := (unhide K).2.1.c 1 (by simp); have mPa2 : w2.cell? ⟨w.heap.size, 2, none⟩ = some (.int .i64 ac) := (unhide K).2.1.c 2 (by simp); have mPa3 : w2.cell? ⟨w.heap.size, 3, none⟩ = some (.int .i64 as_) := (unhide K).2.1.c 3 (by simp); have mPc0 : w2.cell? ⟨w.heap.size + 1, 0, none⟩ = some (.int .i64 bi) := (unhide K).2.2.c 0 (by simp); have mPc1 : w2.cell? ⟨w.heap.size + 1, 1, none⟩ = some (.int .i64 bh) := (unhide K).2.2.c 1 (by simp); have mPc2 : w2.cell? ⟨w.heap.size + 1, 2, none⟩ = some (.int .i64 bc) := (unhide K).2.2.c 2 (by simp); have mPc3 : w2.cell? ⟨w.heap.size + 1, 3, none⟩ = some (.int .i64 bs) := (unhide K).2.2.c 3 (by simp))
      | (go_at_call 13; refine (toOwn_any _ _ _ _ _).mono ?_; rintro x w3 ⟨rfl, b⟩; have S2 : Hid (w2.heap.size ≤ w3.heap.size) := hide b.size; have K : Hid (Below w.heap.size w w3 ∧ Blk w3 w.heap.size [.int .i64 ai, .int .i64 ah, .int .i64 ac, .int .i64 as_] ∧ Blk w3 (w.heap.size + 1) [.int .i64 bi, .int .i64 bh, .int .i64 bc, .int .i64 bs]) := hide ((unhide KEPT) _ _ (unhide K) b); clear b; clear mPa0 mPa1 mPa2 mPa3 mPc0 mPc1 mPc2 mPc3; have mPa0 : w3.cell? ⟨w.heap.size, 0, none⟩ = some (.int .i64 ai) := (unhide K).2.1.c 0 (by simp); have mPa1 : w3.cell? ⟨w.heap.size, 1, none⟩ = some (.int .i64 ah) := (unhide K).2.1.c 1 (by simp); have mPa2 : w3.cell? ⟨w.heap.size, 2, none⟩ = some (.int .i64 ac) := (unhide K).2.1.c 2 (by simp); have mPa3 : w3.cell? ⟨w.heap.size, 3, none⟩ = some (.int .i64 as_) := (unhide K).2.1.c 3 (by simp); have mPc0 : w3.cell? ⟨w.heap.size + 1, 0, none⟩ = some (.int .i64 bi) := (unhide K).2.2.c 0 (by simp); have mPc1 : w3.cell? ⟨w.heap.size + 1, 1, none⟩ = some (.int .i64 bh) := (unhide K).2.2.c 1 (by simp); have mPc2 : w3.cell? ⟨w.heap.size + 1, 2, none⟩ = some (.int .i64 bc) := (unhide K).2.2.c 2 (by simp); have mPc3 : w3.cell? ⟨w.heap.size + 1, 3, none⟩ = some (.int .i64 bs) := (unhide K).2.2.c 3 (by simp))
      | (go_at_call 17; refine (specPair_any _ _ _ _ _ _ _ _ _ _ _ _ _  ).mono ?_; rintro x w4 ⟨rfl, b⟩; have S3 : Hid (w3.heap.size ≤ w4.heap.size) := hide b.size; have K : Hid (Below w.heap.size w w4 ∧ Blk w4 w.heap.size [.int .i64 ai, .int .i64 ah, .int .i64 ac, .int .i64 as_] ∧ Blk w4 (w.heap.size + 1) [.int .i64 bi, .int .i64 bh, .int .i64 bc, .int .i64 bs]) := hide ((unhide KEPT) _ _ (unhide K) b); clear b; clear mPa0 mPa1 mPa2 mPa3 mPc0 mPc1 mPc2 mPc3; have mPa0 : w4.cell? ⟨w.heap.size, 0, none⟩ = some (.int .i64 ai) := (unhide K).2.1.c 0 (by simp); have mPa1 : w4.cell? ⟨w.heap.size, 1, none⟩ = some (.int .i64 ah) := (unhide K).2.1.c 1 (by simp); have mPa2 : w4.cell? ⟨w.heap.size, 2, none⟩ = some (.int .i64 ac) := (unhide K).2.1.c 2 (by simp); have mPa3 : w4.cell? ⟨w.heap.size, 3, none⟩ = some (.int .i64 as_) := (unhide K).2.1.c 3 (by simp); have mPc0 : w4.cell? ⟨w.heap.size + 1, 0, none⟩ = some (.int .i64 bi) := (unhide K).2.2.c 0 (by simp); have mPc1 : w4.cell? ⟨w.heap.size + 1, 1, none⟩ = some (.int .i64 bh) := (unhide K).2.2.c 1 (by simp); have mPc2 : w4.cell? ⟨w.heap.size + 1, 2, none⟩ = some (.int .i64 bc) := (unhide K).2.2.c 2 (by simp); have mPc3 : w4.cell? ⟨w.heap.size + 1, 3, none⟩ = some (.int .i64 bs) := (unhide K).2.2.c 3 (by simp))))
  clear mPa0 mPa1 mPa2 mPa3 mPc0 mPc1 mPc2 mPc3
  have mPa0 : w4.cell? ⟨w.heap.size, 0, none⟩ = some (.int .i64 ai) := (unhide K).2.1.c 0 (by simp)
  have mPa1 : w4.cell? ⟨w.heap.size, 1, none⟩ = some (.int .i64 ah) := (unhide K).2.1.c 1 (by simp)
  have mPa2 : w4.cell? ⟨w.heap.size, 2, none⟩ = some (.int .i64 ac) := (unhide K).2.1.c 2 (by simp)
  have mPa3 : w4.cell? ⟨w.heap.size, 3, none⟩ = some (.int .i64 as_) := (unhide K).2.1.c 3 (by simp)
  have mPc0 : w4.cell? ⟨w.heap.size + 1, 0, none⟩ = some (.int .i64 bi) := (unhide K).2.2.c 0 (by simp)
  have mPc1 : w4.cell? ⟨w.heap.size + 1, 1, none⟩ = some (.int .i64 bh) := (unhide K).2.2.c 1 (by simp)
  have mPc2 : w4.cell? ⟨w.heap.size + 1, 2, none⟩ = some (.int .i64 bc) := (unhide K).2.2.c 2 (by simp)
  have mPc3 : w4.cell? ⟨w.heap.size + 1, 3, none⟩ = some (.int .i64 bs) := (unhide K).2.2.c 3 (by simp)
  go_wp2_with fail
  clear mPa0 mPa1 mPa2 mPa3 mPc0 mPc1 mPc2 mPc3
  have mPa0 : w4.cell? ⟨w.heap.size, 0, none⟩ = some (.int .i64 ai) := (unhide K).2.1.c 0 (by simp)
  have mPa1 : w4.cell? ⟨w.heap.size, 1, none⟩ = some (.int .i64 ah) := (unhide K).2.1.c 1 (by simp)
  have mPa2 : w4.cell? ⟨w.heap.size, 2, none⟩ = some (.int .i64 ac) := (unhide K).2.1.c 2 (by simp)
  have mPa3 : w4.cell? ⟨w.heap.size, 3, none⟩ = some (.int .i64 as_) := (unhide K).2.1.c 3 (by simp)
  have mPc0 : w4.cell? ⟨w.heap.size + 1, 0, none⟩ = some (.int .i64 bi) := (unhide K).2.2.c 0 (by simp)
  have mPc1 : w4.cell? ⟨w.heap.size + 1, 1, none⟩ = some (.int .i64 bh) := (unhide K).2.2.c 1 (by simp)
  have mPc2 : w4.cell? ⟨w.heap.size + 1, 2, none⟩ = some (.int .i64 bc) := (unhide K).2.2.c 2 (by simp)
  have mPc3 : w4.cell? ⟨w.heap.size + 1, 3, none⟩ = some (.int .i64 bs) := (unhide K).2.2.c 3 (by simp)
  go_region_held3 (fun w' => w'.cell? ⟨w.heap.size, 0, none⟩ = some (.int .i64 ai) ∧ w'.cell? ⟨w.heap.size, 1, none⟩ = some (.int .i64 ah) ∧ w'.cell? ⟨w.heap.size, 2, none⟩ = some (.int .i64 ac) ∧ w'.cell? ⟨w.heap.size, 3, none⟩ = some (.int .i64 as_) ∧ w'.cell? ⟨w.heap.size + 1, 0, none⟩ = some (.int .i64 bi) ∧ w'.cell? ⟨w.heap.size + 1, 1, none⟩ = some (.int .i64 bh) ∧ w'.cell? ⟨w.heap.size + 1, 2, none⟩ = some (.int .i64 bc) ∧ w'.cell? ⟨w.heap.size + 1, 3, none⟩ = some (.int .i64 bs)) (go_keep)
    ((first
      | (go_at_call 13; refine (toOwn_any _ _ _ _ _).mono ?_; rintro x w5 ⟨rfl, b⟩; have b : Below w4.heap.size w4 w5 := (by first | exact b | exact (bel0d' 1).trans b); have S4 : Hid (w4.heap.size ≤ w5.heap.size) := hide b.size; have K : Hid (Below w.heap.size w w5 ∧ Blk w5 w.heap.size [.int .i64 ai, .int .i64 ah, .int .i64 ac, .int .i64 as_] ∧ Blk w5 (w.heap.size + 1) [.int .i64 bi, .int .i64 bh, .int .i64 bc, .int .i64 bs]) := hide ((unhide KEPT) _ _ (unhide K) b); clear b; clear mPa0 mPa1 mPa2 mPa3 mPc0 mPc1 mPc2 mPc3; have mPa0 : w5.cell? ⟨w.heap.size, 0, none⟩ = some (.int .i64 ai) := (unhide K).2.1.c 0 (by simp); have mPa1 : w5.cell? ⟨w.heap.size, 1, none⟩ = some (.int .i64 ah) := (unhide K).2.1.c 1 (by simp); have mPa2 : w5.cell? ⟨w.heap.size, 2, none⟩ = some (.int .i64 ac) := (unhide K).2.1.c 2 (by simp); have mPa3 : w5.cell? ⟨w.heap.size, 3, none⟩ = some (.int .i64 as_) := (unhide K).2.1.c 3 (by simp); have mPc0 : w5.cell? ⟨w.heap.size + 1, 0, none⟩ = some (.int .i64 bi) := (unhide K).2.2.c 0 (by simp); have mPc1 : w5.cell? ⟨w.heap.size + 1, 1, none⟩ = some (.int .i64 bh) := (unhide K).2.2.c 1 (by simp); have mPc2 : w5.cell? ⟨w.heap.size + 1, 2, none⟩ = some (.int .i64 bc) := (unhide K).2.2.c 2 (by simp); have mPc3 : w5.cell? ⟨w.heap.size + 1, 3, none⟩ = some (.int .i64 bs) := (unhide K).2.2.c 3 (by simp))
      | (go_at_call 13; refine (toOwn_any _ _ _ _ _).mono ?_; rintro x w6 ⟨rfl, b⟩; have S5 : Hid (w5.heap.size ≤ w6.heap.size) := hide b.size; have K : Hid (Below w.heap.size w w6 ∧ Blk w6 w.heap.size [.int .i64 ai, .int .i64 ah, .int .i64 ac, .int .i64 as_] ∧ Blk w6 (w.heap.size + 1) [.int .i64 bi, .int .i64 bh, .int .i64 bc, .int .i64 bs]) := hide ((unhide KEPT) _ _ (unhide K) b); clear b; clear mPa0 mPa1 mPa2 mPa3 mPc0 mPc1 mPc2 mPc3; have mPa0 : w6.cell? ⟨w.heap.size, 0, none⟩ = some (.int .i64 ai) := (unhide K).2.1.c 0 (by simp); have mPa1 : w6.cell? ⟨w.heap.size, 1, none⟩ = some (.int .i64 ah) := (unhide K).2.1.c 1 (by simp); have mPa2 : w6.cell? ⟨w.heap.size, 2, none⟩ = some (.int .i64 ac) := (unhide K).2.1.c 2 (by simp); have mPa3 : w6.cell? ⟨w.heap.size, 3, none⟩ = some (.int .i64 as_) := (unhide K).2.1.c 3 (by simp); have mPc0 : w6.cell? ⟨w.heap.size + 1, 0, none⟩ = some (.int .i64 bi) := (unhide K).2.2.c 0 (by simp); have mPc1 : w6.cell? ⟨w.heap.size + 1, 1, none⟩ = some (.int .i64 bh) := (unhide K).2.2.c 1 (by simp); have mPc2 : w6.cell? ⟨w.heap.size + 1, 2, none⟩ = some (.int .i64 bc) := (unhide K).2.2.c 2 (by simp); have mPc3 : w6.cell? ⟨w.heap.size + 1, 3, none⟩ = some (.int .i64 bs) := (unhide K).2.2.c 3 (by simp))
      | (go_at_call 18; refine (implPair_any _ _ _ _ _ _ _ _ _ _ _ _ _  ).mono ?_; rintro x w7 ⟨rfl, b⟩; have S6 : Hid (w6.heap.size ≤ w7.heap.size) := hide b.size; have K : Hid (Below w.heap.size w w7 ∧ Blk w7 w.heap.size [.int .i64 ai, .int .i64 ah, .int .i64 ac, .int .i64 as_] ∧ Blk w7 (w.heap.size + 1) [.int .i64 bi, .int .i64 bh, .int .i64 bc, .int .i64 bs]) := hide ((unhide KEPT) _ _ (unhide K) b); clear b; clear mPa0 mPa1 mPa2 mPa3 mPc0 mPc1 mPc2 mPc3; have mPa0 : w7.cell? ⟨w.heap.size, 0, none⟩ = some (.int .i64 ai) := (unhide K).2.1.c 0 (by simp); have mPa1 : w7.cell? ⟨w.heap.size, 1, none⟩ = some (.int .i64 ah) := (unhide K).2.1.c 1 (by simp); have mPa2 : w7.cell? ⟨w.heap.size, 2, none⟩ = some (.int .i64 ac) := (unhide K).2.1.c 2 (by simp); have mPa3 : w7.cell? ⟨w.heap.size, 3, none⟩ = some (.int .i64 as_) := (unhide K).2.1.c 3 (by simp); have mPc0 : w7.cell? ⟨w.heap.size + 1, 0, none⟩ = some (.int .i64 bi) := (unhide K).2.2.c 0 (by simp); have mPc1 : w7.cell? ⟨w.heap.size + 1, 1, none⟩ = some (.int .i64 bh) := (unhide K).2.2.c 1 (by simp); have mPc2 : w7.cell? ⟨w.heap.size + 1, 2, none⟩ = some (.int .i64 bc) := (unhide K).2.2.c 2 (by simp); have mPc3 : w7.cell? ⟨w.heap.size + 1, 3, none⟩ = some (.int .i64 bs) := (unhide K).2.2.c 3 (by simp))))
  clear mPa0 mPa1 mPa2 mPa3 mPc0 mPc1 mPc2 mPc3
  have mPa0 : w7.cell? ⟨w.heap.size, 0, none⟩ = some (.int .i64 ai) := (unhide K).2.1.c 0 (by simp)
  have mPa1 : w7.cell? ⟨w.heap.size, 1, none⟩ = some (.int .i64 ah) := (unhide K).2.1.c 1 (by simp)
  have mPa2 : w7.cell? ⟨w.heap.size, 2, none⟩ = some (.int .i64 ac) := (unhide K).2.1.c 2 (by simp)
  have mPa3 : w7.cell? ⟨w.heap.size, 3, none⟩ = some (.int .i64 as_) := (unhide K).2.1.c 3 (by simp)
  have mPc0 : w7.cell? ⟨w.heap.size + 1, 0, none⟩ = some (.int .i64 bi) := (unhide K).2.2.c 0 (by simp)
  have mPc1 : w7.cell? ⟨w.heap.size + 1, 1, none⟩ = some (.int .i64 bh) := (unhide K).2.2.c 1 (by simp)
  have mPc2 : w7.cell? ⟨w.heap.size + 1, 2, none⟩ = some (.int .i64 bc) := (unhide K).2.2.c 2 (by simp)
  have mPc3 : w7.cell? ⟨w.heap.size + 1, 3, none⟩ = some (.int .i64 bs) := (unhide K).2.2.c 3 (by simp)
  go_wp2_with fail
  clear mPa0 mPa1 mPa2 mPa3 mPc0 mPc1 mPc2 mPc3
  go_ret
  exact ⟨rfl, (unhide K).1⟩
end Go.Proofs.Ytbaocifpifbldax
