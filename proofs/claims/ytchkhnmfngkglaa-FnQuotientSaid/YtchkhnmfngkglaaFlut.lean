/-
  What Flutter answers in the specification and in the program. No condition; nothing that was there is written.
-/
import Derived.Test.YtchkhnmfngkglaaCxSpec
import Derived.Test.YtchkhnmfngkglaaCxImpl
import Derived.Test.YtchkhnmfngkglaaFlutPure
import Derived.Deep.RegionHeld3
namespace Go.Proofs.Ytchkhnmfngkglaa
open Go.RowKit
attribute [local go_sem] run_store_float run_store_complex

set_option maxRecDepth 20000 in
set_option maxHeartbeats 8000000 in
theorem implFlutter_any (a b c d e f g h : Nat) (w : World) :
    Calls Try.prog 21 #[.agg #[.float .f64 a, .float .f64 b], .agg #[.float .f64 c, .float .f64 d], .agg #[.float .f64 e, .float .f64 f], .agg #[.float .f64 g, .float .f64 h]] w fun r w' => ∃ x y x' y', r = .returned (.tuple #[.agg #[.float .f64 x, .float .f64 y], .agg #[.float .f64 x', .float .f64 y']]) ∧ Alike .f64 x (detX a b c d e f g h) ∧ Alike .f64 y (detY a b c d e f g h) ∧ Alike .f64 x' (fl .add .f64 a g) ∧ Alike .f64 y' (fl .add .f64 b h) ∧ Below w.heap.size w w' := by
  have hA := bel_al w
  have hD := bel_dr w
  have hS := bel_st w
  go_enter Try.func21, Try.ntmps21
  go_wp2
  obtain ⟨w1, hw1⟩ : ∃ w1, w1 = ((((((w.alloc (Obj.cells #[.float .f64 a, .float .f64 b] 31)).alloc (Obj.cells #[.float .f64 c, .float .f64 d] 31)).alloc (Obj.cells #[.float .f64 e, .float .f64 f] 31)).alloc (Obj.cells #[.float .f64 g, .float .f64 h] 31)).alloc (Obj.cells #[.float .f64 0, .float .f64 0] 31)).alloc (Obj.cells #[.float .f64 0, .float .f64 0] 31)) := ⟨_, rfl⟩
  obtain ⟨Z, hZ⟩ : ∃ Z, Z = w.heap.size + 1 + 1 + 1 + 1 + 1 := ⟨_, rfl⟩
  obtain ⟨R, hR⟩ : ∃ R, R = w.heap.size + 1 + 1 + 1 + 1 := ⟨_, rfl⟩
  rw [← hw1, ← hZ, ← hR]
  have c0 : w1.cell? ⟨w.heap.size, 0, none⟩ = some (.float .f64 a) := by rw [hw1]; simp [go_sem]
  have c1 : w1.cell? ⟨w.heap.size, 1, none⟩ = some (.float .f64 b) := by rw [hw1]; simp [go_sem]
  have c2 : w1.cell? ⟨w.heap.size + 1, 0, none⟩ = some (.float .f64 c) := by rw [hw1]; simp [go_sem]
  have c3 : w1.cell? ⟨w.heap.size + 1, 1, none⟩ = some (.float .f64 d) := by rw [hw1]; simp [go_sem]
  have c4 : w1.cell? ⟨w.heap.size + 1 + 1, 0, none⟩ = some (.float .f64 e) := by rw [hw1]; simp [go_sem]
  have c5 : w1.cell? ⟨w.heap.size + 1 + 1, 1, none⟩ = some (.float .f64 f) := by rw [hw1]; simp [go_sem]
  have c6 : w1.cell? ⟨w.heap.size + 1 + 1 + 1, 0, none⟩ = some (.float .f64 g) := by rw [hw1]; simp [go_sem]
  have c7 : w1.cell? ⟨w.heap.size + 1 + 1 + 1, 1, none⟩ = some (.float .f64 h) := by rw [hw1]; simp [go_sem]
  have r0 : w1.cell? ⟨R, 0, none⟩ = some (.float .f64 0) := by rw [hw1, hR]; simp [go_sem]
  have r1 : w1.cell? ⟨R, 1, none⟩ = some (.float .f64 0) := by rw [hw1, hR]; simp [go_sem]
  have r2 : w1.cell? ⟨Z, 0, none⟩ = some (.float .f64 0) := by rw [hw1, hZ]; simp [go_sem]
  have r3 : w1.cell? ⟨Z, 1, none⟩ = some (.float .f64 0) := by rw [hw1, hZ]; simp [go_sem]
  have f0 : w1.frozen? ⟨R, 0, none⟩ = false := by rw [hw1, hR]; simp [go_sem]
  have f1 : w1.frozen? ⟨R, 1, none⟩ = false := by rw [hw1, hR]; simp [go_sem]
  have f2 : w1.frozen? ⟨Z, 0, none⟩ = false := by rw [hw1, hZ]; simp [go_sem]
  have f3 : w1.frozen? ⟨Z, 1, none⟩ = false := by rw [hw1, hZ]; simp [go_sem]
  have bb : Below w.heap.size w w1 := by
    rw [hw1]
    exact (((bel3 _ _ _).alloc (by simp; omega) _).alloc (by simp; omega) _).alloc (by simp; omega) _
  have lr : w.heap.size ≤ R := by omega
  have lz : w.heap.size ≤ Z := by omega
  have m0 : ¬ (R = w.heap.size) := by omega
  have m1 : ¬ (R = w.heap.size + 1) := by omega
  have m2 : ¬ (R = w.heap.size + 1 + 1) := by omega
  have m3 : ¬ (R = w.heap.size + 1 + 1 + 1) := by omega
  have k0 : ¬ (Z = w.heap.size) := by omega
  have k1 : ¬ (Z = w.heap.size + 1) := by omega
  have k2 : ¬ (Z = w.heap.size + 1 + 1) := by omega
  have k3 : ¬ (Z = w.heap.size + 1 + 1 + 1) := by omega
  have mz : ¬ (R = Z) := by omega
  have kz : ¬ (Z = R) := by omega
  clear hw1 hR hZ
  go_region_held3 (fun w' => w'.cell? ⟨w.heap.size, 0, none⟩ = some (.float .f64 a) ∧ w'.cell? ⟨w.heap.size, 1, none⟩ = some (.float .f64 b) ∧ w'.cell? ⟨w.heap.size + 1, 0, none⟩ = some (.float .f64 c) ∧ w'.cell? ⟨w.heap.size + 1, 1, none⟩ = some (.float .f64 d) ∧ w'.cell? ⟨w.heap.size + 1 + 1, 0, none⟩ = some (.float .f64 e) ∧ w'.cell? ⟨w.heap.size + 1 + 1, 1, none⟩ = some (.float .f64 f) ∧ w'.cell? ⟨w.heap.size + 1 + 1 + 1, 0, none⟩ = some (.float .f64 g) ∧ w'.cell? ⟨w.heap.size + 1 + 1 + 1, 1, none⟩ = some (.float .f64 h) ∧ Below w.heap.size w w') (go_keep)
    ((first
      | (go_at_call 10; refine (implCxTimes_any _ _ _ _ _).mono ?_; rintro e w3 ⟨x1, y1, rfl, j1, j2, b3⟩; have H3 := held8_call (by assumption) b3; have f0 := (b3.frozen (block_lt_of_cell r0)).trans f0; have f1 := (b3.frozen (block_lt_of_cell r1)).trans f1; have f2 := (b3.frozen (block_lt_of_cell r2)).trans f2; have f3 := (b3.frozen (block_lt_of_cell r3)).trans f3; have r0 := (b3.cell (block_lt_of_cell r0)).trans r0; have r1 := (b3.cell (block_lt_of_cell r1)).trans r1; have r2 := (b3.cell (block_lt_of_cell r2)).trans r2; have r3 := (b3.cell (block_lt_of_cell r3)).trans r3; clear b3)
      | (go_at_call 22; refine (implCxLess_any _ _ _ _ _).mono ?_; rintro e w3 ⟨x2, y2, rfl, j3, j4, b3⟩; have H3 := held8_call (by assumption) b3; have f0 := (b3.frozen (block_lt_of_cell r0)).trans f0; have f1 := (b3.frozen (block_lt_of_cell r1)).trans f1; have f2 := (b3.frozen (block_lt_of_cell r2)).trans f2; have f3 := (b3.frozen (block_lt_of_cell r3)).trans f3; have r0 := (b3.cell (block_lt_of_cell r0)).trans r0; have r1 := (b3.cell (block_lt_of_cell r1)).trans r1; have r2 := (b3.cell (block_lt_of_cell r2)).trans r2; have r3 := (b3.cell (block_lt_of_cell r3)).trans r3; clear b3)
      | (go_at_call 11; refine (implCxAdd_any _ _ _ _ _).mono ?_; rintro e w3 ⟨x3, y3, rfl, j5, j6, b3⟩; have H3 := held8_call (by assumption) b3; have f0 := (b3.frozen (block_lt_of_cell r0)).trans f0; have f1 := (b3.frozen (block_lt_of_cell r1)).trans f1; have f2 := (b3.frozen (block_lt_of_cell r2)).trans f2; have f3 := (b3.frozen (block_lt_of_cell r3)).trans f3; have r0 := (b3.cell (block_lt_of_cell r0)).trans r0; have r1 := (b3.cell (block_lt_of_cell r1)).trans r1; have r2 := (b3.cell (block_lt_of_cell r2)).trans r2; have r3 := (b3.cell (block_lt_of_cell r3)).trans r3; clear b3)))
  all_goals (
    have HBB : Hid (Below w.heap.size w w3) := hide (by have h := H3; exact h.2.2.2.2.2.2.2.2)
    have A1 : Hid (Alike .f64 x2 (detX a b c d e f g h)) := hide (j3.trans (Alike.fl (by assumption) (by assumption)))
    have A2 : Hid (Alike .f64 y2 (detY a b c d e f g h)) := hide (j4.trans (Alike.fl (by assumption) (by assumption)))
    go_wp2
    refine bodyPost_ret (v := .tuple #[.agg #[.float .f64 x2, .float .f64 y2], .agg #[.float .f64 x3, .float .f64 y3]]) (by simp [results, Try.results21, go_sem, *]) rfl ⟨x2, y2, x3, y3, rfl, unhide A1, unhide A2, j5, j6, ?_⟩
    repeat (first | exact unhide HBB | refine Below.setCell ?_ lr _ | refine Below.setCell ?_ lz _))

end Go.Proofs.Ytchkhnmfngkglaa
