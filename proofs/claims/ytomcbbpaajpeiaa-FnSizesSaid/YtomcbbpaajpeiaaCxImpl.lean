/-
  What the program's functions on complex numbers answer. No condition; nothing that was there is written.
-/
import Derived.Test.YtomcbbpaajpeiaaChecked
import Derived.Test.YtomcbbpaajpeiaaFlWalk
import Derived.Test.YtomcbbpaajpeiaaMCxPure
import Derived.Deep.RegionHeld3
namespace Go.Proofs.Ytomcbbpaajpeiaa
open Go.RowKit
attribute [local go_sem] run_store_float run_store_complex

set_option maxHeartbeats 1000000 in
theorem complexOf_any (a b : Nat) (w : World) :
    Calls Try.prog 19 #[.agg #[.float .f64 a, .float .f64 b]] w fun e w' => e = .returned (.complex .f64 a b) ∧ Below w.heap.size w w' := by
  go_enter Try.func19, Try.ntmps19
  go_wp2
  go_ret
  exact ⟨rfl, bel1 _⟩

set_option maxHeartbeats 1000000 in
theorem cxOf_any (a b : Nat) (w : World) :
    Calls Try.prog 20 #[.complex .f64 a b] w fun e w' => e = .returned (.agg #[.float .f64 a, .float .f64 b]) ∧ Below w.heap.size w w' := by
  go_enter Try.func20, Try.ntmps20
  go_wp2
  refine bodyPost_ret (v := .agg #[.float .f64 a, .float .f64 b]) (by simp [results, Try.results20, go_sem]) rfl ⟨rfl, ?_⟩
  repeat (first | exact bel1 _ | refine Below.setCell ?_ (by simp; try omega) _)

set_option maxHeartbeats 2000000 in
theorem product_any (a b c d : Nat) (w : World) :
    Calls Try.prog 22 #[.complex .f64 a b, .complex .f64 c d] w fun e w' => ∃ x y, e = .returned (.complex .f64 x y) ∧ Alike .f64 x (tRe a b c d) ∧ Alike .f64 y (tIm a b c d) ∧ ∃ n, w' = w.drewN n := by
  go_enter Try.func22, Try.ntmps22
  go_wp2_with (with_reducible show wpList _ _ _ (⟨_, .binOp _ _ _ _ _, _, _, _, none⟩ :: _) _ _; refine at_flop (by decide) .f64 _ _ rfl rfl ?_; intro z1 n1 h1)
  rename_i p1 m1 g1 p2 m2 g2 z0 n0 h0 p3 m3 g3 p4 m4 g4
  go_ret
  exact ⟨_, _, rfl, h0.trans (g1.fl g2), h1.trans (g3.fl g4), _, rfl⟩

set_option maxHeartbeats 4000000 in
theorem implCxTimes_any (a b c d : Nat) (w : World) :
    Calls Try.prog 9 #[.agg #[.float .f64 a, .float .f64 b], .agg #[.float .f64 c, .float .f64 d]] w fun e w' => ∃ x y, e = .returned (.agg #[.float .f64 x, .float .f64 y]) ∧ Alike .f64 x (tRe a b c d) ∧ Alike .f64 y (tIm a b c d) ∧ Below w.heap.size w w' := by
  go_enter Try.func9, Try.ntmps9
  go_wp2
  obtain ⟨w1, hw1⟩ : ∃ w1, w1 = (((w.alloc (Obj.cells #[.float .f64 a, .float .f64 b] 31)).alloc (Obj.cells #[.float .f64 c, .float .f64 d] 31)).alloc (Obj.cells #[.float .f64 0, .float .f64 0] 31)) := ⟨_, rfl⟩
  obtain ⟨R, hR⟩ : ∃ R, R = w.heap.size + 1 + 1 := ⟨_, rfl⟩
  rw [← hw1, ← hR]
  have c0 : w1.cell? ⟨w.heap.size, 0, none⟩ = some (.float .f64 a) := by rw [hw1]; simp [go_sem]
  have c1 : w1.cell? ⟨w.heap.size, 1, none⟩ = some (.float .f64 b) := by rw [hw1]; simp [go_sem]
  have c2 : w1.cell? ⟨w.heap.size + 1, 0, none⟩ = some (.float .f64 c) := by rw [hw1]; simp [go_sem]
  have c3 : w1.cell? ⟨w.heap.size + 1, 1, none⟩ = some (.float .f64 d) := by rw [hw1]; simp [go_sem]
  have r0 : w1.cell? ⟨R, 0, none⟩ = some (.float .f64 0) := by rw [hw1, hR]; simp [go_sem]
  have r1 : w1.cell? ⟨R, 1, none⟩ = some (.float .f64 0) := by rw [hw1, hR]; simp [go_sem]
  have f0 : w1.frozen? ⟨R, 0, none⟩ = false := by rw [hw1, hR]; simp [go_sem]
  have f1 : w1.frozen? ⟨R, 1, none⟩ = false := by rw [hw1, hR]; simp [go_sem]
  have l0 : w.heap.size < w1.heap.size := by rw [hw1]; simp; omega
  have l1 : w.heap.size + 1 < w1.heap.size := by rw [hw1]; simp
  have l2 : R < w1.heap.size := by rw [hw1, hR]; simp
  have B1 : Hid (Below w.heap.size w w1) := hide (by rw [hw1]; exact bel3 _ _ _)
  have m0 : ¬ (R = w.heap.size) := by omega
  have m0' : ¬ (w.heap.size = R) := by omega
  have m1 : ¬ (R = w.heap.size + 1) := by omega
  have m1' : ¬ (w.heap.size + 1 = R) := by omega
  have lr : w.heap.size ≤ R := by omega
  clear hw1 hR
  go_region_held3 (fun w' => w'.cell? ⟨w.heap.size, 0, none⟩ = some (.float .f64 a) ∧ w'.cell? ⟨w.heap.size, 1, none⟩ = some (.float .f64 b) ∧ w'.cell? ⟨w.heap.size + 1, 0, none⟩ = some (.float .f64 c) ∧ w'.cell? ⟨w.heap.size + 1, 1, none⟩ = some (.float .f64 d)) (go_keep)
    ((first
      | (go_at_call 19; refine (complexOf_any _ _ _).mono ?_; rintro e w3 ⟨rfl, b3⟩; have c0 := (b3.cell (p := ⟨w.heap.size, 0, none⟩) l0).trans c0; have c1 := (b3.cell (p := ⟨w.heap.size, 1, none⟩) l0).trans c1; have c2 := (b3.cell (p := ⟨w.heap.size + 1, 0, none⟩) l1).trans c2; have c3 := (b3.cell (p := ⟨w.heap.size + 1, 1, none⟩) l1).trans c3; have r0 := (b3.cell (p := ⟨R, 0, none⟩) l2).trans r0; have r1 := (b3.cell (p := ⟨R, 1, none⟩) l2).trans r1; have f0 := (b3.frozen (p := ⟨R, 0, none⟩) l2).trans f0; have f1 := (b3.frozen (p := ⟨R, 1, none⟩) l2).trans f1; have B1 := hide (show Below w.heap.size w w3 from by first | exact (unhide B1).trans (b3.mono (Nat.le_of_lt l0)) | exact ((unhide B1).trans (bel0d' _)).trans (b3.mono (Nat.le_of_lt l0))); have l0 := Nat.lt_of_lt_of_le l0 b3.size; have l1 := Nat.lt_of_lt_of_le l1 b3.size; have l2 := Nat.lt_of_lt_of_le l2 b3.size; clear b3)
      | (go_at_call 22; refine (product_any _ _ _ _ _).mono ?_; rintro e w3 ⟨x, y, rfl, hx, hy, n3, rfl⟩)
      | (go_at_call 20; refine (cxOf_any _ _ _).mono ?_; rintro e w3 ⟨rfl, b3⟩; have c0 := (b3.cell (p := ⟨w.heap.size, 0, none⟩) l0).trans c0; have c1 := (b3.cell (p := ⟨w.heap.size, 1, none⟩) l0).trans c1; have c2 := (b3.cell (p := ⟨w.heap.size + 1, 0, none⟩) l1).trans c2; have c3 := (b3.cell (p := ⟨w.heap.size + 1, 1, none⟩) l1).trans c3; have r0 := (b3.cell (p := ⟨R, 0, none⟩) l2).trans r0; have r1 := (b3.cell (p := ⟨R, 1, none⟩) l2).trans r1; have f0 := (b3.frozen (p := ⟨R, 0, none⟩) l2).trans f0; have f1 := (b3.frozen (p := ⟨R, 1, none⟩) l2).trans f1; have B1 := hide (show Below w.heap.size w w3 from by first | exact (unhide B1).trans (b3.mono (Nat.le_of_lt l0)) | exact ((unhide B1).trans (bel0d' _)).trans (b3.mono (Nat.le_of_lt l0))); have l0 := Nat.lt_of_lt_of_le l0 b3.size; have l1 := Nat.lt_of_lt_of_le l1 b3.size; have l2 := Nat.lt_of_lt_of_le l2 b3.size; clear b3)))
  go_wp2
  refine bodyPost_ret (v := .agg #[.float .f64 x, .float .f64 y]) (by simp [results, Try.results9, go_sem, *]) rfl ⟨_, _, rfl, hx, hy, ?_⟩
  exact ((unhide B1).setCell lr _).setCell lr _


set_option maxHeartbeats 4000000 in
theorem implCxAdd_any (a b c d : Nat) (w : World) :
    Calls Try.prog 10 #[.agg #[.float .f64 a, .float .f64 b], .agg #[.float .f64 c, .float .f64 d]] w fun e w' => ∃ x y, e = .returned (.agg #[.float .f64 x, .float .f64 y]) ∧ Alike .f64 x (fl .add .f64 a c) ∧ Alike .f64 y (fl .add .f64 b d) ∧ Below w.heap.size w w' := by
  obtain ⟨F, G, N, hrun, hF, hG⟩ := run_cadd (P := Try.prog) 50 a b c d
  go_enter Try.func10, Try.ntmps10
  go_wp2
  obtain ⟨w1, hw1⟩ : ∃ w1, w1 = (((w.alloc (Obj.cells #[.float .f64 a, .float .f64 b] 31)).alloc (Obj.cells #[.float .f64 c, .float .f64 d] 31)).alloc (Obj.cells #[.float .f64 0, .float .f64 0] 31)) := ⟨_, rfl⟩
  obtain ⟨R, hR⟩ : ∃ R, R = w.heap.size + 1 + 1 := ⟨_, rfl⟩
  rw [← hw1, ← hR]
  have c0 : w1.cell? ⟨w.heap.size, 0, none⟩ = some (.float .f64 a) := by rw [hw1]; simp [go_sem]
  have c1 : w1.cell? ⟨w.heap.size, 1, none⟩ = some (.float .f64 b) := by rw [hw1]; simp [go_sem]
  have c2 : w1.cell? ⟨w.heap.size + 1, 0, none⟩ = some (.float .f64 c) := by rw [hw1]; simp [go_sem]
  have c3 : w1.cell? ⟨w.heap.size + 1, 1, none⟩ = some (.float .f64 d) := by rw [hw1]; simp [go_sem]
  have r0 : w1.cell? ⟨R, 0, none⟩ = some (.float .f64 0) := by rw [hw1, hR]; simp [go_sem]
  have r1 : w1.cell? ⟨R, 1, none⟩ = some (.float .f64 0) := by rw [hw1, hR]; simp [go_sem]
  have f0 : w1.frozen? ⟨R, 0, none⟩ = false := by rw [hw1, hR]; simp [go_sem]
  have f1 : w1.frozen? ⟨R, 1, none⟩ = false := by rw [hw1, hR]; simp [go_sem]
  have l0 : w.heap.size < w1.heap.size := by rw [hw1]; simp; omega
  have l1 : w.heap.size + 1 < w1.heap.size := by rw [hw1]; simp
  have l2 : R < w1.heap.size := by rw [hw1, hR]; simp
  have B1 : Hid (Below w.heap.size w w1) := hide (by rw [hw1]; exact bel3 _ _ _)
  have m0 : ¬ (R = w.heap.size) := by omega
  have m0' : ¬ (w.heap.size = R) := by omega
  have m1 : ¬ (R = w.heap.size + 1) := by omega
  have m1' : ¬ (w.heap.size + 1 = R) := by omega
  have lr : w.heap.size ≤ R := by omega
  clear hw1 hR
  go_region_with ((first
      | (go_at_call 19; refine (complexOf_any _ _ _).mono ?_; rintro e w3 ⟨rfl, b3⟩; have c0 := (b3.cell (p := ⟨w.heap.size, 0, none⟩) l0).trans c0; have c1 := (b3.cell (p := ⟨w.heap.size, 1, none⟩) l0).trans c1; have c2 := (b3.cell (p := ⟨w.heap.size + 1, 0, none⟩) l1).trans c2; have c3 := (b3.cell (p := ⟨w.heap.size + 1, 1, none⟩) l1).trans c3; have r0 := (b3.cell (p := ⟨R, 0, none⟩) l2).trans r0; have r1 := (b3.cell (p := ⟨R, 1, none⟩) l2).trans r1; have f0 := (b3.frozen (p := ⟨R, 0, none⟩) l2).trans f0; have f1 := (b3.frozen (p := ⟨R, 1, none⟩) l2).trans f1; have B1 := hide (show Below w.heap.size w w3 from by first | exact (unhide B1).trans (b3.mono (Nat.le_of_lt l0)) | exact ((unhide B1).trans (bel0d' _)).trans (b3.mono (Nat.le_of_lt l0))); have l0 := Nat.lt_of_lt_of_le l0 b3.size; have l1 := Nat.lt_of_lt_of_le l1 b3.size; have l2 := Nat.lt_of_lt_of_le l2 b3.size; clear b3)
      | (go_at_call 20; refine (cxOf_any _ _ _).mono ?_; rintro e w3 ⟨rfl, b3⟩; have c0 := (b3.cell (p := ⟨w.heap.size, 0, none⟩) l0).trans c0; have c1 := (b3.cell (p := ⟨w.heap.size, 1, none⟩) l0).trans c1; have c2 := (b3.cell (p := ⟨w.heap.size + 1, 0, none⟩) l1).trans c2; have c3 := (b3.cell (p := ⟨w.heap.size + 1, 1, none⟩) l1).trans c3; have r0 := (b3.cell (p := ⟨R, 0, none⟩) l2).trans r0; have r1 := (b3.cell (p := ⟨R, 1, none⟩) l2).trans r1; have f0 := (b3.frozen (p := ⟨R, 0, none⟩) l2).trans f0; have f1 := (b3.frozen (p := ⟨R, 1, none⟩) l2).trans f1; have B1 := hide (show Below w.heap.size w w3 from by first | exact (unhide B1).trans (b3.mono (Nat.le_of_lt l0)) | exact ((unhide B1).trans (bel0d' _)).trans (b3.mono (Nat.le_of_lt l0))); have l0 := Nat.lt_of_lt_of_le l0 b3.size; have l1 := Nat.lt_of_lt_of_le l1 b3.size; have l2 := Nat.lt_of_lt_of_le l2 b3.size; clear b3)))

  all_goals (
    go_wp2
    refine bodyPost_ret (v := .agg #[.float .f64 (F _), .float .f64 (G _)]) (by simp [results, Try.results10, go_sem, *]; exact ⟨rfl, rfl⟩) rfl ⟨_, _, rfl, hF _, hG _, ?_⟩
    exact ((unhide B1).setCell lr _).setCell lr _)

end Go.Proofs.Ytomcbbpaajpeiaa
