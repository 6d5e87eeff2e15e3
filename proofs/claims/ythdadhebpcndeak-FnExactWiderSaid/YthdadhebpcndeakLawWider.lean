/-
  The law FnExactWider returns true at every small complex number and writes nothing that was there: the walk. No condition.
-/
import Derived.Test.YthdadhebpcndeakCxTo
namespace Go.Proofs.Ythdadhebpcndeak
open Go.RowKit
attribute [local go_sem] run_store_float run_store_complex

theorem bel2s {w : World} (o p : Obj) (n : Nat) : Below w.heap.size w (((w.alloc o).alloc p).drewN n) := bel2d o p n

set_option maxHeartbeats 1000000 in
theorem toSharp_any (a b : Nat) (w : World) :
    Calls Try.prog 31 #[.agg #[.float .f32 a, .float .f32 b]] w fun e w' => e = .returned (.agg #[.float .f32 a, .float .f32 b]) ∧ Below w.heap.size w w' := by
  go_enter Try.func31, Try.ntmps31
  go_wp2
  refine bodyPost_ret (v := .agg #[.float .f32 a, .float .f32 b]) (by simp [results, Try.results31, go_sem]) rfl ⟨rfl, ?_⟩
  repeat (first | exact bel3 _ _ _ | refine Below.setCell ?_ (by simp; try omega) _)

set_option maxHeartbeats 1000000 in
theorem specWider_any (a b : Nat) (w : World) :
    Calls Try.prog 30 #[.agg #[.float .f32 a, .float .f32 b]] w fun e w' => ∃ x y, e = .returned (.agg #[.float .f64 x, .float .f64 y]) ∧ Alike .f64 x (wide a) ∧ Alike .f64 y (wide b) ∧ Below w.heap.size w w' := by
  go_enter Try.func30, Try.ntmps30
  go_wp2_with (with_reducible show wpList _ _ _ (⟨_, .convert _ _ _, _, _, _, none⟩ :: _) _ _; refine at_fwide rfl Try.underlying54 _ rfl ?_; intro z1 n1 h1)
  rename_i z0 n0 h0
  refine bodyPost_ret (v := .agg #[.float .f64 z0, .float .f64 z1]) (by simp [results, Try.results30, go_sem]) rfl ⟨_, _, rfl, h0, h1, ?_⟩
  repeat (first | exact bel2d _ _ _ | refine Below.setCell ?_ (by simp; try omega) _)

set_option maxHeartbeats 1000000 in
theorem cxOf_is (a b : Nat) (w : World) :
    Calls Try.prog 51 #[.complex .f64 a b] w fun e w' => e = .returned (.agg #[.float .f64 a, .float .f64 b]) ∧ Below w.heap.size w w' := by
  go_enter Try.func51, Try.ntmps51
  go_wp2
  refine bodyPost_ret (v := .agg #[.float .f64 a, .float .f64 b]) (by simp [results, Try.results51, go_sem]) rfl ⟨rfl, ?_⟩
  repeat (first | exact bel1 _ | refine Below.setCell ?_ (by simp; try omega) _)

set_option maxHeartbeats 1000000 in
theorem implWider_any (a b : Nat) (w : World) :
    Calls Try.prog 32 #[.agg #[.float .f32 a, .float .f32 b]] w fun e w' => ∃ x y, e = .returned (.agg #[.float .f64 x, .float .f64 y]) ∧ Alike .f64 x (wide a) ∧ Alike .f64 y (wide b) ∧ Below w.heap.size w w' := by
  go_enter Try.func32, Try.ntmps32
  go_wp2_with (with_reducible show wpList _ _ _ (⟨_, .convert _ _ _, _, _, _, none⟩ :: _) _ _; refine at_cwide rfl Try.underlying82 _ _ rfl ?_; intro z0 z1 n1 h0 h1)
  refine (cxOf_is _ _ _).mono ?_
  rintro e w3 ⟨rfl, b3⟩
  have r0 : w3.cell? ⟨w.heap.size + 1, 0, none⟩ = some (.float .f64 0) := (b3.cell (p := ⟨w.heap.size + 1, 0, none⟩) (by simp)).trans (by simp [go_sem])
  have r1 : w3.cell? ⟨w.heap.size + 1, 1, none⟩ = some (.float .f64 0) := (b3.cell (p := ⟨w.heap.size + 1, 1, none⟩) (by simp)).trans (by simp [go_sem])
  have f0 : w3.frozen? ⟨w.heap.size + 1, 0, none⟩ = false := (b3.frozen (p := ⟨w.heap.size + 1, 0, none⟩) (by simp)).trans (by simp [go_sem])
  have f1 : w3.frozen? ⟨w.heap.size + 1, 1, none⟩ = false := (b3.frozen (p := ⟨w.heap.size + 1, 1, none⟩) (by simp)).trans (by simp [go_sem])
  have B1 := hide ((bel2d _ _ _).trans (b3.mono (by simp; omega)))
  clear b3
  go_wp2
  refine bodyPost_ret (v := .agg #[.float .f64 z0, .float .f64 z1]) (by simp [results, Try.results32, go_sem, *]) rfl ⟨_, _, rfl, h0, h1, ?_⟩
  exact ((unhide B1).setCell (by simp) _).setCell (by simp) _

set_option maxHeartbeats 2000000 in
theorem lawWider (a b : Nat) (w : World) :
    Calls Try.prog 8 #[.agg #[.float .f32 a, .float .f32 b]] w fun e w' => e = .returned (.bool true) ∧ Below w.heap.size w w' := by
  go_enter Try.func8, Try.ntmps8
  go_wp2_with fail
  refine (toSharp_any _ _ _).mono ?_
  rintro e w1 ⟨rfl, b1⟩
  have c0 : w1.cell? ⟨w.heap.size, 0, none⟩ = some (.float .f32 a) := (b1.cell (p := ⟨w.heap.size, 0, none⟩) (by simp)).trans (by simp [go_sem])
  have c1 : w1.cell? ⟨w.heap.size, 1, none⟩ = some (.float .f32 b) := (b1.cell (p := ⟨w.heap.size, 1, none⟩) (by simp)).trans (by simp [go_sem])
  have B1 := hide ((bel1 _).trans (b1.mono (by simp)))
  clear b1
  go_wp2_with fail
  refine (specWider_any _ _ _).mono ?_
  rintro e w2 ⟨x, y, rfl, hx, hy, b2⟩
  have c0 := (b2.cell (block_lt_of_cell c0)).trans c0
  have c1 := (b2.cell (block_lt_of_cell c1)).trans c1
  have B2 := hide ((unhide B1).trans (b2.mono (unhide B1).size))
  have m0 : ¬ (w.heap.size = w2.heap.size) := by have := block_lt_of_cell c0; simp at this; omega
  have m0' : ¬ (w2.heap.size = w.heap.size) := by omega
  have e0 : (w2.alloc (Obj.cells #[.float .f64 x, .float .f64 y] 56)).cell? ⟨w.heap.size, 0, none⟩ = some (.float .f32 a) := by simp [World.cell?_alloc_some, c0]
  have e1 : (w2.alloc (Obj.cells #[.float .f64 x, .float .f64 y] 56)).cell? ⟨w.heap.size, 1, none⟩ = some (.float .f32 b) := by simp [World.cell?_alloc_some, c1]
  clear b2
  go_wp2_with fail
  refine (toSharp_any _ _ _).mono ?_
  rintro e w3 ⟨rfl, b3⟩
  have s0 : w3.cell? ⟨w2.heap.size, 0, none⟩ = some (.float .f64 x) := (b3.cell (p := ⟨w2.heap.size, 0, none⟩) (by simp)).trans (by simp [go_sem])
  have s1 : w3.cell? ⟨w2.heap.size, 1, none⟩ = some (.float .f64 y) := (b3.cell (p := ⟨w2.heap.size, 1, none⟩) (by simp)).trans (by simp [go_sem])
  have B3 : Hid (Below w.heap.size w w3) := hide (Below.trans (by repeat (first | exact unhide B2 | refine Below.setCell ?_ (unhide B2).size _ | refine Below.alloc ?_ (unhide B2).size _)) (b3.mono (by have := (unhide B2).size; simp; omega)))
  clear b3 c0 c1
  go_wp2_with fail
  refine (implWider_any _ _ _).mono ?_
  rintro e w4 ⟨x2, y2, rfl, gx, gy, b4⟩
  have s0 := (b4.cell (block_lt_of_cell s0)).trans s0
  have s1 := (b4.cell (block_lt_of_cell s1)).trans s1
  have m1 : ¬ (w2.heap.size = w4.heap.size) := by have := block_lt_of_cell s0; simp at this; omega
  have m1' : ¬ (w4.heap.size = w2.heap.size) := by omega
  have B4 := hide ((unhide B3).trans (b4.mono (unhide B3).size))
  have e2 : (w4.alloc (Obj.cells #[.float .f64 x2, .float .f64 y2] 56)).cell? ⟨w2.heap.size, 0, none⟩ = some (.float .f64 x) := by simp [World.cell?_alloc_some, s0]
  have e3 : (w4.alloc (Obj.cells #[.float .f64 x2, .float .f64 y2] 56)).cell? ⟨w2.heap.size, 1, none⟩ = some (.float .f64 y) := by simp [World.cell?_alloc_some, s1]
  clear b4
  go_wp2_with fail
  refine (eqCx_alike _ _ _ _ _ (gx.trans hx.symm) (gy.trans hy.symm)).mono ?_
  rintro e w5 ⟨rfl, b5⟩
  have B5 : Hid (Below w.heap.size w w5) := hide (Below.trans (by repeat (first | exact unhide B4 | refine Below.setCell ?_ (unhide B4).size _ | refine Below.alloc ?_ (unhide B4).size _)) (b5.mono (by have := (unhide B4).size; simp; omega)))
  clear b5
  go_wp2_with fail
  go_ret
  exact ⟨rfl, unhide B5⟩

end Go.Proofs.Ythdadhebpcndeak
