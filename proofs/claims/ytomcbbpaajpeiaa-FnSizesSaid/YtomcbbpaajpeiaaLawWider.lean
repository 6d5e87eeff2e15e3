/-
  The law FnExactWider returns true at every small complex number and writes nothing that was there: the walk. No condition.
-/
import Derived.Test.YtomcbbpaajpeiaaMMissing
namespace Go.Proofs.Ytomcbbpaajpeiaa
open Go.RowKit
attribute [local go_sem] run_store_float run_store_complex

theorem bel2s {w : World} (o p : Obj) (n : Nat) : Below w.heap.size w (((w.alloc o).alloc p).drewN n) := bel2d o p n

set_option maxHeartbeats 1000000 in
theorem specWider_any (a b : Nat) (w : World) :
    Calls Try.prog 30 #[.agg #[.float .f32 a, .float .f32 b]] w fun e w' => ∃ x y, e = .returned (.agg #[.float .f64 x, .float .f64 y]) ∧ Alike .f64 x (wide a) ∧ Alike .f64 y (wide b) ∧ Below w.heap.size w w' := by
  go_enter Try.func30, Try.ntmps30
  go_wp2_with (with_reducible show wpList _ _ _ (⟨_, .convert _ _ _, _, _, _, none⟩ :: _) _ _; refine at_fwide rfl Try.underlying29 _ rfl ?_; intro z1 n1 h1)
  rename_i z0 n0 h0
  refine bodyPost_ret (v := .agg #[.float .f64 z0, .float .f64 z1]) (by simp [results, Try.results30, go_sem]) rfl ⟨_, _, rfl, h0, h1, ?_⟩
  repeat (first | exact bel2d _ _ _ | refine Below.setCell ?_ (by simp; try omega) _)

set_option maxHeartbeats 1000000 in
theorem cxOf_is (a b : Nat) (w : World) :
    Calls Try.prog 20 #[.complex .f64 a b] w fun e w' => e = .returned (.agg #[.float .f64 a, .float .f64 b]) ∧ Below w.heap.size w w' := by
  go_enter Try.func20, Try.ntmps20
  go_wp2
  refine bodyPost_ret (v := .agg #[.float .f64 a, .float .f64 b]) (by simp [results, Try.results20, go_sem]) rfl ⟨rfl, ?_⟩
  repeat (first | exact bel1 _ | refine Below.setCell ?_ (by simp; try omega) _)

set_option maxHeartbeats 1000000 in
theorem implWider_any (a b : Nat) (w : World) :
    Calls Try.prog 7 #[.agg #[.float .f32 a, .float .f32 b]] w fun e w' => ∃ x y, e = .returned (.agg #[.float .f64 x, .float .f64 y]) ∧ Alike .f64 x (wide a) ∧ Alike .f64 y (wide b) ∧ Below w.heap.size w w' := by
  go_enter Try.func7, Try.ntmps7
  go_wp2_with (with_reducible show wpList _ _ _ (⟨_, .convert _ _ _, _, _, _, none⟩ :: _) _ _; refine at_cwide rfl Try.underlying50 _ _ rfl ?_; intro z0 z1 n1 h0 h1)
  refine (cxOf_is _ _ _).mono ?_
  rintro e w3 ⟨rfl, b3⟩
  have r0 : w3.cell? ⟨w.heap.size + 1, 0, none⟩ = some (.float .f64 0) := (b3.cell (p := ⟨w.heap.size + 1, 0, none⟩) (by simp)).trans (by simp [go_sem])
  have r1 : w3.cell? ⟨w.heap.size + 1, 1, none⟩ = some (.float .f64 0) := (b3.cell (p := ⟨w.heap.size + 1, 1, none⟩) (by simp)).trans (by simp [go_sem])
  have f0 : w3.frozen? ⟨w.heap.size + 1, 0, none⟩ = false := (b3.frozen (p := ⟨w.heap.size + 1, 0, none⟩) (by simp)).trans (by simp [go_sem])
  have f1 : w3.frozen? ⟨w.heap.size + 1, 1, none⟩ = false := (b3.frozen (p := ⟨w.heap.size + 1, 1, none⟩) (by simp)).trans (by simp [go_sem])
  have B1 := hide ((bel2d _ _ _).trans (b3.mono (by simp; omega)))
  clear b3
  go_wp2
  refine bodyPost_ret (v := .agg #[.float .f64 z0, .float .f64 z1]) (by simp [results, Try.results7, go_sem, *]) rfl ⟨_, _, rfl, h0, h1, ?_⟩
  exact ((unhide B1).setCell (by simp) _).setCell (by simp) _

end Go.Proofs.Ytomcbbpaajpeiaa
