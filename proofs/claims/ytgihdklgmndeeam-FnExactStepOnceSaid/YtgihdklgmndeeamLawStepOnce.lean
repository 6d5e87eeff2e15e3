/-
  The law FnExactStepOnce returns true at every argument and writes nothing that was there: the walk. No condition.
-/
import Derived.Test.YtgihdklgmndeeamStep
import Derived.Test.YtgihdklgmndeeamHeldN
import Derived.Deep.RegionHeld3
import Derived.Deep.Cut
namespace Go.Proofs.Ytgihdklgmndeeam
open Go.RowKit
attribute [local go_sem] run_store_float

theorem bel_st4 (w : World) : ∀ (W : World) (p o0 o1 o2 o3 : Nat) (v0 v1 v2 v3 : Value), w.heap.size ≤ p → Below w.heap.size w W → Below w.heap.size w ((((W.setCell ⟨p, o0, none⟩ v0).setCell ⟨p, o1, none⟩ v1).setCell ⟨p, o2, none⟩ v2).setCell ⟨p, o3, none⟩ v3) := fun _ _ _ _ _ _ v0 v1 v2 v3 hp h => (((h.setCell hp v0).setCell hp v1).setCell hp v2).setCell hp v3

set_option maxRecDepth 20000 in
set_option maxHeartbeats 8000000 in
theorem lawStepOnce (a0 a1 a2 a3 f0 f1 f2 f3 f4 el dt : Nat) (w : World) :
    Calls Try.prog 8 #[.agg #[.float .f64 a0, .float .f64 a1, .float .f64 a2, .float .f64 a3], .agg #[.float .f64 f0, .float .f64 f1, .float .f64 f2, .float .f64 f3, .float .f64 f4], .float .f64 el, .float .f64 dt] w fun e w' => e = .returned (.bool true) ∧ Below w.heap.size w w' := by
  have hA := bel_al w
  have hD := bel_dr w
  have hS := bel_st w
  have hS4 := bel_st4 w
  go_enter Try.func8, Try.ntmps8
  go_wp2
  obtain ⟨w1, hw1⟩ : ∃ w1, w1 = ((w.alloc (Obj.cells #[.float .f64 a0, .float .f64 a1, .float .f64 a2, .float .f64 a3] 52)).alloc (Obj.cells #[.float .f64 f0, .float .f64 f1, .float .f64 f2, .float .f64 f3, .float .f64 f4] 54)) := ⟨_, rfl⟩
  rw [← hw1]
  have c0 : w1.cell? ⟨w.heap.size, 0, none⟩ = some (.float .f64 a0) := by rw [hw1]; simp [go_sem]
  have c1 : w1.cell? ⟨w.heap.size, 1, none⟩ = some (.float .f64 a1) := by rw [hw1]; simp [go_sem]
  have c2 : w1.cell? ⟨w.heap.size, 2, none⟩ = some (.float .f64 a2) := by rw [hw1]; simp [go_sem]
  have c3 : w1.cell? ⟨w.heap.size, 3, none⟩ = some (.float .f64 a3) := by rw [hw1]; simp [go_sem]
  have c4 : w1.cell? ⟨w.heap.size + 1, 0, none⟩ = some (.float .f64 f0) := by rw [hw1]; simp [go_sem]
  have c5 : w1.cell? ⟨w.heap.size + 1, 1, none⟩ = some (.float .f64 f1) := by rw [hw1]; simp [go_sem]
  have c6 : w1.cell? ⟨w.heap.size + 1, 2, none⟩ = some (.float .f64 f2) := by rw [hw1]; simp [go_sem]
  have c7 : w1.cell? ⟨w.heap.size + 1, 3, none⟩ = some (.float .f64 f3) := by rw [hw1]; simp [go_sem]
  have c8 : w1.cell? ⟨w.heap.size + 1, 4, none⟩ = some (.float .f64 f4) := by rw [hw1]; simp [go_sem]
  have bb : Below w.heap.size w w1 := by rw [hw1]; exact bel2 _ _
  have z3 := bb.size
  have n0 := World.new_ne w1 _ c0
  have n2 := World.new_ne w1 _ c4
  clear hw1
  go_cut [9] from 11 (fun s9 wc => ∃ S x0 x1 x2 x3, s9 = .pointer (some ⟨S, 0, none⟩) ∧ moAlike ⟨x0, x1, x2, x3⟩ (stepM ⟨a0, a1, a2, a3⟩ ⟨f0, f1, f2, f3, f4⟩ el dt) ∧ wc.cell? ⟨S, 0, none⟩ = some (.float .f64 x0) ∧ wc.cell? ⟨S, 1, none⟩ = some (.float .f64 x1) ∧ wc.cell? ⟨S, 2, none⟩ = some (.float .f64 x2) ∧ wc.cell? ⟨S, 3, none⟩ = some (.float .f64 x3) ∧ wc.cell? ⟨w.heap.size, 0, none⟩ = some (.float .f64 a0) ∧ wc.cell? ⟨w.heap.size, 1, none⟩ = some (.float .f64 a1) ∧ wc.cell? ⟨w.heap.size, 2, none⟩ = some (.float .f64 a2) ∧ wc.cell? ⟨w.heap.size, 3, none⟩ = some (.float .f64 a3) ∧ wc.cell? ⟨w.heap.size + 1, 0, none⟩ = some (.float .f64 f0) ∧ wc.cell? ⟨w.heap.size + 1, 1, none⟩ = some (.float .f64 f1) ∧ wc.cell? ⟨w.heap.size + 1, 2, none⟩ = some (.float .f64 f2) ∧ wc.cell? ⟨w.heap.size + 1, 3, none⟩ = some (.float .f64 f3) ∧ wc.cell? ⟨w.heap.size + 1, 4, none⟩ = some (.float .f64 f4) ∧ Below w.heap.size w wc)
  case first =>
    go_region_held3 (fun w' => w'.cell? ⟨w.heap.size, 0, none⟩ = some (.float .f64 a0) ∧ w'.cell? ⟨w.heap.size, 1, none⟩ = some (.float .f64 a1) ∧ w'.cell? ⟨w.heap.size, 2, none⟩ = some (.float .f64 a2) ∧ w'.cell? ⟨w.heap.size, 3, none⟩ = some (.float .f64 a3) ∧ w'.cell? ⟨w.heap.size + 1, 0, none⟩ = some (.float .f64 f0) ∧ w'.cell? ⟨w.heap.size + 1, 1, none⟩ = some (.float .f64 f1) ∧ w'.cell? ⟨w.heap.size + 1, 2, none⟩ = some (.float .f64 f2) ∧ w'.cell? ⟨w.heap.size + 1, 3, none⟩ = some (.float .f64 f3) ∧ w'.cell? ⟨w.heap.size + 1, 4, none⟩ = some (.float .f64 f4) ∧ Below w.heap.size w w') (go_keep)
      ((first
      | (go_at_call 30; refine (toMotion_any _ _ _ _ _).mono ?_; rintro e w3 ⟨rfl, b3⟩; have H3 := heldK9_call (by assumption) b3; (first | (have hs := held_still_4 ⟨s0, s1, s2, s3, g0, g1, g2, g3, ls⟩ b3; obtain ⟨s0, s1, s2, s3, g0, g1, g2, g3, ls⟩ := hs) | (have hs := held_new_4 b3; obtain ⟨s0, s1, s2, s3, g0, g1, g2, g3, ls⟩ := hs) | (have hs := held_newD_4 b3; obtain ⟨s0, s1, s2, s3, g0, g1, g2, g3, ls⟩ := hs) | skip); obtain ⟨c0, c1, c2, c3, c4, c5, c6, c7, c8, bb⟩ := H3; have z3 := bb.size; have n0 := World.new_ne w3 _ c0; have n2 := World.new_ne w3 _ c4; clear b3)
      | (go_at_call 31; refine (toForces_any _ _ _ _ _ _).mono ?_; rintro e w3 ⟨rfl, b3⟩; have H3 := heldK9_call (by assumption) b3; (first | (have hs := held_still_4 ⟨s0, s1, s2, s3, g0, g1, g2, g3, ls⟩ b3; obtain ⟨s0, s1, s2, s3, g0, g1, g2, g3, ls⟩ := hs) | (have hs := held_new_4 b3; obtain ⟨s0, s1, s2, s3, g0, g1, g2, g3, ls⟩ := hs) | (have hs := held_newD_4 b3; obtain ⟨s0, s1, s2, s3, g0, g1, g2, g3, ls⟩ := hs) | skip); obtain ⟨c0, c1, c2, c3, c4, c5, c6, c7, c8, bb⟩ := H3; have z3 := bb.size; have n0 := World.new_ne w3 _ c0; have n2 := World.new_ne w3 _ c4; clear b3)
      | (go_at_call 29; refine (specStepOnce_any _ _ _ _ _ _ _ _ _ _ _ _).mono ?_; rintro e w3 ⟨x0, x1, x2, x3, rfl, hx, b3⟩; have H3 := heldK9_call (by assumption) b3; (first | (have hs := held_still_4 ⟨s0, s1, s2, s3, g0, g1, g2, g3, ls⟩ b3; obtain ⟨s0, s1, s2, s3, g0, g1, g2, g3, ls⟩ := hs) | (have hs := held_new_4 b3; obtain ⟨s0, s1, s2, s3, g0, g1, g2, g3, ls⟩ := hs) | (have hs := held_newD_4 b3; obtain ⟨s0, s1, s2, s3, g0, g1, g2, g3, ls⟩ := hs) | skip); obtain ⟨c0, c1, c2, c3, c4, c5, c6, c7, c8, bb⟩ := H3; have z3 := bb.size; have n0 := World.new_ne w3 _ c0; have n2 := World.new_ne w3 _ c4; clear b3)))
    all_goals (
      go_wp2
      go_meet
      case rel => exact ⟨_, x0, x1, x2, x3, rfl, hx, by simp [go_sem, *], by simp [go_sem, *], by simp [go_sem, *], by simp [go_sem, *], by assumption⟩)
  case rest =>
    obtain ⟨S, x0, x1, x2, x3, rfl, hx, t0, t1, t2, t3, c0, c1, c2, c3, c4, c5, c6, c7, c8, bb⟩ := hcut
    have z3 := bb.size
    have n0 := World.new_ne wc _ c0
    have n2 := World.new_ne wc _ c4
    have n4 := World.new_ne wc _ t0
    go_wp2_with fail
    go_cut [10] from 11 (fun s10 wd => ∃ S2 y0 y1 y2 y3, s10 = .pointer (some ⟨S2, 0, none⟩) ∧ moAlike ⟨y0, y1, y2, y3⟩ (stepM ⟨a0, a1, a2, a3⟩ ⟨f0, f1, f2, f3, f4⟩ el dt) ∧ wd.cell? ⟨S2, 0, none⟩ = some (.float .f64 y0) ∧ wd.cell? ⟨S2, 1, none⟩ = some (.float .f64 y1) ∧ wd.cell? ⟨S2, 2, none⟩ = some (.float .f64 y2) ∧ wd.cell? ⟨S2, 3, none⟩ = some (.float .f64 y3) ∧ wd.cell? ⟨w.heap.size, 0, none⟩ = some (.float .f64 a0) ∧ wd.cell? ⟨w.heap.size, 1, none⟩ = some (.float .f64 a1) ∧ wd.cell? ⟨w.heap.size, 2, none⟩ = some (.float .f64 a2) ∧ wd.cell? ⟨w.heap.size, 3, none⟩ = some (.float .f64 a3) ∧ wd.cell? ⟨w.heap.size + 1, 0, none⟩ = some (.float .f64 f0) ∧ wd.cell? ⟨w.heap.size + 1, 1, none⟩ = some (.float .f64 f1) ∧ wd.cell? ⟨w.heap.size + 1, 2, none⟩ = some (.float .f64 f2) ∧ wd.cell? ⟨w.heap.size + 1, 3, none⟩ = some (.float .f64 f3) ∧ wd.cell? ⟨w.heap.size + 1, 4, none⟩ = some (.float .f64 f4) ∧ wd.cell? ⟨S, 0, none⟩ = some (.float .f64 x0) ∧ wd.cell? ⟨S, 1, none⟩ = some (.float .f64 x1) ∧ wd.cell? ⟨S, 2, none⟩ = some (.float .f64 x2) ∧ wd.cell? ⟨S, 3, none⟩ = some (.float .f64 x3) ∧ Below w.heap.size w wd)
    case first =>
      go_region_held3 (fun w' => w'.cell? ⟨w.heap.size, 0, none⟩ = some (.float .f64 a0) ∧ w'.cell? ⟨w.heap.size, 1, none⟩ = some (.float .f64 a1) ∧ w'.cell? ⟨w.heap.size, 2, none⟩ = some (.float .f64 a2) ∧ w'.cell? ⟨w.heap.size, 3, none⟩ = some (.float .f64 a3) ∧ w'.cell? ⟨w.heap.size + 1, 0, none⟩ = some (.float .f64 f0) ∧ w'.cell? ⟨w.heap.size + 1, 1, none⟩ = some (.float .f64 f1) ∧ w'.cell? ⟨w.heap.size + 1, 2, none⟩ = some (.float .f64 f2) ∧ w'.cell? ⟨w.heap.size + 1, 3, none⟩ = some (.float .f64 f3) ∧ w'.cell? ⟨w.heap.size + 1, 4, none⟩ = some (.float .f64 f4) ∧ w'.cell? ⟨S, 0, none⟩ = some (.float .f64 x0) ∧ w'.cell? ⟨S, 1, none⟩ = some (.float .f64 x1) ∧ w'.cell? ⟨S, 2, none⟩ = some (.float .f64 x2) ∧ w'.cell? ⟨S, 3, none⟩ = some (.float .f64 x3) ∧ Below w.heap.size w w') (go_keep)
        ((first
        | (go_at_call 30; refine (toMotion_any _ _ _ _ _).mono ?_; rintro e w3 ⟨rfl, b3⟩; have H3 := heldK13_call (by assumption) b3; (first | (have hs := held_still_4 ⟨s0, s1, s2, s3, g0, g1, g2, g3, ls⟩ b3; obtain ⟨s0, s1, s2, s3, g0, g1, g2, g3, ls⟩ := hs) | (have hs := held_new_4 b3; obtain ⟨s0, s1, s2, s3, g0, g1, g2, g3, ls⟩ := hs) | (have hs := held_newD_4 b3; obtain ⟨s0, s1, s2, s3, g0, g1, g2, g3, ls⟩ := hs) | skip); obtain ⟨c0, c1, c2, c3, c4, c5, c6, c7, c8, t0, t1, t2, t3, bb⟩ := H3; have z3 := bb.size; have n0 := World.new_ne w3 _ c0; have n2 := World.new_ne w3 _ c4; have n4 := World.new_ne w3 _ t0; clear b3)
        | (go_at_call 31; refine (toForces_any _ _ _ _ _ _).mono ?_; rintro e w3 ⟨rfl, b3⟩; have H3 := heldK13_call (by assumption) b3; (first | (have hs := held_still_4 ⟨s0, s1, s2, s3, g0, g1, g2, g3, ls⟩ b3; obtain ⟨s0, s1, s2, s3, g0, g1, g2, g3, ls⟩ := hs) | (have hs := held_new_4 b3; obtain ⟨s0, s1, s2, s3, g0, g1, g2, g3, ls⟩ := hs) | (have hs := held_newD_4 b3; obtain ⟨s0, s1, s2, s3, g0, g1, g2, g3, ls⟩ := hs) | skip); obtain ⟨c0, c1, c2, c3, c4, c5, c6, c7, c8, t0, t1, t2, t3, bb⟩ := H3; have z3 := bb.size; have n0 := World.new_ne w3 _ c0; have n2 := World.new_ne w3 _ c4; have n4 := World.new_ne w3 _ t0; clear b3)
        | (go_at_call 32; refine (implStepOnce_any _ _ _ _ _ _ _ _ _ _ _ _).mono ?_; rintro e w3 ⟨y0, y1, y2, y3, rfl, hy, b3⟩; have H3 := heldK13_call (by assumption) b3; (first | (have hs := held_still_4 ⟨s0, s1, s2, s3, g0, g1, g2, g3, ls⟩ b3; obtain ⟨s0, s1, s2, s3, g0, g1, g2, g3, ls⟩ := hs) | (have hs := held_new_4 b3; obtain ⟨s0, s1, s2, s3, g0, g1, g2, g3, ls⟩ := hs) | (have hs := held_newD_4 b3; obtain ⟨s0, s1, s2, s3, g0, g1, g2, g3, ls⟩ := hs) | skip); obtain ⟨c0, c1, c2, c3, c4, c5, c6, c7, c8, t0, t1, t2, t3, bb⟩ := H3; have z3 := bb.size; have n0 := World.new_ne w3 _ c0; have n2 := World.new_ne w3 _ c4; have n4 := World.new_ne w3 _ t0; clear b3)))
      all_goals (
        go_wp2
        go_meet
        case rel => exact ⟨_, y0, y1, y2, y3, rfl, hy, by simp [go_sem, *], by simp [go_sem, *], by simp [go_sem, *], by simp [go_sem, *], by assumption⟩)
    case rest =>
      obtain ⟨S2, y0, y1, y2, y3, rfl, hy, u0, u1, u2, u3, c0, c1, c2, c3, c4, c5, c6, c7, c8, t0, t1, t2, t3, bb⟩ := hcut
      have BB := hide bb
      clear bb
      go_wp2_with fail
      refine (eqMotion_alike _ _ _ _ _ _ _ _ _ (hy.trans hx.symm)).mono ?_
      rintro e w5 ⟨rfl, b5⟩
      have B5 := hide ((unhide BB).trans (b5.mono (unhide BB).size))
      clear b5
      go_wp2
      go_ret
      exact ⟨rfl, unhide B5⟩

end Go.Proofs.Ytgihdklgmndeeam
