/-
  The law FnExactCxOver returns true at every two complex numbers and writes nothing that was there: the walk. No condition.
-/
import Derived.Test.YthdadhebpcndealCxTo
import Derived.Test.YthdadhebpcndealOverSpec
import Derived.Test.YthdadhebpcndealOverImpl
import Derived.Test.YthdadhebpcndealCxHeld
import Derived.Deep.RegionHeld3
import Derived.Deep.Cut
namespace Go.Proofs.Ythdadhebpcndeal
open Go.RowKit
attribute [local go_sem] run_store_float run_store_complex

set_option maxHeartbeats 4000000 in
theorem lawCxOver (a b c d : Nat) (w : World) :
    Calls Try.prog 7 #[.agg #[.float .f64 a, .float .f64 b], .agg #[.float .f64 c, .float .f64 d]] w fun e w' => e = .returned (.bool true) ∧ Below w.heap.size w w' := by
  have hA := bel_al w
  have hD := bel_dr w
  have hS := bel_st w
  go_enter Try.func7, Try.ntmps7
  go_wp2
  obtain ⟨w1, hw1⟩ : ∃ w1, w1 = ((w.alloc (Obj.cells #[.float .f64 a, .float .f64 b] 24)).alloc (Obj.cells #[.float .f64 c, .float .f64 d] 24)) := ⟨_, rfl⟩
  rw [← hw1]
  have c0 : w1.cell? ⟨w.heap.size, 0, none⟩ = some (.float .f64 a) := by rw [hw1]; simp [go_sem]
  have c1 : w1.cell? ⟨w.heap.size, 1, none⟩ = some (.float .f64 b) := by rw [hw1]; simp [go_sem]
  have c2 : w1.cell? ⟨w.heap.size + 1, 0, none⟩ = some (.float .f64 c) := by rw [hw1]; simp [go_sem]
  have c3 : w1.cell? ⟨w.heap.size + 1, 1, none⟩ = some (.float .f64 d) := by rw [hw1]; simp [go_sem]
  have bb : Below w.heap.size w w1 := by rw [hw1]; exact bel2 _ _
  have z3 := bb.size
  have n0 := World.new_ne w1 _ c0
  have n2 := World.new_ne w1 _ c2
  clear hw1
  go_cut [5, 6] from 9 (fun s5 s6 wc => ∃ S x y, s6 = .bool (okOver a b c d) ∧ s5 = .pointer (some ⟨S, 0, none⟩) ∧ Alike .f64 x (reOver a b c d) ∧ Alike .f64 y (imOver a b c d) ∧ wc.cell? ⟨S, 0, none⟩ = some (.float .f64 x) ∧ wc.cell? ⟨S, 1, none⟩ = some (.float .f64 y) ∧ wc.cell? ⟨w.heap.size, 0, none⟩ = some (.float .f64 a) ∧ wc.cell? ⟨w.heap.size, 1, none⟩ = some (.float .f64 b) ∧ wc.cell? ⟨w.heap.size + 1, 0, none⟩ = some (.float .f64 c) ∧ wc.cell? ⟨w.heap.size + 1, 1, none⟩ = some (.float .f64 d) ∧ Below w.heap.size w wc)
  case first =>
    go_region_held3 (fun w' => w'.cell? ⟨w.heap.size, 0, none⟩ = some (.float .f64 a) ∧ w'.cell? ⟨w.heap.size, 1, none⟩ = some (.float .f64 b) ∧ w'.cell? ⟨w.heap.size + 1, 0, none⟩ = some (.float .f64 c) ∧ w'.cell? ⟨w.heap.size + 1, 1, none⟩ = some (.float .f64 d) ∧ Below w.heap.size w w') (go_keep)
      ((first
      | (go_at_call 10; refine (toCx_any _ _ _).mono ?_; rintro e w3 ⟨rfl, b3⟩; have H3 := held4_call (by assumption) b3; (first | (have hs := held_still ⟨s0, s1, f0, f1, ls⟩ b3; obtain ⟨s0, s1, f0, f1, ls⟩ := hs) | (have hs := held_new b3; obtain ⟨s0, s1, f0, f1, ls⟩ := hs) | (have hs := held_newD b3; obtain ⟨s0, s1, f0, f1, ls⟩ := hs) | skip); obtain ⟨c0, c1, c2, c3, bb⟩ := H3; have z3 := bb.size; have n0 := World.new_ne w3 _ c0; have n2 := World.new_ne w3 _ c2; clear b3)
      | (go_at_call 20; refine (specCxOver_any _ _ _ _ _).mono ?_; rintro e w3 ⟨x, y, rfl, hx, hy, b3⟩; have H3 := held4_call (by assumption) b3; (first | (have hs := held_still ⟨s0, s1, f0, f1, ls⟩ b3; obtain ⟨s0, s1, f0, f1, ls⟩ := hs) | (have hs := held_new b3; obtain ⟨s0, s1, f0, f1, ls⟩ := hs) | (have hs := held_newD b3; obtain ⟨s0, s1, f0, f1, ls⟩ := hs) | skip); obtain ⟨c0, c1, c2, c3, bb⟩ := H3; have z3 := bb.size; have n0 := World.new_ne w3 _ c0; have n2 := World.new_ne w3 _ c2; clear b3)))
    all_goals (
      go_wp2
      go_meet
      case rel => exact ⟨_, x, y, rfl, rfl, hx, hy, by simp [go_sem, *], by simp [go_sem, *], by assumption⟩)
  case rest =>
    obtain ⟨S, x, y, rfl, rfl, hx, hy, t0, t1, c0, c1, c2, c3, bb⟩ := hcut
    have z3 := bb.size
    have n0 := World.new_ne wc _ c0
    have n2 := World.new_ne wc _ c2
    have n4 := World.new_ne wc _ t0
    go_wp2_with fail
    go_cut [7, 8] from 9 (fun s7 s8 wd => ∃ S2 x2 y2, s8 = .bool (okOver a b c d) ∧ s7 = .pointer (some ⟨S2, 0, none⟩) ∧ Alike .f64 x2 (reOver a b c d) ∧ Alike .f64 y2 (imOver a b c d) ∧ wd.cell? ⟨S2, 0, none⟩ = some (.float .f64 x2) ∧ wd.cell? ⟨S2, 1, none⟩ = some (.float .f64 y2) ∧ wd.cell? ⟨w.heap.size, 0, none⟩ = some (.float .f64 a) ∧ wd.cell? ⟨w.heap.size, 1, none⟩ = some (.float .f64 b) ∧ wd.cell? ⟨w.heap.size + 1, 0, none⟩ = some (.float .f64 c) ∧ wd.cell? ⟨w.heap.size + 1, 1, none⟩ = some (.float .f64 d) ∧ wd.cell? ⟨S, 0, none⟩ = some (.float .f64 x) ∧ wd.cell? ⟨S, 1, none⟩ = some (.float .f64 y) ∧ Below w.heap.size w wd)
    case first =>
      go_region_held3 (fun w' => w'.cell? ⟨w.heap.size, 0, none⟩ = some (.float .f64 a) ∧ w'.cell? ⟨w.heap.size, 1, none⟩ = some (.float .f64 b) ∧ w'.cell? ⟨w.heap.size + 1, 0, none⟩ = some (.float .f64 c) ∧ w'.cell? ⟨w.heap.size + 1, 1, none⟩ = some (.float .f64 d) ∧ w'.cell? ⟨S, 0, none⟩ = some (.float .f64 x) ∧ w'.cell? ⟨S, 1, none⟩ = some (.float .f64 y) ∧ Below w.heap.size w w') (go_keep)
        ((first
        | (go_at_call 10; refine (toCx_any _ _ _).mono ?_; rintro e w3 ⟨rfl, b3⟩; have H3 := held6_call (by assumption) b3; (first | (have hs := held_still ⟨s0, s1, f0, f1, ls⟩ b3; obtain ⟨s0, s1, f0, f1, ls⟩ := hs) | (have hs := held_new b3; obtain ⟨s0, s1, f0, f1, ls⟩ := hs) | (have hs := held_newD b3; obtain ⟨s0, s1, f0, f1, ls⟩ := hs) | skip); obtain ⟨c0, c1, c2, c3, t0, t1, bb⟩ := H3; have z3 := bb.size; have n0 := World.new_ne w3 _ c0; have n2 := World.new_ne w3 _ c2; have n4 := World.new_ne w3 _ t0; clear b3)
        | (go_at_call 21; refine (implCxOver_any _ _ _ _ _).mono ?_; rintro e w3 ⟨x2, y2, rfl, gx, gy, b3⟩; have H3 := held6_call (by assumption) b3; (first | (have hs := held_still ⟨s0, s1, f0, f1, ls⟩ b3; obtain ⟨s0, s1, f0, f1, ls⟩ := hs) | (have hs := held_new b3; obtain ⟨s0, s1, f0, f1, ls⟩ := hs) | (have hs := held_newD b3; obtain ⟨s0, s1, f0, f1, ls⟩ := hs) | skip); obtain ⟨c0, c1, c2, c3, t0, t1, bb⟩ := H3; have z3 := bb.size; have n0 := World.new_ne w3 _ c0; have n2 := World.new_ne w3 _ c2; have n4 := World.new_ne w3 _ t0; clear b3)))
      all_goals (
        go_wp2
        go_meet
        case rel => exact ⟨_, x2, y2, rfl, rfl, gx, gy, by simp [go_sem, *], by simp [go_sem, *], by assumption⟩)
    case rest =>
      obtain ⟨S2, x2, y2, rfl, rfl, gx, gy, u0, u1, c0, c1, c2, c3, t0, t1, bb⟩ := hcut
      have BB := hide bb
      have hq : (okOver a b c d != okOver a b c d) = false := by simp
      clear bb
      go_wp2_with fail
      refine (eqCx_alike _ _ _ _ _ (gx.trans hx.symm) (gy.trans hy.symm)).mono ?_
      rintro e w5 ⟨rfl, b5⟩
      have B5 := hide ((unhide BB).trans (b5.mono (unhide BB).size))
      clear b5
      go_wp2
      go_ret
      exact ⟨rfl, unhide B5⟩

end Go.Proofs.Ythdadhebpcndeal
