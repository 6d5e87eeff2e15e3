/-
  The law FnExactFlutter returns true at every four complex numbers and writes nothing that was there: the walk. No condition.
-/
import Derived.Test.YthdadhebpcndeamCxTo
import Derived.Test.YthdadhebpcndeamFlut
import Derived.Test.YthdadhebpcndeamHeld2
import Derived.Deep.Cut
namespace Go.Proofs.Ythdadhebpcndeam
open Go.RowKit
attribute [local go_sem] run_store_float run_store_complex

set_option maxRecDepth 20000 in
set_option maxHeartbeats 40000000 in
theorem lawFlutter (a b c d e f g h : Nat) (w : World) :
    Calls Try.prog 7 #[.agg #[.float .f64 a, .float .f64 b], .agg #[.float .f64 c, .float .f64 d], .agg #[.float .f64 e, .float .f64 f], .agg #[.float .f64 g, .float .f64 h]] w fun r w' => r = .returned (.bool true) ∧ Below w.heap.size w w' := by
  have hA := bel_al w
  have hD := bel_dr w
  have hS := bel_st w
  have hS2 := bel_st2 w
  have hSA := bel_st2a w
  have hAD := bel_aad w
  have hC := cell_al
  have hF := frozen_al
  go_enter Try.func7, Try.ntmps7
  go_wp2
  obtain ⟨w1, hw1⟩ : ∃ w1, w1 = ((((w.alloc (Obj.cells #[.float .f64 a, .float .f64 b] 25)).alloc (Obj.cells #[.float .f64 c, .float .f64 d] 25)).alloc (Obj.cells #[.float .f64 e, .float .f64 f] 25)).alloc (Obj.cells #[.float .f64 g, .float .f64 h] 25)) := ⟨_, rfl⟩
  rw [← hw1]
  have c0 : w1.cell? ⟨w.heap.size, 0, none⟩ = some (.float .f64 a) := by rw [hw1]; simp [go_sem]
  have c1 : w1.cell? ⟨w.heap.size, 1, none⟩ = some (.float .f64 b) := by rw [hw1]; simp [go_sem]
  have c2 : w1.cell? ⟨w.heap.size + 1, 0, none⟩ = some (.float .f64 c) := by rw [hw1]; simp [go_sem]
  have c3 : w1.cell? ⟨w.heap.size + 1, 1, none⟩ = some (.float .f64 d) := by rw [hw1]; simp [go_sem]
  have c4 : w1.cell? ⟨w.heap.size + 1 + 1, 0, none⟩ = some (.float .f64 e) := by rw [hw1]; simp [go_sem]
  have c5 : w1.cell? ⟨w.heap.size + 1 + 1, 1, none⟩ = some (.float .f64 f) := by rw [hw1]; simp [go_sem]
  have c6 : w1.cell? ⟨w.heap.size + 1 + 1 + 1, 0, none⟩ = some (.float .f64 g) := by rw [hw1]; simp [go_sem]
  have c7 : w1.cell? ⟨w.heap.size + 1 + 1 + 1, 1, none⟩ = some (.float .f64 h) := by rw [hw1]; simp [go_sem]
  have bb : Below w.heap.size w w1 := by
    rw [hw1]
    exact (bel3 _ _ _).alloc (by simp; omega) _
  have z3 := bb.size
  have z4 : w.heap.size ≤ w1.heap.size + 1 := Nat.le_add_right_of_le z3
  have q0 := far_of c0
  have q2 := far_of c2
  have q4 := far_of c4
  have q6 := far_of c6
  clear hw1
  go_cut [9, 10] from 13 (fun s9 s10 wc => ∃ S Z x y x' y', s9 = .pointer (some ⟨S, 0, none⟩) ∧ s10 = .pointer (some ⟨Z, 0, none⟩) ∧ Alike .f64 x (detX a b c d e f g h) ∧ Alike .f64 y (detY a b c d e f g h) ∧ Alike .f64 x' (fl .add .f64 a g) ∧ Alike .f64 y' (fl .add .f64 b h) ∧ wc.cell? ⟨S, 0, none⟩ = some (.float .f64 x) ∧ wc.cell? ⟨S, 1, none⟩ = some (.float .f64 y) ∧ wc.cell? ⟨Z, 0, none⟩ = some (.float .f64 x') ∧ wc.cell? ⟨Z, 1, none⟩ = some (.float .f64 y') ∧ wc.cell? ⟨w.heap.size, 0, none⟩ = some (.float .f64 a) ∧ wc.cell? ⟨w.heap.size, 1, none⟩ = some (.float .f64 b) ∧ wc.cell? ⟨w.heap.size + 1, 0, none⟩ = some (.float .f64 c) ∧ wc.cell? ⟨w.heap.size + 1, 1, none⟩ = some (.float .f64 d) ∧ wc.cell? ⟨w.heap.size + 1 + 1, 0, none⟩ = some (.float .f64 e) ∧ wc.cell? ⟨w.heap.size + 1 + 1, 1, none⟩ = some (.float .f64 f) ∧ wc.cell? ⟨w.heap.size + 1 + 1 + 1, 0, none⟩ = some (.float .f64 g) ∧ wc.cell? ⟨w.heap.size + 1 + 1 + 1, 1, none⟩ = some (.float .f64 h) ∧ Below w.heap.size w wc)
  case first =>
    go_region_held3 (fun w' => w'.cell? ⟨w.heap.size, 0, none⟩ = some (.float .f64 a) ∧ w'.cell? ⟨w.heap.size, 1, none⟩ = some (.float .f64 b) ∧ w'.cell? ⟨w.heap.size + 1, 0, none⟩ = some (.float .f64 c) ∧ w'.cell? ⟨w.heap.size + 1, 1, none⟩ = some (.float .f64 d) ∧ w'.cell? ⟨w.heap.size + 1 + 1, 0, none⟩ = some (.float .f64 e) ∧ w'.cell? ⟨w.heap.size + 1 + 1, 1, none⟩ = some (.float .f64 f) ∧ w'.cell? ⟨w.heap.size + 1 + 1 + 1, 0, none⟩ = some (.float .f64 g) ∧ w'.cell? ⟨w.heap.size + 1 + 1 + 1, 1, none⟩ = some (.float .f64 h) ∧ Below w.heap.size w w') (go_keep)
      ((first
        | (go_at_call 11; refine (toCx_any _ _ _).mono ?_; rintro r w3 ⟨rfl, b3⟩; have H3 := heldN8_call (by assumption) b3; (first | (have h2 := held_new2 b3; obtain ⟨hs, ht⟩ := h2; obtain ⟨s0, s1, f0, f1, ls⟩ := hs; obtain ⟨t0, t1, e0, e1, lt⟩ := ht; have ns := far_lt ls; have nt := far_lt lt) | (have h2 := held_new2D b3; obtain ⟨hs, ht⟩ := h2; obtain ⟨s0, s1, f0, f1, ls⟩ := hs; obtain ⟨t0, t1, e0, e1, lt⟩ := ht; have ns := far_lt ls; have nt := far_lt lt) | (have hs := held_still ⟨s0, s1, f0, f1, ls⟩ b3; have ht := held_still ⟨t0, t1, e0, e1, lt⟩ b3; obtain ⟨s0, s1, f0, f1, ls⟩ := hs; obtain ⟨t0, t1, e0, e1, lt⟩ := ht; have ns := far_lt ls; have nt := far_lt lt) | (have hs := held_stillA ⟨s0, s1, f0, f1, ls⟩ b3; have ht := held_new b3; obtain ⟨s0, s1, f0, f1, ls⟩ := hs; obtain ⟨t0, t1, e0, e1, lt⟩ := ht; have ns := far_lt ls; have nt := far_lt lt) | (have hs := held_still ⟨s0, s1, f0, f1, ls⟩ b3; obtain ⟨s0, s1, f0, f1, ls⟩ := hs; have ns := far_lt ls) | (have hs := held_new b3; obtain ⟨s0, s1, f0, f1, ls⟩ := hs; have ns := far_lt ls) | (have hs := held_newD b3; obtain ⟨s0, s1, f0, f1, ls⟩ := hs; have ns := far_lt ls) | skip); have z3 := H3.2.2.2.2.2.2.2.2.size; have z4 : w.heap.size ≤ w3.heap.size + 1 := Nat.le_add_right_of_le z3; have q0 := far_of H3.1; have q2 := far_of H3.2.2.1; have q4 := far_of H3.2.2.2.2.1; have q6 := far_of H3.2.2.2.2.2.2.1; clear b3)
        | (go_at_call 26; refine (specFlutter_any _ _ _ _ _ _ _ _ _).mono ?_; rintro r w3 ⟨x, y, x', y', rfl, g1, g2, g3, g4, b3⟩; have H3 := heldN8_call (by assumption) b3; (first | (have h2 := held_new2 b3; obtain ⟨hs, ht⟩ := h2; obtain ⟨s0, s1, f0, f1, ls⟩ := hs; obtain ⟨t0, t1, e0, e1, lt⟩ := ht; have ns := far_lt ls; have nt := far_lt lt) | (have h2 := held_new2D b3; obtain ⟨hs, ht⟩ := h2; obtain ⟨s0, s1, f0, f1, ls⟩ := hs; obtain ⟨t0, t1, e0, e1, lt⟩ := ht; have ns := far_lt ls; have nt := far_lt lt) | (have hs := held_still ⟨s0, s1, f0, f1, ls⟩ b3; have ht := held_still ⟨t0, t1, e0, e1, lt⟩ b3; obtain ⟨s0, s1, f0, f1, ls⟩ := hs; obtain ⟨t0, t1, e0, e1, lt⟩ := ht; have ns := far_lt ls; have nt := far_lt lt) | (have hs := held_stillA ⟨s0, s1, f0, f1, ls⟩ b3; have ht := held_new b3; obtain ⟨s0, s1, f0, f1, ls⟩ := hs; obtain ⟨t0, t1, e0, e1, lt⟩ := ht; have ns := far_lt ls; have nt := far_lt lt) | (have hs := held_still ⟨s0, s1, f0, f1, ls⟩ b3; obtain ⟨s0, s1, f0, f1, ls⟩ := hs; have ns := far_lt ls) | (have hs := held_new b3; obtain ⟨s0, s1, f0, f1, ls⟩ := hs; have ns := far_lt ls) | (have hs := held_newD b3; obtain ⟨s0, s1, f0, f1, ls⟩ := hs; have ns := far_lt ls) | skip); have z3 := H3.2.2.2.2.2.2.2.2.size; have z4 : w.heap.size ≤ w3.heap.size + 1 := Nat.le_add_right_of_le z3; have q0 := far_of H3.1; have q2 := far_of H3.2.2.1; have q4 := far_of H3.2.2.2.2.1; have q6 := far_of H3.2.2.2.2.2.2.1; clear b3)))
    all_goals (
      go_wp2
      go_meet
      case rel => exact ⟨_, _, x, y, x', y', rfl, rfl, g1, g2, g3, g4, by simp [go_sem, *], by simp [go_sem, *], by simp [go_sem, *], by simp [go_sem, *], by assumption⟩)
  case rest =>
    obtain ⟨S, Z, x, y, x', y', rfl, rfl, g1, g2, g3, g4, t0, t1, t2, t3, c0, c1, c2, c3, c4, c5, c6, c7, bb⟩ := hcut
    have z3 := bb.size
    have z4 : w.heap.size ≤ wc.heap.size + 1 := Nat.le_add_right_of_le z3
    have q0 := far_of c0
    have q2 := far_of c2
    have q4 := far_of c4
    have q6 := far_of c6
    have q8 := far_of t0
    have q10 := far_of t2
    go_wp2_with fail
    go_cut [11, 12] from 13 (fun s11 s12 wd => ∃ S2 Z2 x2 y2 x3 y3, s11 = .pointer (some ⟨S2, 0, none⟩) ∧ s12 = .pointer (some ⟨Z2, 0, none⟩) ∧ Alike .f64 x2 (detX a b c d e f g h) ∧ Alike .f64 y2 (detY a b c d e f g h) ∧ Alike .f64 x3 (fl .add .f64 a g) ∧ Alike .f64 y3 (fl .add .f64 b h) ∧ wd.cell? ⟨S2, 0, none⟩ = some (.float .f64 x2) ∧ wd.cell? ⟨S2, 1, none⟩ = some (.float .f64 y2) ∧ wd.cell? ⟨Z2, 0, none⟩ = some (.float .f64 x3) ∧ wd.cell? ⟨Z2, 1, none⟩ = some (.float .f64 y3) ∧ wd.cell? ⟨w.heap.size, 0, none⟩ = some (.float .f64 a) ∧ wd.cell? ⟨w.heap.size, 1, none⟩ = some (.float .f64 b) ∧ wd.cell? ⟨w.heap.size + 1, 0, none⟩ = some (.float .f64 c) ∧ wd.cell? ⟨w.heap.size + 1, 1, none⟩ = some (.float .f64 d) ∧ wd.cell? ⟨w.heap.size + 1 + 1, 0, none⟩ = some (.float .f64 e) ∧ wd.cell? ⟨w.heap.size + 1 + 1, 1, none⟩ = some (.float .f64 f) ∧ wd.cell? ⟨w.heap.size + 1 + 1 + 1, 0, none⟩ = some (.float .f64 g) ∧ wd.cell? ⟨w.heap.size + 1 + 1 + 1, 1, none⟩ = some (.float .f64 h) ∧ wd.cell? ⟨S, 0, none⟩ = some (.float .f64 x) ∧ wd.cell? ⟨S, 1, none⟩ = some (.float .f64 y) ∧ wd.cell? ⟨Z, 0, none⟩ = some (.float .f64 x') ∧ wd.cell? ⟨Z, 1, none⟩ = some (.float .f64 y') ∧ Below w.heap.size w wd)
    case first =>
      go_region_held3 (fun w' => w'.cell? ⟨w.heap.size, 0, none⟩ = some (.float .f64 a) ∧ w'.cell? ⟨w.heap.size, 1, none⟩ = some (.float .f64 b) ∧ w'.cell? ⟨w.heap.size + 1, 0, none⟩ = some (.float .f64 c) ∧ w'.cell? ⟨w.heap.size + 1, 1, none⟩ = some (.float .f64 d) ∧ w'.cell? ⟨w.heap.size + 1 + 1, 0, none⟩ = some (.float .f64 e) ∧ w'.cell? ⟨w.heap.size + 1 + 1, 1, none⟩ = some (.float .f64 f) ∧ w'.cell? ⟨w.heap.size + 1 + 1 + 1, 0, none⟩ = some (.float .f64 g) ∧ w'.cell? ⟨w.heap.size + 1 + 1 + 1, 1, none⟩ = some (.float .f64 h) ∧ w'.cell? ⟨S, 0, none⟩ = some (.float .f64 x) ∧ w'.cell? ⟨S, 1, none⟩ = some (.float .f64 y) ∧ w'.cell? ⟨Z, 0, none⟩ = some (.float .f64 x') ∧ w'.cell? ⟨Z, 1, none⟩ = some (.float .f64 y') ∧ Below w.heap.size w w') (go_keep)
        ((first
        | (go_at_call 11; refine (toCx_any _ _ _).mono ?_; rintro r w3 ⟨rfl, b3⟩; have H3 := heldN12_call (by assumption) b3; (first | (have h2 := held_new2 b3; obtain ⟨hs, ht⟩ := h2; obtain ⟨s0, s1, f0, f1, ls⟩ := hs; obtain ⟨t0, t1, e0, e1, lt⟩ := ht; have ns := far_lt ls; have nt := far_lt lt) | (have h2 := held_new2D b3; obtain ⟨hs, ht⟩ := h2; obtain ⟨s0, s1, f0, f1, ls⟩ := hs; obtain ⟨t0, t1, e0, e1, lt⟩ := ht; have ns := far_lt ls; have nt := far_lt lt) | (have hs := held_still ⟨s0, s1, f0, f1, ls⟩ b3; have ht := held_still ⟨t0, t1, e0, e1, lt⟩ b3; obtain ⟨s0, s1, f0, f1, ls⟩ := hs; obtain ⟨t0, t1, e0, e1, lt⟩ := ht; have ns := far_lt ls; have nt := far_lt lt) | (have hs := held_stillA ⟨s0, s1, f0, f1, ls⟩ b3; have ht := held_new b3; obtain ⟨s0, s1, f0, f1, ls⟩ := hs; obtain ⟨t0, t1, e0, e1, lt⟩ := ht; have ns := far_lt ls; have nt := far_lt lt) | (have hs := held_still ⟨s0, s1, f0, f1, ls⟩ b3; obtain ⟨s0, s1, f0, f1, ls⟩ := hs; have ns := far_lt ls) | (have hs := held_new b3; obtain ⟨s0, s1, f0, f1, ls⟩ := hs; have ns := far_lt ls) | (have hs := held_newD b3; obtain ⟨s0, s1, f0, f1, ls⟩ := hs; have ns := far_lt ls) | skip); have z3 := H3.2.2.2.2.2.2.2.2.2.2.2.2.size; have z4 : w.heap.size ≤ w3.heap.size + 1 := Nat.le_add_right_of_le z3; have q0 := far_of H3.1; have q2 := far_of H3.2.2.1; have q4 := far_of H3.2.2.2.2.1; have q6 := far_of H3.2.2.2.2.2.2.1; have q8 := far_of H3.2.2.2.2.2.2.2.2.1; have q10 := far_of H3.2.2.2.2.2.2.2.2.2.2.1; clear b3)
        | (go_at_call 27; refine (implFlutter_any _ _ _ _ _ _ _ _ _).mono ?_; rintro r w3 ⟨x2, y2, x3, y3, rfl, j1, j2, j3, j4, b3⟩; have H3 := heldN12_call (by assumption) b3; (first | (have h2 := held_new2 b3; obtain ⟨hs, ht⟩ := h2; obtain ⟨s0, s1, f0, f1, ls⟩ := hs; obtain ⟨t0, t1, e0, e1, lt⟩ := ht; have ns := far_lt ls; have nt := far_lt lt) | (have h2 := held_new2D b3; obtain ⟨hs, ht⟩ := h2; obtain ⟨s0, s1, f0, f1, ls⟩ := hs; obtain ⟨t0, t1, e0, e1, lt⟩ := ht; have ns := far_lt ls; have nt := far_lt lt) | (have hs := held_still ⟨s0, s1, f0, f1, ls⟩ b3; have ht := held_still ⟨t0, t1, e0, e1, lt⟩ b3; obtain ⟨s0, s1, f0, f1, ls⟩ := hs; obtain ⟨t0, t1, e0, e1, lt⟩ := ht; have ns := far_lt ls; have nt := far_lt lt) | (have hs := held_stillA ⟨s0, s1, f0, f1, ls⟩ b3; have ht := held_new b3; obtain ⟨s0, s1, f0, f1, ls⟩ := hs; obtain ⟨t0, t1, e0, e1, lt⟩ := ht; have ns := far_lt ls; have nt := far_lt lt) | (have hs := held_still ⟨s0, s1, f0, f1, ls⟩ b3; obtain ⟨s0, s1, f0, f1, ls⟩ := hs; have ns := far_lt ls) | (have hs := held_new b3; obtain ⟨s0, s1, f0, f1, ls⟩ := hs; have ns := far_lt ls) | (have hs := held_newD b3; obtain ⟨s0, s1, f0, f1, ls⟩ := hs; have ns := far_lt ls) | skip); have z3 := H3.2.2.2.2.2.2.2.2.2.2.2.2.size; have z4 : w.heap.size ≤ w3.heap.size + 1 := Nat.le_add_right_of_le z3; have q0 := far_of H3.1; have q2 := far_of H3.2.2.1; have q4 := far_of H3.2.2.2.2.1; have q6 := far_of H3.2.2.2.2.2.2.1; have q8 := far_of H3.2.2.2.2.2.2.2.2.1; have q10 := far_of H3.2.2.2.2.2.2.2.2.2.2.1; clear b3)))
      all_goals (
        go_wp2
        go_meet
        case rel => exact ⟨_, _, x2, y2, x3, y3, rfl, rfl, j1, j2, j3, j4, by simp [go_sem, *], by simp [go_sem, *], by simp [go_sem, *], by simp [go_sem, *], by assumption⟩)
    case rest =>
      obtain ⟨S2, Z2, x2, y2, x3, y3, rfl, rfl, j1, j2, j3, j4, u0, u1, u2, u3, c0, c1, c2, c3, c4, c5, c6, c7, t0, t1, t2, t3, bb⟩ := hcut
      have BB := hide bb
      have G1 := hide (j1.trans g1.symm)
      have G2 := hide (j2.trans g2.symm)
      have G3 := hide (j3.trans g3.symm)
      have G4 := hide (j4.trans g4.symm)
      clear bb c0 c1 c2 c3 c4 c5 c6 c7 j1 j2 j3 j4 g1 g2 g3 g4
      go_wp2_with fail
      refine (eqCx_alike _ _ _ _ _ (unhide G1) (unhide G2)).mono ?_
      rintro r w5 ⟨rfl, b5⟩
      have u2 := (b5.cell (block_lt_of_cell u2)).trans u2
      have u3 := (b5.cell (block_lt_of_cell u3)).trans u3
      have t2 := (b5.cell (block_lt_of_cell t2)).trans t2
      have t3 := (b5.cell (block_lt_of_cell t3)).trans t3
      have B5 := hide ((unhide BB).trans (b5.mono (unhide BB).size))
      clear b5
      go_wp2_with fail
      refine (eqCx_alike _ _ _ _ _ (unhide G3) (unhide G4)).mono ?_
      rintro r w6 ⟨rfl, b6⟩
      have B6 := hide ((unhide B5).trans (b6.mono (unhide B5).size))
      clear b6
      go_wp2
      go_ret
      exact ⟨rfl, unhide B6⟩

end Go.Proofs.Ythdadhebpcndeam
