/-
  The law FnExactPoly returns true at every list of complex numbers and every complex number and writes nothing that was there: the walk. No condition.
-/
import Derived.Test.YthdadhebpcndeamCxRow
import Derived.Test.YthdadhebpcndeamCxHeld
import Derived.Test.YthdadhebpcndeamPolySpec
import Derived.Test.YthdadhebpcndeamPolyImpl
import Derived.Deep.Cut
namespace Go.Proofs.Ythdadhebpcndeam
open Go.RowKit
attribute [local go_sem] run_store_float run_store_complex

theorem held2_bel {w W : World} {p : Nat} {a b : Value} (h : W.cell? ⟨p, 0, none⟩ = some a ∧ W.cell? ⟨p, 1, none⟩ = some b ∧ Below w.heap.size w W) : Below w.heap.size w W := h.2.2

set_option maxHeartbeats 8000000 in
theorem lawPoly (ad : Option Addr) (len cap : Nat) (ps : List (Nat × Nat)) (c d : Nat) (w : World) (hr : RowC w ad len ps) :
    Calls Try.prog 3 #[.slice ad len cap, .agg #[.float .f64 c, .float .f64 d]] w fun e w' => e = .returned (.bool true) ∧ Below w.heap.size w w' := by
  have R := hide hr
  have hm := hr.small
  clear hr
  by_cases g : (1048576 : Int) < len
  · go_enter Try.func3, Try.ntmps3
    go_wp2_with fail
    refine (szCxS_no _ _ _ _ _ (by omega) (by omega) (by omega) (by omega)).mono ?_
    rintro e w' ⟨rfl, hw⟩
    subst w'
    go_wp2_with fail
    go_ret
    exact ⟨rfl, bel1 _⟩
  · have hl : len ≤ 1048576 := by omega
    have hq : (polyB ps != polyB ps) = false := by simp
    have hA := bel_al w
    have hD := bel_dr w
    have hS := bel_st w
    go_enter Try.func3, Try.ntmps3
    go_wp2_with fail
    refine (szCxS_yes _ _ _ _ _ (by omega) (by omega)).mono ?_
    rintro e w' ⟨rfl, hw⟩
    subst w'
    go_wp2_with fail
    obtain ⟨w1, hw1⟩ : ∃ w1, w1 = w.alloc (Obj.cells #[.float .f64 c, .float .f64 d] 25) := ⟨_, rfl⟩
    rw [← hw1]
    have c0 : w1.cell? ⟨w.heap.size, 0, none⟩ = some (.float .f64 c) := by rw [hw1]; simp [go_sem]
    have c1 : w1.cell? ⟨w.heap.size, 1, none⟩ = some (.float .f64 d) := by rw [hw1]; simp [go_sem]
    have bb : Below w.heap.size w w1 := by rw [hw1]; exact bel1 _
    have z3 := bb.size
    have n0 := World.new_ne w1 _ c0
    clear hw1
    go_cut [6, 7] from 11 (fun s6 s7 wc => ∃ S x y, s7 = .bool (polyB ps) ∧ s6 = .pointer (some ⟨S, 0, none⟩) ∧ Alike .f64 x (polyX ps c d) ∧ Alike .f64 y (polyY ps c d) ∧ wc.cell? ⟨S, 0, none⟩ = some (.float .f64 x) ∧ wc.cell? ⟨S, 1, none⟩ = some (.float .f64 y) ∧ wc.cell? ⟨w.heap.size, 0, none⟩ = some (.float .f64 c) ∧ wc.cell? ⟨w.heap.size, 1, none⟩ = some (.float .f64 d) ∧ Below w.heap.size w wc)
    case first =>
      go_region_held3 (fun w' => w'.cell? ⟨w.heap.size, 0, none⟩ = some (.float .f64 c) ∧ w'.cell? ⟨w.heap.size, 1, none⟩ = some (.float .f64 d) ∧ Below w.heap.size w w') (go_keep)
        ((first
          | (go_at_call 10; refine (toCxS_any _ _ _ ps _ ((unhide R).below (held2_bel (by assumption))) hl).mono ?_; rintro e w3 ⟨rfl, q3, b3⟩; have H3 := held2_call (by assumption) b3; (first | (have hs := held_still ⟨s0, s1, f0, f1, ls⟩ b3; obtain ⟨s0, s1, f0, f1, ls⟩ := hs) | (have hs := held_new b3; obtain ⟨s0, s1, f0, f1, ls⟩ := hs) | (have hs := held_newD b3; obtain ⟨s0, s1, f0, f1, ls⟩ := hs) | skip); (try simp at q3); have Q := hide q3; clear q3; obtain ⟨c0, c1, bb⟩ := H3; have z3 := bb.size; have n0 := World.new_ne w3 _ c0; clear b3)
          | (go_at_call 11; refine (toCx_any _ _ _).mono ?_; rintro e w3 ⟨rfl, b3⟩; have H3 := held2_call (by assumption) b3; (first | (have hs := held_still ⟨s0, s1, f0, f1, ls⟩ b3; obtain ⟨s0, s1, f0, f1, ls⟩ := hs) | (have hs := held_new b3; obtain ⟨s0, s1, f0, f1, ls⟩ := hs) | (have hs := held_newD b3; obtain ⟨s0, s1, f0, f1, ls⟩ := hs) | skip); have Q := hide (show RowC w3 _ _ ps from by first | exact (unhide Q).below b3 | exact ((unhide Q).alloc _).below b3); obtain ⟨c0, c1, bb⟩ := H3; have z3 := bb.size; have n0 := World.new_ne w3 _ c0; clear b3)
          | (go_at_call 9; refine (specPoly_any _ _ _ ps _ _ _ (by first | exact unhide Q | exact (unhide Q).alloc _)).mono ?_; rintro e w3 ⟨x, y, rfl, hx, hy, b3⟩; have H3 := held2_call (by assumption) b3; (first | (have hs := held_still ⟨s0, s1, f0, f1, ls⟩ b3; obtain ⟨s0, s1, f0, f1, ls⟩ := hs) | (have hs := held_new b3; obtain ⟨s0, s1, f0, f1, ls⟩ := hs) | (have hs := held_newD b3; obtain ⟨s0, s1, f0, f1, ls⟩ := hs) | skip); obtain ⟨c0, c1, bb⟩ := H3; have z3 := bb.size; have n0 := World.new_ne w3 _ c0; clear b3)))
      all_goals (
        go_wp2
        go_meet
        case rel => exact ⟨_, x, y, rfl, rfl, hx, hy, by simp [go_sem, *], by simp [go_sem, *], by assumption⟩)
    case rest =>
      obtain ⟨S, x, y, rfl, rfl, hx, hy, t0, t1, c0, c1, bb⟩ := hcut
      have BB := hide bb
      clear bb
      go_wp2_with fail
      refine (toCxS_any _ _ _ ps _ ((unhide R).below (unhide BB)) hl).mono ?_
      rintro e w2 ⟨rfl, q2, b2⟩
      have c0 := (b2.cell (block_lt_of_cell c0)).trans c0
      have c1 := (b2.cell (block_lt_of_cell c1)).trans c1
      have t0 := (b2.cell (block_lt_of_cell t0)).trans t0
      have t1 := (b2.cell (block_lt_of_cell t1)).trans t1
      have B2 := hide ((unhide BB).trans (b2.mono (unhide BB).size))
      have Q2 := hide q2
      clear b2 q2 BB
      go_wp2_with fail
      refine (toCx_any _ _ _).mono ?_
      rintro e w3 ⟨rfl, b3⟩
      have t0 := (b3.cell (block_lt_of_cell t0)).trans t0
      have t1 := (b3.cell (block_lt_of_cell t1)).trans t1
      have B3 := hide ((unhide B2).trans (b3.mono (unhide B2).size))
      have Q3 := hide ((unhide Q2).below b3)
      clear b3 B2 Q2 c0 c1
      go_wp2_with fail
      refine (implPoly_any _ _ _ ps _ _ _ (unhide Q3)).mono ?_
      rintro e w4 ⟨x2, y2, rfl, gx, gy, b4⟩
      have t0 := (b4.cell (block_lt_of_cell t0)).trans t0
      have t1 := (b4.cell (block_lt_of_cell t1)).trans t1
      have B4 := hide ((unhide B3).trans (b4.mono (unhide B3).size))
      have Q4 := hide (((unhide Q3).below b4).alloc (Obj.cells #[.float .f64 x2, .float .f64 y2] 27))
      have e2 : (w4.alloc (Obj.cells #[.float .f64 x2, .float .f64 y2] 27)).cell? ⟨S, 0, none⟩ = some (.float .f64 x) := by simp [World.cell?_alloc_some, t0]
      have e3 : (w4.alloc (Obj.cells #[.float .f64 x2, .float .f64 y2] 27)).cell? ⟨S, 1, none⟩ = some (.float .f64 y) := by simp [World.cell?_alloc_some, t1]
      have B5 := hide ((unhide B4).alloc (unhide B4).size (Obj.cells #[.float .f64 x2, .float .f64 y2] 27))
      clear b4 B3 Q3
      go_wp2_with fail
      refine (eqCx_alike _ _ _ _ _ (gx.trans hx.symm) (gy.trans hy.symm)).mono ?_
      rintro e w5 ⟨rfl, b5⟩
      have B6 := hide ((unhide B5).trans (b5.mono (unhide B5).size))
      have Q6 := hide ((unhide Q4).below b5)
      clear b5 B5 B4 Q4 e2 e3 t0 t1
      go_wp2_with fail
      refine (toCxS_any _ _ _ ps _ ((unhide R).below (unhide B6)) hl).mono ?_
      rintro e w6 ⟨rfl, q6, b6⟩
      have Q7 := hide ((unhide Q6).below b6)
      have B7 := hide ((unhide B6).trans (b6.mono (unhide B6).size))
      have Q8 := hide q6
      clear b6 q6 Q6 B6
      go_wp2_with fail
      refine (eqCxS_alike _ _ _ _ _ _ ps ps _ (unhide Q7) (unhide Q8) rfl (fun _ _ => ⟨.refl _ _, .refl _ _⟩)).mono ?_
      rintro e w7 ⟨rfl, b7⟩
      have B8 := hide ((unhide B7).trans (b7.mono (unhide B7).size))
      clear b7
      go_wp2_with fail
      go_ret
      exact ⟨rfl, unhide B8⟩

end Go.Proofs.Ythdadhebpcndeam
