/-
  The law FnExactAtGrid returns true at every grid and pair of whole numbers and writes nothing that was there: the walk. No condition.
-/
import Derived.Test.YtbaocifpifbldaiGridAtW
import Derived.Test.YtbaocifpifbldaiGridAtJ
import Derived.Deep.DrawnRows
namespace Go.Proofs.Ytbaocifpifbldai
open Go.RowKit
attribute [local go_sem ↓] Go.wp_at_zero Go.wp_at_succ

set_option maxHeartbeats 1000000 in
theorem eqFrac_same (a b : Int) (w : World) :
    Calls Try.prog 16 #[.agg #[.int .i64 a, .int .i64 b], .agg #[.int .i64 a, .int .i64 b]] w fun e w' => e = .returned (.bool true) ∧ Below w.heap.size w w' := by
  have e1 : (a != a) = false := by simp
  have e2 : (b != b) = false := by simp
  go_enter Try.func16, Try.ntmps16
  go_wp2
  go_ret
  exact ⟨rfl, bel2 _ _⟩

set_option maxHeartbeats 2000000 in
theorem lawAtGrid (a1 a2 a3 : Option Addr) (l1 c1 l2 c2 l3 c3 : Nat) (xs ys : List Int) (zss : List (List Int)) (x y : Int) (w : World) (h1 : Row w a1 l1 xs) (h2 : Row w a2 l2 ys) (h3 : RowS w a3 l3 zss) :
    Calls Try.prog 4 #[.agg #[.slice a1 l1 c1, .slice a2 l2 c2, .slice a3 l3 c3], .int .i64 x, .int .i64 y] w fun e w' => e = .returned (.bool true) ∧ Below w.heap.size w w' := by
  have R1 := hide h1
  have R2 := hide h2
  have R3 := hide h3
  have hm1 := h1.small
  have hm2 := h2.small
  clear h1 h2 h3
  go_enter Try.func4, Try.ntmps4
  go_wp2_with fail
  refine (szGrid_any _ _ _ _ _ _ _ _ _ zss _ hm1 hm2 ((unhide R3).alloc _)).mono ?_
  rintro e w1 ⟨⟨r, rfl, hr⟩, b1⟩
  clear hm1 hm2
  have z0 : w1.cell? ⟨w.heap.size, 0, none⟩ = some (.slice a1 l1 c1) := (b1.cell (p := ⟨w.heap.size, 0, none⟩) (by simp)).trans (by simp [go_sem])
  have z1 : w1.cell? ⟨w.heap.size, 1, none⟩ = some (.slice a2 l2 c2) := (b1.cell (p := ⟨w.heap.size, 1, none⟩) (by simp)).trans (by simp [go_sem])
  have z2 : w1.cell? ⟨w.heap.size, 2, none⟩ = some (.slice a3 l3 c3) := (b1.cell (p := ⟨w.heap.size, 2, none⟩) (by simp)).trans (by simp [go_sem])
  have s1 : w.heap.size < w1.heap.size := by have := b1.size; simp at this; omega
  have B1 := hide ((bel1 _).trans (b1.mono (by simp)))
  clear b1
  rcases hr with hr | ⟨hr, hl1, hl2, hl3, hl4⟩
  · go_wp2_with fail
    go_ret
    exact ⟨rfl, unhide B1⟩
  · go_wp2_with fail
    refine (toGrid_any _ _ _ _ _ _ _ _ _ xs ys zss _ ((unhide R1).below (unhide B1)) ((unhide R2).below (unhide B1)) ((unhide R3).below (unhide B1)) hl1 hl2 hl3 hl4).mono ?_
    rintro e w2 ⟨g1, g2, g0, rfl, q1, q2, q3, b2⟩
    have z0 := (b2.cell (p := ⟨w.heap.size, 0, none⟩) s1).trans z0
    have z1 := (b2.cell (p := ⟨w.heap.size, 1, none⟩) s1).trans z1
    have z2 := (b2.cell (p := ⟨w.heap.size, 2, none⟩) s1).trans z2
    have s2 : w.heap.size < w2.heap.size := by have := b2.size; omega
    have B2 := hide ((unhide B1).trans (b2.mono (by omega)))
    clear b2
    go_wp2_with fail
    refine (specAtGrid_any _ _ _ _ _ _ _ _ _ xs ys zss _ _ _ q1 q2 q3).mono ?_
    rintro e w3 ⟨rfl, b3⟩
    have z0 := (b3.cell (p := ⟨w.heap.size, 0, none⟩) s2).trans z0
    have z1 := (b3.cell (p := ⟨w.heap.size, 1, none⟩) s2).trans z1
    have z2 := (b3.cell (p := ⟨w.heap.size, 2, none⟩) s2).trans z2
    have s3 : w.heap.size < w3.heap.size := by have := b3.size; omega
    have B3 := hide ((unhide B2).trans (b3.mono (by omega)))
    clear b3 q1 q2 q3
    go_wp2_with fail
    have B3a := hide ((unhide B3).alloc (by omega) (Obj.cells #[.int .i64 (agN xs ys zss x y), .int .i64 (agD xs ys zss x y)] 33))
    refine (toGrid_any _ _ _ _ _ _ _ _ _ xs ys zss _ ((unhide R1).below (unhide B3a)) ((unhide R2).below (unhide B3a)) ((unhide R3).below (unhide B3a)) hl1 hl2 hl3 hl4).mono ?_
    rintro e w4 ⟨g3, g4, g7, rfl, q1, q2, q3, b4⟩
    have z0 := (b4.cell (p := ⟨w.heap.size, 0, none⟩) (by simp; omega)).trans ((World.cell?_alloc_past _ _ _ s3).trans z0)
    have z1 := (b4.cell (p := ⟨w.heap.size, 1, none⟩) (by simp; omega)).trans ((World.cell?_alloc_past _ _ _ s3).trans z1)
    have z2 := (b4.cell (p := ⟨w.heap.size, 2, none⟩) (by simp; omega)).trans ((World.cell?_alloc_past _ _ _ s3).trans z2)
    have u0 : w4.cell? ⟨w3.heap.size, 0, none⟩ = some (.int .i64 (agN xs ys zss x y)) := (b4.cell (p := ⟨w3.heap.size, 0, none⟩) (by simp)).trans (by simp [go_sem])
    have u1 : w4.cell? ⟨w3.heap.size, 1, none⟩ = some (.int .i64 (agD xs ys zss x y)) := (b4.cell (p := ⟨w3.heap.size, 1, none⟩) (by simp)).trans (by simp [go_sem])
    have s4 : w3.heap.size < w4.heap.size := by have := b4.size; simp at this; omega
    have B4 := hide ((unhide B3a).trans (b4.mono (by simp; omega)))
    have s5 : w4.heap.size < (w4.alloc (Obj.cells #[Value.slice (some ⟨g3, 0, none⟩) l1 l1, Value.slice (some ⟨g4, 0, none⟩) l2 l2, Value.slice (some ⟨g7, 0, none⟩) l3 l3] 28)).heap.size := by simp
    have A1 := hide (q1.alloc (Obj.cells #[Value.slice (some ⟨g3, 0, none⟩) l1 l1, Value.slice (some ⟨g4, 0, none⟩) l2 l2, Value.slice (some ⟨g7, 0, none⟩) l3 l3] 28))
    have A2 := hide (q2.alloc (Obj.cells #[Value.slice (some ⟨g3, 0, none⟩) l1 l1, Value.slice (some ⟨g4, 0, none⟩) l2 l2, Value.slice (some ⟨g7, 0, none⟩) l3 l3] 28))
    have AZ1 := hide (q3.alloc (Obj.cells #[Value.slice (some ⟨g3, 0, none⟩) l1 l1, Value.slice (some ⟨g4, 0, none⟩) l2 l2, Value.slice (some ⟨g7, 0, none⟩) l3 l3] 28))
    clear b4 q1 q2 q3 B3a
    go_wp2_with fail
    refine (implAtGrid_any _ _ _ _ _ _ _ _ _ xs ys zss _ _ _ (unhide A1) (unhide A2) (unhide AZ1) (Nat.le_refl _) (Nat.le_refl _) (Nat.le_refl _)).mono ?_
    rintro e w6 ⟨rfl, b6⟩
    have y0 : w6.cell? ⟨w4.heap.size, 0, none⟩ = some (Value.slice (some ⟨g3, 0, none⟩) l1 l1) := (b6.cell (p := ⟨w4.heap.size, 0, none⟩) s5).trans (by simp [go_sem])
    have y1 : w6.cell? ⟨w4.heap.size, 1, none⟩ = some (Value.slice (some ⟨g4, 0, none⟩) l2 l2) := (b6.cell (p := ⟨w4.heap.size, 1, none⟩) s5).trans (by simp [go_sem])
    have y2 : w6.cell? ⟨w4.heap.size, 2, none⟩ = some (Value.slice (some ⟨g7, 0, none⟩) l3 l3) := (b6.cell (p := ⟨w4.heap.size, 2, none⟩) s5).trans (by simp [go_sem])
    have z0 := (b6.cell (p := ⟨w.heap.size, 0, none⟩) (by simp; omega)).trans ((World.cell?_alloc_past _ _ _ (by omega)).trans z0)
    have z1 := (b6.cell (p := ⟨w.heap.size, 1, none⟩) (by simp; omega)).trans ((World.cell?_alloc_past _ _ _ (by omega)).trans z1)
    have z2 := (b6.cell (p := ⟨w.heap.size, 2, none⟩) (by simp; omega)).trans ((World.cell?_alloc_past _ _ _ (by omega)).trans z2)
    have u0 := (b6.cell (p := ⟨w3.heap.size, 0, none⟩) (by simp; omega)).trans ((World.cell?_alloc_past _ _ _ s4).trans u0)
    have u1 := (b6.cell (p := ⟨w3.heap.size, 1, none⟩) (by simp; omega)).trans ((World.cell?_alloc_past _ _ _ s4).trans u1)
    have s6 : w4.heap.size < w6.heap.size := by have := b6.size; omega
    have A3 := hide (((unhide A1).below b6).alloc (Obj.cells #[.int .i64 (agN xs ys zss x y), .int .i64 (agD xs ys zss x y)] 33))
    have A4 := hide (((unhide A2).below b6).alloc (Obj.cells #[.int .i64 (agN xs ys zss x y), .int .i64 (agD xs ys zss x y)] 33))
    have AZ3 := hide (((unhide AZ1).below b6).alloc (Obj.cells #[.int .i64 (agN xs ys zss x y), .int .i64 (agD xs ys zss x y)] 33))
    have B6 := hide ((((unhide B4).alloc (by omega) _).trans (b6.mono (by omega))).alloc (by omega) (Obj.cells #[.int .i64 (agN xs ys zss x y), .int .i64 (agD xs ys zss x y)] 33))
    have hq : (agFlag xs ys zss x y != agFlag xs ys zss x y) = false := by simp
    have s6b : w3.heap.size < w6.heap.size := by omega
    clear b6 s5 A1 A2 AZ1
    go_wp2_with fail
    refine (eqFrac_same _ _ _).mono ?_
    rintro e w7 ⟨rfl, b7⟩
    have y0 := (b7.cell (p := ⟨w4.heap.size, 0, none⟩) (by simp; omega)).trans ((World.cell?_alloc_past _ _ _ s6).trans y0)
    have y1 := (b7.cell (p := ⟨w4.heap.size, 1, none⟩) (by simp; omega)).trans ((World.cell?_alloc_past _ _ _ s6).trans y1)
    have y2 := (b7.cell (p := ⟨w4.heap.size, 2, none⟩) (by simp; omega)).trans ((World.cell?_alloc_past _ _ _ s6).trans y2)
    have z0 := (b7.cell (p := ⟨w.heap.size, 0, none⟩) (by simp; omega)).trans ((World.cell?_alloc_past _ _ _ (by omega)).trans z0)
    have z1 := (b7.cell (p := ⟨w.heap.size, 1, none⟩) (by simp; omega)).trans ((World.cell?_alloc_past _ _ _ (by omega)).trans z1)
    have z2 := (b7.cell (p := ⟨w.heap.size, 2, none⟩) (by simp; omega)).trans ((World.cell?_alloc_past _ _ _ (by omega)).trans z2)
    have s7 : w4.heap.size < w7.heap.size := by have := b7.size; simp at this; omega
    have A5 := hide ((unhide A3).below b7)
    have A6 := hide ((unhide A4).below b7)
    have AZ5 := hide ((unhide AZ3).below b7)
    have B7 := hide ((unhide B6).trans (b7.mono (by simp; omega)))
    clear b7 u0 u1 A3 A4 AZ3
    go_wp2_with fail
    go_region_held3 (fun w' => w'.cell? ⟨w4.heap.size, 0, none⟩ = some (Value.slice (some ⟨g3, 0, none⟩) l1 l1) ∧ w'.cell? ⟨w4.heap.size, 1, none⟩ = some (Value.slice (some ⟨g4, 0, none⟩) l2 l2) ∧ w'.cell? ⟨w4.heap.size, 2, none⟩ = some (Value.slice (some ⟨g7, 0, none⟩) l3 l3) ∧ w'.cell? ⟨w.heap.size, 0, none⟩ = some (Value.slice a1 l1 c1) ∧ w'.cell? ⟨w.heap.size, 1, none⟩ = some (Value.slice a2 l2 c2) ∧ w'.cell? ⟨w.heap.size, 2, none⟩ = some (Value.slice a3 l3 c3)) (go_keep)
      (first
        | (go_at_call 11; refine (toGrid_any _ _ _ _ _ _ _ _ _ xs ys zss _ (((unhide R1).below (unhide B7)).drewN 1) (((unhide R2).below (unhide B7)).drewN 1) (((unhide R3).below (unhide B7)).drewN 1) hl1 hl2 hl3 hl4).mono ?_; rintro e w8 ⟨g5, g6, g8, rfl, q5, q6, q7, b8⟩; have s8 : w7.heap.size ≤ w8.heap.size := b8.size; have y0 := (b8.cell (p := ⟨w4.heap.size, 0, none⟩) (by simp; omega)).trans y0; have y1 := (b8.cell (p := ⟨w4.heap.size, 1, none⟩) (by simp; omega)).trans y1; have y2 := (b8.cell (p := ⟨w4.heap.size, 2, none⟩) (by simp; omega)).trans y2; have z0 := (b8.cell (p := ⟨w.heap.size, 0, none⟩) (by simp; omega)).trans z0; have z1 := (b8.cell (p := ⟨w.heap.size, 1, none⟩) (by simp; omega)).trans z1; have z2 := (b8.cell (p := ⟨w.heap.size, 2, none⟩) (by simp; omega)).trans z2)
        | (go_at_call 13; refine (eqGrid_same _ _ _ _ _ _ _ _ _ _ _ _ _ _ _ _ _ _ xs ys zss _ (((unhide A5).drewN 1).below b8) (((unhide A6).drewN 1).below b8) (((unhide AZ5).drewN 1).below b8) q5 q6 q7).mono ?_; rintro e w9 ⟨rfl, b9⟩; have y0 := (b9.cell (p := ⟨w4.heap.size, 0, none⟩) (by simp; omega)).trans y0; have y1 := (b9.cell (p := ⟨w4.heap.size, 1, none⟩) (by simp; omega)).trans y1; have y2 := (b9.cell (p := ⟨w4.heap.size, 2, none⟩) (by simp; omega)).trans y2; have z0 := (b9.cell (p := ⟨w.heap.size, 0, none⟩) (by simp; omega)).trans z0; have z1 := (b9.cell (p := ⟨w.heap.size, 1, none⟩) (by simp; omega)).trans z1; have z2 := (b9.cell (p := ⟨w.heap.size, 2, none⟩) (by simp; omega)).trans z2))
    have hb8 := hide ((unhide B7).trans (((bel0d 1).trans b8).mono (by omega)))
    have hb9 := hide ((unhide hb8).trans (b9.mono (by omega)))
    clear b8 b9
    go_wp2_with fail
    go_ret
    exact ⟨rfl, unhide hb9⟩

end Go.Proofs.Ytbaocifpifbldai
