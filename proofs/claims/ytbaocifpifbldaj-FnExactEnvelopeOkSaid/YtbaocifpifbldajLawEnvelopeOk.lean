/-
  The law FnExactEnvelopeOk returns true at every envelope and writes nothing that was there: the walk. No condition.
-/
import Derived.Test.YtbaocifpifbldajEnvTo
import Derived.Test.YtbaocifpifbldajEnvSpec
import Derived.Test.YtbaocifpifbldajEnvImpl
import Derived.Deep.DrawnRows
namespace Go.Proofs.Ytbaocifpifbldaj
open Go.RowKit
attribute [local go_sem ↓] Go.wp_at_zero Go.wp_at_succ

set_option maxHeartbeats 2000000 in
theorem lawEnvelopeOk (a1 a2 a3 : Option Addr) (l1 c1 l2 c2 l3 c3 : Nat) (xs ys zs : List Int) (w : World) (h1 : Row w a1 l1 xs) (h2 : Row w a2 l2 ys) (h3 : Row w a3 l3 zs) :
    Calls Try.prog 3 #[.agg #[.slice a1 l1 c1, .slice a2 l2 c2, .slice a3 l3 c3]] w fun e w' => e = .returned (.bool true) ∧ Below w.heap.size w w' := by
  have R1 := hide h1
  have R2 := hide h2
  have R3 := hide h3
  have hm1 := h1.small
  have hm2 := h2.small
  have hm3 := h3.small
  clear h1 h2 h3
  go_enter Try.func3, Try.ntmps3
  go_wp2_with fail
  refine (szEnvelope_any _ _ _ _ _ _ _ _ _ _ hm1 hm2 hm3).mono ?_
  rintro e w1 ⟨⟨r, rfl, hr⟩, b1⟩
  clear hm1 hm2 hm3
  have x0 := b1.cell (p := ⟨w.heap.size, 0, none⟩) (by simp)
  have x1 := b1.cell (p := ⟨w.heap.size, 1, none⟩) (by simp)
  have x2 := b1.cell (p := ⟨w.heap.size, 2, none⟩) (by simp)
  have s1 : w.heap.size < w1.heap.size := by have := b1.size; simp at this; omega
  have B1 := hide ((bel1 _).trans (b1.mono (by simp)))
  clear b1
  rcases hr with hr | ⟨hr, hrr, hl1, hl2, hl3⟩
  · go_wp2_with fail
    go_ret
    exact ⟨rfl, unhide B1⟩
  · go_wp2_with fail
    refine (toEnvelope_any _ _ _ _ _ _ _ _ _ xs ys zs _ ((unhide R1).below (unhide B1)) ((unhide R2).below (unhide B1)) ((unhide R3).below (unhide B1)) hl1 hl2 hl3).mono ?_
    rintro e w2 ⟨g1, g2, g0, rfl, q1, q2, q3, b2⟩
    have x0 := (b2.cell (p := ⟨w.heap.size, 0, none⟩) (by simp; omega)).trans x0
    have x1 := (b2.cell (p := ⟨w.heap.size, 1, none⟩) (by simp; omega)).trans x1
    have x2 := (b2.cell (p := ⟨w.heap.size, 2, none⟩) (by simp; omega)).trans x2
    have s2 : w1.heap.size ≤ w2.heap.size := b2.size
    have B2 := hide ((unhide B1).trans (b2.mono (by omega)))
    clear b2
    go_wp2_with fail
    refine (specEnvelopeOk_any _ _ _ _ _ _ _ _ _ xs ys zs _ q1 q2 q3).mono ?_
    rintro e w3 ⟨rfl, b3⟩
    have x0 := (b3.cell (p := ⟨w.heap.size, 0, none⟩) (by simp; omega)).trans x0
    have x1 := (b3.cell (p := ⟨w.heap.size, 1, none⟩) (by simp; omega)).trans x1
    have x2 := (b3.cell (p := ⟨w.heap.size, 2, none⟩) (by simp; omega)).trans x2
    have s3 : w2.heap.size ≤ w3.heap.size := b3.size
    have B3 := hide ((unhide B2).trans (b3.mono (by omega)))
    clear b3 q1 q2 q3
    go_wp2_with fail
    refine (toEnvelope_any _ _ _ _ _ _ _ _ _ xs ys zs _ ((unhide R1).below (unhide B3)) ((unhide R2).below (unhide B3)) ((unhide R3).below (unhide B3)) hl1 hl2 hl3).mono ?_
    rintro e w4 ⟨g3, g4, g7, rfl, q1, q2, q3, b4⟩
    have x0 := (b4.cell (p := ⟨w.heap.size, 0, none⟩) (by simp; omega)).trans x0
    have x1 := (b4.cell (p := ⟨w.heap.size, 1, none⟩) (by simp; omega)).trans x1
    have x2 := (b4.cell (p := ⟨w.heap.size, 2, none⟩) (by simp; omega)).trans x2
    have s4 : w3.heap.size ≤ w4.heap.size := b4.size
    have B4 := hide ((unhide B3).trans (b4.mono (by omega)))
    have s5 : w4.heap.size < (w4.alloc (Obj.cells #[Value.slice (some ⟨g3, 0, none⟩) l1 l1, Value.slice (some ⟨g4, 0, none⟩) l2 l2, Value.slice (some ⟨g7, 0, none⟩) l3 l3] 27)).heap.size := by simp
    have A1 := hide (q1.alloc (Obj.cells #[Value.slice (some ⟨g3, 0, none⟩) l1 l1, Value.slice (some ⟨g4, 0, none⟩) l2 l2, Value.slice (some ⟨g7, 0, none⟩) l3 l3] 27))
    have AZ1 := hide (q3.alloc (Obj.cells #[Value.slice (some ⟨g3, 0, none⟩) l1 l1, Value.slice (some ⟨g4, 0, none⟩) l2 l2, Value.slice (some ⟨g7, 0, none⟩) l3 l3] 27))
    have A2 := hide (q2.alloc (Obj.cells #[Value.slice (some ⟨g3, 0, none⟩) l1 l1, Value.slice (some ⟨g4, 0, none⟩) l2 l2, Value.slice (some ⟨g7, 0, none⟩) l3 l3] 27))
    clear b4 q1 q2 q3
    go_wp2_with fail
    refine (implEnvelopeOk_any _ _ _ _ _ _ _ _ _ xs ys zs _ (unhide A1) (unhide A2) (unhide AZ1)).mono ?_
    rintro e w6 ⟨rfl, b6⟩
    have y0 : w6.cell? ⟨w4.heap.size, 0, none⟩ = some (Value.slice (some ⟨g3, 0, none⟩) l1 l1) := (b6.cell (p := ⟨w4.heap.size, 0, none⟩) s5).trans (by simp [go_sem])
    have y1 : w6.cell? ⟨w4.heap.size, 1, none⟩ = some (Value.slice (some ⟨g4, 0, none⟩) l2 l2) := (b6.cell (p := ⟨w4.heap.size, 1, none⟩) s5).trans (by simp [go_sem])
    have y2 : w6.cell? ⟨w4.heap.size, 2, none⟩ = some (Value.slice (some ⟨g7, 0, none⟩) l3 l3) := (b6.cell (p := ⟨w4.heap.size, 2, none⟩) s5).trans (by simp [go_sem])
    have z0 : w6.cell? ⟨w.heap.size, 0, none⟩ = some (Value.slice a1 l1 c1) := (b6.cell (p := ⟨w.heap.size, 0, none⟩) (by simp; omega)).trans ((World.cell?_alloc_past _ _ _ (by omega)).trans (x0.trans (by simp [go_sem])))
    have z1 : w6.cell? ⟨w.heap.size, 1, none⟩ = some (Value.slice a2 l2 c2) := (b6.cell (p := ⟨w.heap.size, 1, none⟩) (by simp; omega)).trans ((World.cell?_alloc_past _ _ _ (by omega)).trans (x1.trans (by simp [go_sem])))
    have z2 : w6.cell? ⟨w.heap.size, 2, none⟩ = some (Value.slice a3 l3 c3) := (b6.cell (p := ⟨w.heap.size, 2, none⟩) (by simp; omega)).trans ((World.cell?_alloc_past _ _ _ (by omega)).trans (x2.trans (by simp [go_sem])))
    have s6 : w4.heap.size < w6.heap.size := by have := b6.size; omega
    have A3 := hide ((unhide A1).below b6)
    have A4 := hide ((unhide A2).below b6)
    have AZ3 := hide ((unhide AZ1).below b6)
    have B6 := hide (((unhide B4).alloc (by omega) _).trans (b6.mono (by omega)))
    have hq : (envB xs ys zs != envB xs ys zs) = false := by simp
    clear b6 s5 A1 A2 AZ1 x0 x1 x2
    go_wp2_with fail
    go_region_held3 (fun w' => w'.cell? ⟨w4.heap.size, 0, none⟩ = some (Value.slice (some ⟨g3, 0, none⟩) l1 l1) ∧ w'.cell? ⟨w4.heap.size, 1, none⟩ = some (Value.slice (some ⟨g4, 0, none⟩) l2 l2) ∧ w'.cell? ⟨w4.heap.size, 2, none⟩ = some (Value.slice (some ⟨g7, 0, none⟩) l3 l3) ∧ w'.cell? ⟨w.heap.size, 0, none⟩ = some (Value.slice a1 l1 c1) ∧ w'.cell? ⟨w.heap.size, 1, none⟩ = some (Value.slice a2 l2 c2) ∧ w'.cell? ⟨w.heap.size, 2, none⟩ = some (Value.slice a3 l3 c3)) (go_keep)
      (first
        | (go_at_call 11; refine (toEnvelope_any _ _ _ _ _ _ _ _ _ xs ys zs _ (((unhide R1).below (unhide B6)).drewN 1) (((unhide R2).below (unhide B6)).drewN 1) (((unhide R3).below (unhide B6)).drewN 1) hl1 hl2 hl3).mono ?_; rintro e w7 ⟨g5, g6, g8, rfl, q5, q6, q7, b7⟩; have s7 : w6.heap.size ≤ w7.heap.size := b7.size; have y0 := (b7.cell (p := ⟨w4.heap.size, 0, none⟩) (by simp; omega)).trans y0; have y1 := (b7.cell (p := ⟨w4.heap.size, 1, none⟩) (by simp; omega)).trans y1; have y2 := (b7.cell (p := ⟨w4.heap.size, 2, none⟩) (by simp; omega)).trans y2; have z0 := (b7.cell (p := ⟨w.heap.size, 0, none⟩) (by simp; omega)).trans z0; have z1 := (b7.cell (p := ⟨w.heap.size, 1, none⟩) (by simp; omega)).trans z1; have z2 := (b7.cell (p := ⟨w.heap.size, 2, none⟩) (by simp; omega)).trans z2)
        | (go_at_call 13; refine (eqEnvelope_same _ _ _ _ _ _ _ _ _ _ _ _ _ _ _ _ _ _ xs ys zs _ (((unhide A3).drewN 1).below b7) (((unhide A4).drewN 1).below b7) (((unhide AZ3).drewN 1).below b7) q5 q6 q7).mono ?_; rintro e w8 ⟨rfl, b8⟩; have y0 := (b8.cell (p := ⟨w4.heap.size, 0, none⟩) (by simp; omega)).trans y0; have y1 := (b8.cell (p := ⟨w4.heap.size, 1, none⟩) (by simp; omega)).trans y1; have y2 := (b8.cell (p := ⟨w4.heap.size, 2, none⟩) (by simp; omega)).trans y2; have z0 := (b8.cell (p := ⟨w.heap.size, 0, none⟩) (by simp; omega)).trans z0; have z1 := (b8.cell (p := ⟨w.heap.size, 1, none⟩) (by simp; omega)).trans z1; have z2 := (b8.cell (p := ⟨w.heap.size, 2, none⟩) (by simp; omega)).trans z2))
    have hb7 := hide ((unhide B6).trans (((bel0d 1).trans b7).mono (by omega)))
    have hb8 := hide ((unhide hb7).trans (b8.mono (by omega)))
    clear b7 b8
    go_wp2_with fail
    go_ret
    exact ⟨rfl, unhide hb8⟩

end Go.Proofs.Ytbaocifpifbldaj
