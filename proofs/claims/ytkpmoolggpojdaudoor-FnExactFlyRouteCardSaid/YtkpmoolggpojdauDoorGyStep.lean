/-
  What the program's step and turn of a craft answer: the plain answers, where the table of steps holds what the program's text says; nothing that was there is written.
-/
import Derived.Test.YtkpmoolggpojdauDoorLgImpl
import Derived.Test.YtkpmoolggpojdauDoorBlks
import Derived.Test.YtkpmoolggpojdauDoorApFar
namespace Go.Proofs.YtkpmoolggpojdauDoor
open Go.RowKit

theorem eightOf' {d : Int} (h0 : 0 ≤ d) (h7 : d ≤ 7) : d = 0 ∨ d = 1 ∨ d = 2 ∨ d = 3 ∨ d = 4 ∨ d = 5 ∨ d = 6 ∨ d = 7 := by omega
set_option maxHeartbeats 2000000 in
theorem turned_is {D : Int} (x y d h c s : Int) (w : World) (d0 : 0 ≤ d) (d7 : d ≤ 7) (hs : s = -1 ∨ s = 1) (hD : (d + s + 8) % 8 = D) :
    Calls Tryd.prog 95 #[.agg #[.int .i64 x, .int .i64 y, .int .i64 d, .int .i64 h, .int .i64 c], .int .i64 s] w fun e w' => e = .returned (.agg #[.int .i64 x, .int .i64 y, .int .i64 D, .int .i64 h, .int .i64 c]) ∧ Below w.heap.size w w' := by
  have ht : (d + s + 8).tmod 8 = D := by rw [← hD]; exact Int.tmod_eq_emod_of_nonneg (by omega)
  have s0 : -1 ≤ s := by omega
  have s1 : s ≤ 1 := by omega
  clear hs
  go_enter Tryd.func95, Tryd.ntmps95
  go_wp2
  refine bodyPost_ret (v := .agg #[.int .i64 x, .int .i64 y, .int .i64 D, .int .i64 h, .int .i64 c]) (by simp [results, Tryd.results95, go_sem]) rfl ⟨rfl, ?_⟩
  exact (by repeat (first | exact Below.refl _ _ | refine Below.alloc ?_ (by simp; try omega) _ | refine Below.setCell ?_ (by simp; try omega) _ | refine lgDr ?_ _))
theorem turned_right {D : Int} (x y d h c : Int) (w : World) (d0 : 0 ≤ d) (d7 : d ≤ 7) (hD : (d + 1) % 8 = D) :
    Calls Tryd.prog 95 #[.agg #[.int .i64 x, .int .i64 y, .int .i64 d, .int .i64 h, .int .i64 c], .int .i64 1] w fun e w' => e = .returned (.agg #[.int .i64 x, .int .i64 y, .int .i64 D, .int .i64 h, .int .i64 c]) ∧ Below w.heap.size w w' :=
  turned_is x y d h c 1 w d0 d7 (.inr rfl) (by omega)
/-- The table of steps, as the program's text lays it. -/
def stepsL : List Int := [0, 1, 1, 1, 1, 0, 1, -1, 0, -1, -1, -1, -1, 0, -1, 1]
def StG (w : World) : Prop := ∀ i, i < 16 → w.cell? ⟨0, i, none⟩ = some (.int .i64 (nth stepsL i))
theorem StG.lt {w : World} (g : StG w) : 0 < w.heap.size := block_lt_of_cell (g 0 (by decide))
theorem StG.below {w w' : World} {B : Nat} (g : StG w) (hB : 0 < B) (b : Below B w w') : StG w' := fun i hi => (b.cell (p := ⟨0, i, none⟩) hB).trans (g i hi)
set_option maxHeartbeats 4000000 in
theorem stepped_is (x y d h c : Int) (w : World) (g : StG w) (d0 : 0 ≤ d) (d7 : d ≤ 7) (hx : -1000 ≤ x ∧ x ≤ 1000) (hy : -1000 ≤ y ∧ y ≤ 1000) (hh : 0 ≤ h ∧ h ≤ 2000) (hc : -20 ≤ c ∧ c ≤ 20) :
    Calls Tryd.prog 44 #[.agg #[.int .i64 x, .int .i64 y, .int .i64 d, .int .i64 h, .int .i64 c]] w fun e w' => e = .returned (.agg #[.int .i64 (x + dirX d), .int .i64 (y + dirY d), .int .i64 d, .int .i64 (upH h c), .int .i64 c]) ∧ Below w.heap.size w w' := by
  obtain ⟨x0, x1⟩ := hx
  obtain ⟨y0, y1⟩ := hy
  obtain ⟨h0, h1⟩ := hh
  obtain ⟨c0, c1⟩ := hc
  have gl := g.lt
  have ne : ¬ 0 = w.heap.size := by omega
  obtain ⟨U, hU⟩ : ∃ U, upH h c = U := ⟨_, rfl⟩
  rw [hU]
  have HU : Hid (min (max (h + c) 0) 2000 = U) := hide (by rw [← hU]; unfold upH; split <;> (try split) <;> omega)
  clear hU
  rcases eightOf' d0 d7 with rfl | rfl | rfl | rfl | rfl | rfl | rfl | rfl
  · clear d0 d7
    have ga : ∀ o p, ((w.alloc o).alloc p).cell? ⟨0, 0, none⟩ = some (.int .i64 0) := fun o p => ((bel2 o p).cell (p := ⟨0, 0, none⟩) gl).trans (g 0 (by decide))
    have gb : ∀ o p, ((w.alloc o).alloc p).cell? ⟨0, 1, none⟩ = some (.int .i64 1) := fun o p => ((bel2 o p).cell (p := ⟨0, 1, none⟩) gl).trans (g 1 (by decide))
    clear g ne
    go_enter Tryd.func44, Tryd.ntmps44
    go_wp2
    all_goals
      refine bodyPost_ret (v := .agg #[.int .i64 (x + dirX 0), .int .i64 (y + dirY 0), .int .i64 0, .int .i64 U, .int .i64 c]) (by have hu := unhide HU; simp [results, Tryd.results44, go_sem]; (try simp [dirX, dirY]); (try omega)) rfl ⟨rfl, ?_⟩
      exact (by repeat (first | exact Below.refl _ _ | refine Below.alloc ?_ (by simp; try omega) _ | refine Below.setCell ?_ (by simp; try omega) _ | refine lgDr ?_ _))
  · clear d0 d7
    have ga : ∀ o p, ((w.alloc o).alloc p).cell? ⟨0, 2, none⟩ = some (.int .i64 1) := fun o p => ((bel2 o p).cell (p := ⟨0, 2, none⟩) gl).trans (g 2 (by decide))
    have gb : ∀ o p, ((w.alloc o).alloc p).cell? ⟨0, 3, none⟩ = some (.int .i64 1) := fun o p => ((bel2 o p).cell (p := ⟨0, 3, none⟩) gl).trans (g 3 (by decide))
    clear g ne
    go_enter Tryd.func44, Tryd.ntmps44
    go_wp2
    all_goals
      refine bodyPost_ret (v := .agg #[.int .i64 (x + dirX 1), .int .i64 (y + dirY 1), .int .i64 1, .int .i64 U, .int .i64 c]) (by have hu := unhide HU; simp [results, Tryd.results44, go_sem]; (try simp [dirX, dirY]); (try omega)) rfl ⟨rfl, ?_⟩
      exact (by repeat (first | exact Below.refl _ _ | refine Below.alloc ?_ (by simp; try omega) _ | refine Below.setCell ?_ (by simp; try omega) _ | refine lgDr ?_ _))
  · clear d0 d7
    have ga : ∀ o p, ((w.alloc o).alloc p).cell? ⟨0, 4, none⟩ = some (.int .i64 1) := fun o p => ((bel2 o p).cell (p := ⟨0, 4, none⟩) gl).trans (g 4 (by decide))
    have gb : ∀ o p, ((w.alloc o).alloc p).cell? ⟨0, 5, none⟩ = some (.int .i64 0) := fun o p => ((bel2 o p).cell (p := ⟨0, 5, none⟩) gl).trans (g 5 (by decide))
    clear g ne
    go_enter Tryd.func44, Tryd.ntmps44
    go_wp2
    all_goals
      refine bodyPost_ret (v := .agg #[.int .i64 (x + dirX 2), .int .i64 (y + dirY 2), .int .i64 2, .int .i64 U, .int .i64 c]) (by have hu := unhide HU; simp [results, Tryd.results44, go_sem]; (try simp [dirX, dirY]); (try omega)) rfl ⟨rfl, ?_⟩
      exact (by repeat (first | exact Below.refl _ _ | refine Below.alloc ?_ (by simp; try omega) _ | refine Below.setCell ?_ (by simp; try omega) _ | refine lgDr ?_ _))
  · clear d0 d7
    have ga : ∀ o p, ((w.alloc o).alloc p).cell? ⟨0, 6, none⟩ = some (.int .i64 1) := fun o p => ((bel2 o p).cell (p := ⟨0, 6, none⟩) gl).trans (g 6 (by decide))
    have gb : ∀ o p, ((w.alloc o).alloc p).cell? ⟨0, 7, none⟩ = some (.int .i64 (-1)) := fun o p => ((bel2 o p).cell (p := ⟨0, 7, none⟩) gl).trans (g 7 (by decide))
    clear g ne
    go_enter Tryd.func44, Tryd.ntmps44
    go_wp2
    all_goals
      refine bodyPost_ret (v := .agg #[.int .i64 (x + dirX 3), .int .i64 (y + dirY 3), .int .i64 3, .int .i64 U, .int .i64 c]) (by have hu := unhide HU; simp [results, Tryd.results44, go_sem]; (try simp [dirX, dirY]); (try omega)) rfl ⟨rfl, ?_⟩
      exact (by repeat (first | exact Below.refl _ _ | refine Below.alloc ?_ (by simp; try omega) _ | refine Below.setCell ?_ (by simp; try omega) _ | refine lgDr ?_ _))
  · clear d0 d7
    have ga : ∀ o p, ((w.alloc o).alloc p).cell? ⟨0, 8, none⟩ = some (.int .i64 0) := fun o p => ((bel2 o p).cell (p := ⟨0, 8, none⟩) gl).trans (g 8 (by decide))
    have gb : ∀ o p, ((w.alloc o).alloc p).cell? ⟨0, 9, none⟩ = some (.int .i64 (-1)) := fun o p => ((bel2 o p).cell (p := ⟨0, 9, none⟩) gl).trans (g 9 (by decide))
    clear g ne
    go_enter Tryd.func44, Tryd.ntmps44
    go_wp2
    all_goals
      refine bodyPost_ret (v := .agg #[.int .i64 (x + dirX 4), .int .i64 (y + dirY 4), .int .i64 4, .int .i64 U, .int .i64 c]) (by have hu := unhide HU; simp [results, Tryd.results44, go_sem]; (try simp [dirX, dirY]); (try omega)) rfl ⟨rfl, ?_⟩
      exact (by repeat (first | exact Below.refl _ _ | refine Below.alloc ?_ (by simp; try omega) _ | refine Below.setCell ?_ (by simp; try omega) _ | refine lgDr ?_ _))
  · clear d0 d7
    have ga : ∀ o p, ((w.alloc o).alloc p).cell? ⟨0, 10, none⟩ = some (.int .i64 (-1)) := fun o p => ((bel2 o p).cell (p := ⟨0, 10, none⟩) gl).trans (g 10 (by decide))
    have gb : ∀ o p, ((w.alloc o).alloc p).cell? ⟨0, 11, none⟩ = some (.int .i64 (-1)) := fun o p => ((bel2 o p).cell (p := ⟨0, 11, none⟩) gl).trans (g 11 (by decide))
    clear g ne
    go_enter Tryd.func44, Tryd.ntmps44
    go_wp2
    all_goals
      refine bodyPost_ret (v := .agg #[.int .i64 (x + dirX 5), .int .i64 (y + dirY 5), .int .i64 5, .int .i64 U, .int .i64 c]) (by have hu := unhide HU; simp [results, Tryd.results44, go_sem]; (try simp [dirX, dirY]); (try omega)) rfl ⟨rfl, ?_⟩
      exact (by repeat (first | exact Below.refl _ _ | refine Below.alloc ?_ (by simp; try omega) _ | refine Below.setCell ?_ (by simp; try omega) _ | refine lgDr ?_ _))
  · clear d0 d7
    have ga : ∀ o p, ((w.alloc o).alloc p).cell? ⟨0, 12, none⟩ = some (.int .i64 (-1)) := fun o p => ((bel2 o p).cell (p := ⟨0, 12, none⟩) gl).trans (g 12 (by decide))
    have gb : ∀ o p, ((w.alloc o).alloc p).cell? ⟨0, 13, none⟩ = some (.int .i64 0) := fun o p => ((bel2 o p).cell (p := ⟨0, 13, none⟩) gl).trans (g 13 (by decide))
    clear g ne
    go_enter Tryd.func44, Tryd.ntmps44
    go_wp2
    all_goals
      refine bodyPost_ret (v := .agg #[.int .i64 (x + dirX 6), .int .i64 (y + dirY 6), .int .i64 6, .int .i64 U, .int .i64 c]) (by have hu := unhide HU; simp [results, Tryd.results44, go_sem]; (try simp [dirX, dirY]); (try omega)) rfl ⟨rfl, ?_⟩
      exact (by repeat (first | exact Below.refl _ _ | refine Below.alloc ?_ (by simp; try omega) _ | refine Below.setCell ?_ (by simp; try omega) _ | refine lgDr ?_ _))
  · clear d0 d7
    have ga : ∀ o p, ((w.alloc o).alloc p).cell? ⟨0, 14, none⟩ = some (.int .i64 (-1)) := fun o p => ((bel2 o p).cell (p := ⟨0, 14, none⟩) gl).trans (g 14 (by decide))
    have gb : ∀ o p, ((w.alloc o).alloc p).cell? ⟨0, 15, none⟩ = some (.int .i64 1) := fun o p => ((bel2 o p).cell (p := ⟨0, 15, none⟩) gl).trans (g 15 (by decide))
    clear g ne
    go_enter Tryd.func44, Tryd.ntmps44
    go_wp2
    all_goals
      refine bodyPost_ret (v := .agg #[.int .i64 (x + dirX 7), .int .i64 (y + dirY 7), .int .i64 7, .int .i64 U, .int .i64 c]) (by have hu := unhide HU; simp [results, Tryd.results44, go_sem]; (try simp [dirX, dirY]); (try omega)) rfl ⟨rfl, ?_⟩
      exact (by repeat (first | exact Below.refl _ _ | refine Below.alloc ?_ (by simp; try omega) _ | refine Below.setCell ?_ (by simp; try omega) _ | refine lgDr ?_ _))

end Go.Proofs.YtkpmoolggpojdauDoor
