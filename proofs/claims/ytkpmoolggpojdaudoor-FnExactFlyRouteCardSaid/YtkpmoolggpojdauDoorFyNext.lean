/-
  What the model's next turn of a leg answers, kind by kind: the plain answers, at crafts and legs that are so; nothing that was there is written.
-/
import Derived.Test.YtkpmoolggpojdauDoorFySpec
import Derived.Test.YtkpmoolggpojdauDoorBlks
import Derived.Test.YtkpmoolggpojdauDoorApFar
namespace Go.Proofs.YtkpmoolggpojdauDoor
open Go.RowKit

set_option maxRecDepth 20000 in
set_option maxHeartbeats 4000000 in
theorem l12Next_1off {D : Int} (lx ly m x y d h c s : Int) (w : World) (i : FlI 1 lx ly m ⟨x, y, d, h, c⟩ s) (hb : nxB 1 lx ly m ⟨x, y, d, h, c⟩ s = false) (hD : nxD 1 lx ly ⟨x, y, d, h, c⟩ s = D) :
    Calls Tryd.prog 25 #[.agg #[.int .i64 x, .int .i64 y, .int .i64 d, .int .i64 h, .int .i64 c], .agg #[.int .i64 1, .int .i64 lx, .int .i64 ly, .int .i64 m], .int .i64 s] w fun e w' => e = .returned (.tuple #[.agg #[.int .i64 x, .int .i64 y, .int .i64 D, .int .i64 h, .int .i64 c], .bool true]) ∧ Below w.heap.size w w' := by
  have f := cfB_facts i.so
  have s0 := i.s0
  have g := lgB_1 i.lg
  have hd := nxD_in i
  rw [hD] at hd
  replace f : (-1000 ≤ x ∧ x ≤ 1000) ∧ (-1000 ≤ y ∧ y ≤ 1000) ∧ (0 ≤ d ∧ d ≤ 7) ∧ (0 ≤ h ∧ h ≤ 2000) ∧ (-20 ≤ c ∧ c ≤ 20) := f
  obtain ⟨⟨x0, x1⟩, ⟨y0, y1⟩, ⟨d0, d1⟩, ⟨h0, h1⟩, c0, c1⟩ := f
  have hd0 := hd.1
  have hd1 := hd.2
  clear hd i
  have hp : x = lx ∧ y = ly := by have e := of_decide_eq_false (show decide (¬ (x = lx ∧ y = ly)) = false from hb); exact Classical.not_not.1 e
  have e : D = d := by rw [← hD]; show (if x = lx ∧ y = ly then d else dirOf (sgn (lx - x)) (sgn (ly - y))) = d; rw [if_pos hp]
  subst e
  clear hb hD
  obtain ⟨rfl, rfl⟩ := hp
  go_enter Tryd.func25, Tryd.ntmps25
  go_wp2
  try rw [Exit.noGoto_ret]
  refine bodyPost_ret (v := .tuple #[.agg #[.int .i64 x, .int .i64 y, .int .i64 D, .int .i64 h, .int .i64 c], .bool true]) (by simp [results, Tryd.results25, go_sem]) rfl ⟨rfl, ?_⟩
  exact (by repeat (first | exact Below.refl _ _ | refine Below.alloc ?_ (by simp; try omega) _ | refine Below.setCell ?_ (by simp; try omega) _ | refine lgDr ?_ _))

set_option maxRecDepth 20000 in
set_option maxHeartbeats 4000000 in
theorem l12Next_3off {D : Int} (lx ly m x y d h c s : Int) (w : World) (i : FlI 3 lx ly m ⟨x, y, d, h, c⟩ s) (hb : nxB 3 lx ly m ⟨x, y, d, h, c⟩ s = false) (hD : nxD 3 lx ly ⟨x, y, d, h, c⟩ s = D) :
    Calls Tryd.prog 25 #[.agg #[.int .i64 x, .int .i64 y, .int .i64 d, .int .i64 h, .int .i64 c], .agg #[.int .i64 3, .int .i64 lx, .int .i64 ly, .int .i64 m], .int .i64 s] w fun e w' => e = .returned (.tuple #[.agg #[.int .i64 x, .int .i64 y, .int .i64 D, .int .i64 h, .int .i64 c], .bool true]) ∧ Below w.heap.size w w' := by
  have f := cfB_facts i.so
  have s0 := i.s0
  have g := lgB_3 i.lg
  have hd := nxD_in i
  rw [hD] at hd
  replace f : (-1000 ≤ x ∧ x ≤ 1000) ∧ (-1000 ≤ y ∧ y ≤ 1000) ∧ (0 ≤ d ∧ d ≤ 7) ∧ (0 ≤ h ∧ h ≤ 2000) ∧ (-20 ≤ c ∧ c ≤ 20) := f
  obtain ⟨⟨x0, x1⟩, ⟨y0, y1⟩, ⟨d0, d1⟩, ⟨h0, h1⟩, c0, c1⟩ := f
  have hd0 := hd.1
  have hd1 := hd.2
  clear hd i
  have hp : ¬ h < m := of_decide_eq_false (show decide (h < m) = false from hb)
  have e : D = d := by rw [← hD]; rfl
  subst e
  clear hb hD
  go_enter Tryd.func25, Tryd.ntmps25
  go_wp2
  try rw [Exit.noGoto_ret]
  refine bodyPost_ret (v := .tuple #[.agg #[.int .i64 x, .int .i64 y, .int .i64 D, .int .i64 h, .int .i64 c], .bool true]) (by simp [results, Tryd.results25, go_sem]) rfl ⟨rfl, ?_⟩
  exact (by repeat (first | exact Below.refl _ _ | refine Below.alloc ?_ (by simp; try omega) _ | refine Below.setCell ?_ (by simp; try omega) _ | refine lgDr ?_ _))

set_option maxRecDepth 20000 in
set_option maxHeartbeats 4000000 in
theorem l12Next_3on {D : Int} (lx ly m x y d h c s : Int) (w : World) (i : FlI 3 lx ly m ⟨x, y, d, h, c⟩ s) (hb : nxB 3 lx ly m ⟨x, y, d, h, c⟩ s = true) (hD : nxD 3 lx ly ⟨x, y, d, h, c⟩ s = D) :
    Calls Tryd.prog 25 #[.agg #[.int .i64 x, .int .i64 y, .int .i64 d, .int .i64 h, .int .i64 c], .agg #[.int .i64 3, .int .i64 lx, .int .i64 ly, .int .i64 m], .int .i64 s] w fun e w' => e = .returned (.tuple #[.agg #[.int .i64 (x + dirX D), .int .i64 (y + dirY D), .int .i64 D, .int .i64 (upH h c), .int .i64 c], .bool false]) ∧ Below w.heap.size w w' := by
  have f := cfB_facts i.so
  have s0 := i.s0
  have g := lgB_3 i.lg
  have hd := nxD_in i
  rw [hD] at hd
  replace f : (-1000 ≤ x ∧ x ≤ 1000) ∧ (-1000 ≤ y ∧ y ≤ 1000) ∧ (0 ≤ d ∧ d ≤ 7) ∧ (0 ≤ h ∧ h ≤ 2000) ∧ (-20 ≤ c ∧ c ≤ 20) := f
  obtain ⟨⟨x0, x1⟩, ⟨y0, y1⟩, ⟨d0, d1⟩, ⟨h0, h1⟩, c0, c1⟩ := f
  have hd0 := hd.1
  have hd1 := hd.2
  clear hd i
  have hp : h < m := of_decide_eq_true (show decide (h < m) = true from hb)
  have e : D = d := by rw [← hD]; rfl
  subst e
  clear hb hD
  go_enter Tryd.func25, Tryd.ntmps25
  go_wp2_with (go_at_call 40; refine (l12Step_is _ _ _ _ _ _ (by omega) (by omega) ⟨by omega, by omega⟩ ⟨by omega, by omega⟩ ⟨by omega, by omega⟩ ⟨by omega, by omega⟩).mono ?_; rintro e w9 ⟨rfl, b9⟩; have K9 : Hid (Blk w9 (w.heap.size + 1 + 1) [.int .i64 0, .int .i64 0, .int .i64 0, .int .i64 0, .int .i64 0]) := hide (Blk.below (by first | exact blkAt3_2 | exact blkAt3_2.other (by simp) _) b9); have B9 := hide (Below.trans (by repeat (first | exact Below.refl _ _ | refine Below.alloc ?_ (by simp; try omega) _ | refine Below.setCell ?_ (by simp; try omega) _ | refine lgDr ?_ _)) (b9.mono (by simp; try omega)) : Below w.heap.size w w9); clear b9; have r0 : w9.cell? ⟨w.heap.size + 1 + 1, 0, none⟩ = some (.int .i64 0) := (unhide K9).c 0 (by simp); have z0 : w9.frozen? ⟨w.heap.size + 1 + 1, 0, none⟩ = false := (unhide K9).f 0 (by simp); have r1 : w9.cell? ⟨w.heap.size + 1 + 1, 1, none⟩ = some (.int .i64 0) := (unhide K9).c 1 (by simp); have z1 : w9.frozen? ⟨w.heap.size + 1 + 1, 1, none⟩ = false := (unhide K9).f 1 (by simp); have r2 : w9.cell? ⟨w.heap.size + 1 + 1, 2, none⟩ = some (.int .i64 0) := (unhide K9).c 2 (by simp); have z2 : w9.frozen? ⟨w.heap.size + 1 + 1, 2, none⟩ = false := (unhide K9).f 2 (by simp); have r3 : w9.cell? ⟨w.heap.size + 1 + 1, 3, none⟩ = some (.int .i64 0) := (unhide K9).c 3 (by simp); have z3 : w9.frozen? ⟨w.heap.size + 1 + 1, 3, none⟩ = false := (unhide K9).f 3 (by simp); have r4 : w9.cell? ⟨w.heap.size + 1 + 1, 4, none⟩ = some (.int .i64 0) := (unhide K9).c 4 (by simp); have z4 : w9.frozen? ⟨w.heap.size + 1 + 1, 4, none⟩ = false := (unhide K9).f 4 (by simp))
  try rw [Exit.noGoto_ret]
  have KR := ((((((unhide K9).set 0 (by simp) (.int .i64 (x + dirX D))).set 1 (by simp) (.int .i64 (y + dirY D))).set 2 (by simp) (.int .i64 D)).set 3 (by simp) (.int .i64 (upH h c))).set 4 (by simp) (.int .i64 c))
  refine bodyPost_ret (results_cellB (vs := [.int .i64 (x + dirX D), .int .i64 (y + dirY D), .int .i64 D, .int .i64 (upH h c), .int .i64 c]) rfl Tryd.isAgg26 Tryd.sizeOf26 rfl (by simpa using KR) rfl) rfl ⟨rfl, ?_⟩
  exact Below.setCell (Below.setCell (Below.setCell (Below.setCell (Below.setCell (unhide B9) (by simp; try omega) _) (by simp; try omega) _) (by simp; try omega) _) (by simp; try omega) _) (by simp; try omega) _

set_option maxRecDepth 20000 in
set_option maxHeartbeats 4000000 in
theorem l12Next_2off {D : Int} (lx ly m x y d h c s : Int) (w : World) (i : FlI 2 lx ly m ⟨x, y, d, h, c⟩ s) (hb : nxB 2 lx ly m ⟨x, y, d, h, c⟩ s = false) (hD : nxD 2 lx ly ⟨x, y, d, h, c⟩ s = D) :
    Calls Tryd.prog 25 #[.agg #[.int .i64 x, .int .i64 y, .int .i64 d, .int .i64 h, .int .i64 c], .agg #[.int .i64 2, .int .i64 lx, .int .i64 ly, .int .i64 m], .int .i64 s] w fun e w' => e = .returned (.tuple #[.agg #[.int .i64 x, .int .i64 y, .int .i64 D, .int .i64 h, .int .i64 c], .bool true]) ∧ Below w.heap.size w w' := by
  have f := cfB_facts i.so
  have s0 := i.s0
  have g := lgB_2 i.lg
  have hd := nxD_in i
  rw [hD] at hd
  replace f : (-1000 ≤ x ∧ x ≤ 1000) ∧ (-1000 ≤ y ∧ y ≤ 1000) ∧ (0 ≤ d ∧ d ≤ 7) ∧ (0 ≤ h ∧ h ≤ 2000) ∧ (-20 ≤ c ∧ c ≤ 20) := f
  obtain ⟨⟨x0, x1⟩, ⟨y0, y1⟩, ⟨d0, d1⟩, ⟨h0, h1⟩, c0, c1⟩ := f
  have hd0 := hd.1
  have hd1 := hd.2
  clear hd
  have hp : ¬ s < m := of_decide_eq_false (show decide (s < m) = false from hb)
  have h2 := i.s2 rfl
  have e : D = lx := by rw [← hD]; rfl
  subst e
  obtain rfl : s = m := by omega
  clear hb hD i
  go_enter Tryd.func25, Tryd.ntmps25
  go_wp2
  try rw [Exit.noGoto_ret]
  refine bodyPost_ret (v := .tuple #[.agg #[.int .i64 x, .int .i64 y, .int .i64 D, .int .i64 h, .int .i64 c], .bool true]) (by simp [results, Tryd.results25, go_sem]) rfl ⟨rfl, ?_⟩
  exact (by repeat (first | exact Below.refl _ _ | refine Below.alloc ?_ (by simp; try omega) _ | refine Below.setCell ?_ (by simp; try omega) _ | refine lgDr ?_ _))

set_option maxRecDepth 20000 in
set_option maxHeartbeats 4000000 in
theorem l12Next_2on {D : Int} (lx ly m x y d h c s : Int) (w : World) (i : FlI 2 lx ly m ⟨x, y, d, h, c⟩ s) (hb : nxB 2 lx ly m ⟨x, y, d, h, c⟩ s = true) (hD : nxD 2 lx ly ⟨x, y, d, h, c⟩ s = D) :
    Calls Tryd.prog 25 #[.agg #[.int .i64 x, .int .i64 y, .int .i64 d, .int .i64 h, .int .i64 c], .agg #[.int .i64 2, .int .i64 lx, .int .i64 ly, .int .i64 m], .int .i64 s] w fun e w' => e = .returned (.tuple #[.agg #[.int .i64 (x + dirX D), .int .i64 (y + dirY D), .int .i64 D, .int .i64 (upH h c), .int .i64 c], .bool false]) ∧ Below w.heap.size w w' := by
  have f := cfB_facts i.so
  have s0 := i.s0
  have g := lgB_2 i.lg
  have hd := nxD_in i
  rw [hD] at hd
  replace f : (-1000 ≤ x ∧ x ≤ 1000) ∧ (-1000 ≤ y ∧ y ≤ 1000) ∧ (0 ≤ d ∧ d ≤ 7) ∧ (0 ≤ h ∧ h ≤ 2000) ∧ (-20 ≤ c ∧ c ≤ 20) := f
  obtain ⟨⟨x0, x1⟩, ⟨y0, y1⟩, ⟨d0, d1⟩, ⟨h0, h1⟩, c0, c1⟩ := f
  have hd0 := hd.1
  have hd1 := hd.2
  clear hd i
  have hp : s < m := of_decide_eq_true (show decide (s < m) = true from hb)
  have e : D = lx := by rw [← hD]; rfl
  subst e
  have hq : (s == m) = false := by simp; omega
  clear hb hD
  go_enter Tryd.func25, Tryd.ntmps25
  go_wp2_with (go_at_call 40; refine (l12Step_is _ _ _ _ _ _ (by omega) (by omega) ⟨by omega, by omega⟩ ⟨by omega, by omega⟩ ⟨by omega, by omega⟩ ⟨by omega, by omega⟩).mono ?_; rintro e w9 ⟨rfl, b9⟩; have K9 : Hid (Blk w9 (w.heap.size + 1 + 1) [.int .i64 0, .int .i64 0, .int .i64 0, .int .i64 0, .int .i64 0]) := hide (Blk.below (by first | exact blkAt3_2 | exact blkAt3_2.other (by simp) _) b9); have B9 := hide (Below.trans (by repeat (first | exact Below.refl _ _ | refine Below.alloc ?_ (by simp; try omega) _ | refine Below.setCell ?_ (by simp; try omega) _ | refine lgDr ?_ _)) (b9.mono (by simp; try omega)) : Below w.heap.size w w9); clear b9; have r0 : w9.cell? ⟨w.heap.size + 1 + 1, 0, none⟩ = some (.int .i64 0) := (unhide K9).c 0 (by simp); have z0 : w9.frozen? ⟨w.heap.size + 1 + 1, 0, none⟩ = false := (unhide K9).f 0 (by simp); have r1 : w9.cell? ⟨w.heap.size + 1 + 1, 1, none⟩ = some (.int .i64 0) := (unhide K9).c 1 (by simp); have z1 : w9.frozen? ⟨w.heap.size + 1 + 1, 1, none⟩ = false := (unhide K9).f 1 (by simp); have r2 : w9.cell? ⟨w.heap.size + 1 + 1, 2, none⟩ = some (.int .i64 0) := (unhide K9).c 2 (by simp); have z2 : w9.frozen? ⟨w.heap.size + 1 + 1, 2, none⟩ = false := (unhide K9).f 2 (by simp); have r3 : w9.cell? ⟨w.heap.size + 1 + 1, 3, none⟩ = some (.int .i64 0) := (unhide K9).c 3 (by simp); have z3 : w9.frozen? ⟨w.heap.size + 1 + 1, 3, none⟩ = false := (unhide K9).f 3 (by simp); have r4 : w9.cell? ⟨w.heap.size + 1 + 1, 4, none⟩ = some (.int .i64 0) := (unhide K9).c 4 (by simp); have z4 : w9.frozen? ⟨w.heap.size + 1 + 1, 4, none⟩ = false := (unhide K9).f 4 (by simp))
  try rw [Exit.noGoto_ret]
  have KR := ((((((unhide K9).set 0 (by simp) (.int .i64 (x + dirX D))).set 1 (by simp) (.int .i64 (y + dirY D))).set 2 (by simp) (.int .i64 D)).set 3 (by simp) (.int .i64 (upH h c))).set 4 (by simp) (.int .i64 c))
  refine bodyPost_ret (results_cellB (vs := [.int .i64 (x + dirX D), .int .i64 (y + dirY D), .int .i64 D, .int .i64 (upH h c), .int .i64 c]) rfl Tryd.isAgg26 Tryd.sizeOf26 rfl (by simpa using KR) rfl) rfl ⟨rfl, ?_⟩
  exact Below.setCell (Below.setCell (Below.setCell (Below.setCell (Below.setCell (unhide B9) (by simp; try omega) _) (by simp; try omega) _) (by simp; try omega) _) (by simp; try omega) _) (by simp; try omega) _

set_option maxRecDepth 20000 in
set_option maxHeartbeats 4000000 in
theorem l12Next_5off {D : Int} (lx ly m x y d h c s : Int) (w : World) (i : FlI 5 lx ly m ⟨x, y, d, h, c⟩ s) (hb : nxB 5 lx ly m ⟨x, y, d, h, c⟩ s = false) (hD : nxD 5 lx ly ⟨x, y, d, h, c⟩ s = D) :
    Calls Tryd.prog 25 #[.agg #[.int .i64 x, .int .i64 y, .int .i64 d, .int .i64 h, .int .i64 c], .agg #[.int .i64 5, .int .i64 lx, .int .i64 ly, .int .i64 m], .int .i64 s] w fun e w' => e = .returned (.tuple #[.agg #[.int .i64 x, .int .i64 y, .int .i64 D, .int .i64 h, .int .i64 c], .bool true]) ∧ Below w.heap.size w w' := by
  have f := cfB_facts i.so
  have s0 := i.s0
  have g := lgB_5 i.lg
  have hd := nxD_in i
  rw [hD] at hd
  replace f : (-1000 ≤ x ∧ x ≤ 1000) ∧ (-1000 ≤ y ∧ y ≤ 1000) ∧ (0 ≤ d ∧ d ≤ 7) ∧ (0 ≤ h ∧ h ≤ 2000) ∧ (-20 ≤ c ∧ c ≤ 20) := f
  obtain ⟨⟨x0, x1⟩, ⟨y0, y1⟩, ⟨d0, d1⟩, ⟨h0, h1⟩, c0, c1⟩ := f
  have hd0 := hd.1
  have hd1 := hd.2
  clear hd i
  have hp : d = lx := by have e := of_decide_eq_false (show decide (¬ d = lx) = false from hb); exact Classical.not_not.1 e
  have e : D = d := by rw [← hD]; show (if d = lx then d else (d + ly + 8) % 8) = d; rw [if_pos hp]
  subst e
  subst hp
  clear hb hD
  go_enter Tryd.func25, Tryd.ntmps25
  go_wp2
  try rw [Exit.noGoto_ret]
  refine bodyPost_ret (v := .tuple #[.agg #[.int .i64 x, .int .i64 y, .int .i64 D, .int .i64 h, .int .i64 c], .bool true]) (by simp [results, Tryd.results25, go_sem]) rfl ⟨rfl, ?_⟩
  exact (by repeat (first | exact Below.refl _ _ | refine Below.alloc ?_ (by simp; try omega) _ | refine Below.setCell ?_ (by simp; try omega) _ | refine lgDr ?_ _))

set_option maxRecDepth 20000 in
set_option maxHeartbeats 4000000 in
theorem l12Next_5on {D : Int} (lx ly m x y d h c s : Int) (w : World) (i : FlI 5 lx ly m ⟨x, y, d, h, c⟩ s) (hb : nxB 5 lx ly m ⟨x, y, d, h, c⟩ s = true) (hD : nxD 5 lx ly ⟨x, y, d, h, c⟩ s = D) :
    Calls Tryd.prog 25 #[.agg #[.int .i64 x, .int .i64 y, .int .i64 d, .int .i64 h, .int .i64 c], .agg #[.int .i64 5, .int .i64 lx, .int .i64 ly, .int .i64 m], .int .i64 s] w fun e w' => e = .returned (.tuple #[.agg #[.int .i64 (x + dirX D), .int .i64 (y + dirY D), .int .i64 D, .int .i64 (upH h c), .int .i64 c], .bool false]) ∧ Below w.heap.size w w' := by
  have f := cfB_facts i.so
  have s0 := i.s0
  have g := lgB_5 i.lg
  have hd := nxD_in i
  rw [hD] at hd
  replace f : (-1000 ≤ x ∧ x ≤ 1000) ∧ (-1000 ≤ y ∧ y ≤ 1000) ∧ (0 ≤ d ∧ d ≤ 7) ∧ (0 ≤ h ∧ h ≤ 2000) ∧ (-20 ≤ c ∧ c ≤ 20) := f
  obtain ⟨⟨x0, x1⟩, ⟨y0, y1⟩, ⟨d0, d1⟩, ⟨h0, h1⟩, c0, c1⟩ := f
  have hd0 := hd.1
  have hd1 := hd.2
  clear hd i
  have hp : ¬ d = lx := of_decide_eq_true (show decide (¬ d = lx) = true from hb)
  have e : D = (d + ly + 8) % 8 := by rw [← hD]; show (if d = lx then d else (d + ly + 8) % 8) = _; rw [if_neg hp]
  have hq : (d == lx) = false := by simpa using hp
  have ht : (d + ly + 8).tmod 8 = D := by rw [e]; exact Int.tmod_eq_emod_of_nonneg (by omega)
  clear hb hD e hp
  go_enter Tryd.func25, Tryd.ntmps25
  go_wp2_with (go_at_call 40; refine (l12Step_is _ _ _ _ _ _ (by omega) (by omega) ⟨by omega, by omega⟩ ⟨by omega, by omega⟩ ⟨by omega, by omega⟩ ⟨by omega, by omega⟩).mono ?_; rintro e w9 ⟨rfl, b9⟩; have K9 : Hid (Blk w9 (w.heap.size + 1 + 1) [.int .i64 0, .int .i64 0, .int .i64 0, .int .i64 0, .int .i64 0]) := hide (Blk.below (by first | exact blkAt3_2 | exact blkAt3_2.other (by simp) _) b9); have B9 := hide (Below.trans (by repeat (first | exact Below.refl _ _ | refine Below.alloc ?_ (by simp; try omega) _ | refine Below.setCell ?_ (by simp; try omega) _ | refine lgDr ?_ _)) (b9.mono (by simp; try omega)) : Below w.heap.size w w9); clear b9; have r0 : w9.cell? ⟨w.heap.size + 1 + 1, 0, none⟩ = some (.int .i64 0) := (unhide K9).c 0 (by simp); have z0 : w9.frozen? ⟨w.heap.size + 1 + 1, 0, none⟩ = false := (unhide K9).f 0 (by simp); have r1 : w9.cell? ⟨w.heap.size + 1 + 1, 1, none⟩ = some (.int .i64 0) := (unhide K9).c 1 (by simp); have z1 : w9.frozen? ⟨w.heap.size + 1 + 1, 1, none⟩ = false := (unhide K9).f 1 (by simp); have r2 : w9.cell? ⟨w.heap.size + 1 + 1, 2, none⟩ = some (.int .i64 0) := (unhide K9).c 2 (by simp); have z2 : w9.frozen? ⟨w.heap.size + 1 + 1, 2, none⟩ = false := (unhide K9).f 2 (by simp); have r3 : w9.cell? ⟨w.heap.size + 1 + 1, 3, none⟩ = some (.int .i64 0) := (unhide K9).c 3 (by simp); have z3 : w9.frozen? ⟨w.heap.size + 1 + 1, 3, none⟩ = false := (unhide K9).f 3 (by simp); have r4 : w9.cell? ⟨w.heap.size + 1 + 1, 4, none⟩ = some (.int .i64 0) := (unhide K9).c 4 (by simp); have z4 : w9.frozen? ⟨w.heap.size + 1 + 1, 4, none⟩ = false := (unhide K9).f 4 (by simp))
  try rw [Exit.noGoto_ret]
  have KR := ((((((unhide K9).set 0 (by simp) (.int .i64 (x + dirX D))).set 1 (by simp) (.int .i64 (y + dirY D))).set 2 (by simp) (.int .i64 D)).set 3 (by simp) (.int .i64 (upH h c))).set 4 (by simp) (.int .i64 c))
  refine bodyPost_ret (results_cellB (vs := [.int .i64 (x + dirX D), .int .i64 (y + dirY D), .int .i64 D, .int .i64 (upH h c), .int .i64 c]) rfl Tryd.isAgg26 Tryd.sizeOf26 rfl (by simpa using KR) rfl) rfl ⟨rfl, ?_⟩
  exact Below.setCell (Below.setCell (Below.setCell (Below.setCell (Below.setCell (unhide B9) (by simp; try omega) _) (by simp; try omega) _) (by simp; try omega) _) (by simp; try omega) _) (by simp; try omega) _

set_option maxRecDepth 20000 in
set_option maxHeartbeats 4000000 in
theorem l12Next_4off {D : Int} (lx ly m x y d h c s : Int) (w : World) (i : FlI 4 lx ly m ⟨x, y, d, h, c⟩ s) (hb : nxB 4 lx ly m ⟨x, y, d, h, c⟩ s = false) (hD : nxD 4 lx ly ⟨x, y, d, h, c⟩ s = D) :
    Calls Tryd.prog 25 #[.agg #[.int .i64 x, .int .i64 y, .int .i64 d, .int .i64 h, .int .i64 c], .agg #[.int .i64 4, .int .i64 lx, .int .i64 ly, .int .i64 m], .int .i64 s] w fun e w' => e = .returned (.tuple #[.agg #[.int .i64 x, .int .i64 y, .int .i64 D, .int .i64 h, .int .i64 c], .bool true]) ∧ Below w.heap.size w w' := by
  have f := cfB_facts i.so
  have s0 := i.s0
  have g := lgB_4 i.lg
  have hd := nxD_in i
  rw [hD] at hd
  replace f : (-1000 ≤ x ∧ x ≤ 1000) ∧ (-1000 ≤ y ∧ y ≤ 1000) ∧ (0 ≤ d ∧ d ≤ 7) ∧ (0 ≤ h ∧ h ≤ 2000) ∧ (-20 ≤ c ∧ c ≤ 20) := f
  obtain ⟨⟨x0, x1⟩, ⟨y0, y1⟩, ⟨d0, d1⟩, ⟨h0, h1⟩, c0, c1⟩ := f
  have hd0 := hd.1
  have hd1 := hd.2
  clear hd
  have hp : ¬ s < 16 * m := of_decide_eq_false (show decide (s < 16 * m) = false from hb)
  have h4 := i.s4 rfl
  have e : D = (d + 1) % 8 := by
    rw [← hD]; show (if 0 < s ∧ s % 2 = 0 then (d + 1) % 8 else d) = _; rw [if_pos (by omega)]
  have ht : (d + 1).tmod 8 = D := by rw [e]; exact Int.tmod_eq_emod_of_nonneg (by omega)
  have hz : (s.tmod 2 == 0) = true := by rw [Int.tmod_eq_emod_of_nonneg (by omega)]; simp; omega
  have hs : 0 < s := by omega
  have hq : (s == 16 * m) = true := by simp; omega
  clear hb hD e i
  go_enter Tryd.func25, Tryd.ntmps25
  go_wp2
  try rw [Exit.noGoto_ret]
  refine bodyPost_ret (v := .tuple #[.agg #[.int .i64 x, .int .i64 y, .int .i64 D, .int .i64 h, .int .i64 c], .bool true]) (by simp [results, Tryd.results25, go_sem]) rfl ⟨rfl, ?_⟩
  exact (by repeat (first | exact Below.refl _ _ | refine Below.alloc ?_ (by simp; try omega) _ | refine Below.setCell ?_ (by simp; try omega) _ | refine lgDr ?_ _))

set_option maxRecDepth 20000 in
set_option maxHeartbeats 4000000 in
theorem l12Next_4ont {D : Int} (lx ly m x y d h c s : Int) (w : World) (i : FlI 4 lx ly m ⟨x, y, d, h, c⟩ s) (hs : 0 < s ∧ s % 2 = 0) (hb : nxB 4 lx ly m ⟨x, y, d, h, c⟩ s = true) (hD : nxD 4 lx ly ⟨x, y, d, h, c⟩ s = D) :
    Calls Tryd.prog 25 #[.agg #[.int .i64 x, .int .i64 y, .int .i64 d, .int .i64 h, .int .i64 c], .agg #[.int .i64 4, .int .i64 lx, .int .i64 ly, .int .i64 m], .int .i64 s] w fun e w' => e = .returned (.tuple #[.agg #[.int .i64 (x + dirX D), .int .i64 (y + dirY D), .int .i64 D, .int .i64 (upH h c), .int .i64 c], .bool false]) ∧ Below w.heap.size w w' := by
  have f := cfB_facts i.so
  have s0 := i.s0
  have g := lgB_4 i.lg
  have hd := nxD_in i
  rw [hD] at hd
  replace f : (-1000 ≤ x ∧ x ≤ 1000) ∧ (-1000 ≤ y ∧ y ≤ 1000) ∧ (0 ≤ d ∧ d ≤ 7) ∧ (0 ≤ h ∧ h ≤ 2000) ∧ (-20 ≤ c ∧ c ≤ 20) := f
  obtain ⟨⟨x0, x1⟩, ⟨y0, y1⟩, ⟨d0, d1⟩, ⟨h0, h1⟩, c0, c1⟩ := f
  have hd0 := hd.1
  have hd1 := hd.2
  clear hd i
  have hp : s < 16 * m := of_decide_eq_true (show decide (s < 16 * m) = true from hb)
  have e : D = (d + 1) % 8 := by
    rw [← hD]; show (if 0 < s ∧ s % 2 = 0 then (d + 1) % 8 else d) = _; rw [if_pos hs]
  have ht : (d + 1).tmod 8 = D := by rw [e]; exact Int.tmod_eq_emod_of_nonneg (by omega)
  have hz : (s.tmod 2 == 0) = true := by rw [Int.tmod_eq_emod_of_nonneg (by omega)]; simp; omega
  have hz2 : (s % 2 == 0) = true := by simp; omega
  have ht2 : (d + 1) % 8 = D := e.symm
  have hs0 : 0 < s := hs.1
  have hq : (s == 16 * m) = false := by simp; omega
  clear hb hD e hs
  go_enter Tryd.func25, Tryd.ntmps25
  go_wp2_with (go_at_call 40; refine (l12Step_is _ _ _ _ _ _ (by omega) (by omega) ⟨by omega, by omega⟩ ⟨by omega, by omega⟩ ⟨by omega, by omega⟩ ⟨by omega, by omega⟩).mono ?_; rintro e w9 ⟨rfl, b9⟩; have K9 : Hid (Blk w9 (w.heap.size + 1 + 1) [.int .i64 0, .int .i64 0, .int .i64 0, .int .i64 0, .int .i64 0]) := hide (Blk.below (by first | exact blkAt3_2 | exact blkAt3_2.other (by simp) _) b9); have B9 := hide (Below.trans (by repeat (first | exact Below.refl _ _ | refine Below.alloc ?_ (by simp; try omega) _ | refine Below.setCell ?_ (by simp; try omega) _ | refine lgDr ?_ _)) (b9.mono (by simp; try omega)) : Below w.heap.size w w9); clear b9; have r0 : w9.cell? ⟨w.heap.size + 1 + 1, 0, none⟩ = some (.int .i64 0) := (unhide K9).c 0 (by simp); have z0 : w9.frozen? ⟨w.heap.size + 1 + 1, 0, none⟩ = false := (unhide K9).f 0 (by simp); have r1 : w9.cell? ⟨w.heap.size + 1 + 1, 1, none⟩ = some (.int .i64 0) := (unhide K9).c 1 (by simp); have z1 : w9.frozen? ⟨w.heap.size + 1 + 1, 1, none⟩ = false := (unhide K9).f 1 (by simp); have r2 : w9.cell? ⟨w.heap.size + 1 + 1, 2, none⟩ = some (.int .i64 0) := (unhide K9).c 2 (by simp); have z2 : w9.frozen? ⟨w.heap.size + 1 + 1, 2, none⟩ = false := (unhide K9).f 2 (by simp); have r3 : w9.cell? ⟨w.heap.size + 1 + 1, 3, none⟩ = some (.int .i64 0) := (unhide K9).c 3 (by simp); have z3 : w9.frozen? ⟨w.heap.size + 1 + 1, 3, none⟩ = false := (unhide K9).f 3 (by simp); have r4 : w9.cell? ⟨w.heap.size + 1 + 1, 4, none⟩ = some (.int .i64 0) := (unhide K9).c 4 (by simp); have z4 : w9.frozen? ⟨w.heap.size + 1 + 1, 4, none⟩ = false := (unhide K9).f 4 (by simp))
  try rw [Exit.noGoto_ret]
  have KR := ((((((unhide K9).set 0 (by simp) (.int .i64 (x + dirX D))).set 1 (by simp) (.int .i64 (y + dirY D))).set 2 (by simp) (.int .i64 D)).set 3 (by simp) (.int .i64 (upH h c))).set 4 (by simp) (.int .i64 c))
  refine bodyPost_ret (results_cellB (vs := [.int .i64 (x + dirX D), .int .i64 (y + dirY D), .int .i64 D, .int .i64 (upH h c), .int .i64 c]) rfl Tryd.isAgg26 Tryd.sizeOf26 rfl (by simpa using KR) rfl) rfl ⟨rfl, ?_⟩
  exact Below.setCell (Below.setCell (Below.setCell (Below.setCell (Below.setCell (unhide B9) (by simp; try omega) _) (by simp; try omega) _) (by simp; try omega) _) (by simp; try omega) _) (by simp; try omega) _

set_option maxRecDepth 20000 in
set_option maxHeartbeats 4000000 in
theorem l12Next_4onf {D : Int} (lx ly m x y d h c s : Int) (w : World) (i : FlI 4 lx ly m ⟨x, y, d, h, c⟩ s) (hs : ¬ (0 < s ∧ s % 2 = 0)) (hb : nxB 4 lx ly m ⟨x, y, d, h, c⟩ s = true) (hD : nxD 4 lx ly ⟨x, y, d, h, c⟩ s = D) :
    Calls Tryd.prog 25 #[.agg #[.int .i64 x, .int .i64 y, .int .i64 d, .int .i64 h, .int .i64 c], .agg #[.int .i64 4, .int .i64 lx, .int .i64 ly, .int .i64 m], .int .i64 s] w fun e w' => e = .returned (.tuple #[.agg #[.int .i64 (x + dirX D), .int .i64 (y + dirY D), .int .i64 D, .int .i64 (upH h c), .int .i64 c], .bool false]) ∧ Below w.heap.size w w' := by
  have f := cfB_facts i.so
  have s0 := i.s0
  have g := lgB_4 i.lg
  have hd := nxD_in i
  rw [hD] at hd
  replace f : (-1000 ≤ x ∧ x ≤ 1000) ∧ (-1000 ≤ y ∧ y ≤ 1000) ∧ (0 ≤ d ∧ d ≤ 7) ∧ (0 ≤ h ∧ h ≤ 2000) ∧ (-20 ≤ c ∧ c ≤ 20) := f
  obtain ⟨⟨x0, x1⟩, ⟨y0, y1⟩, ⟨d0, d1⟩, ⟨h0, h1⟩, c0, c1⟩ := f
  have hd0 := hd.1
  have hd1 := hd.2
  clear hd i
  have hp : s < 16 * m := of_decide_eq_true (show decide (s < 16 * m) = true from hb)
  have e : D = d := by
    rw [← hD]; show (if 0 < s ∧ s % 2 = 0 then (d + 1) % 8 else d) = _; rw [if_neg hs]
  subst e
  have hq : (s == 16 * m) = false := by simp; omega
  by_cases hs0 : 0 < s
  · have hz : (s.tmod 2 == 0) = false := by rw [Int.tmod_eq_emod_of_nonneg (by omega)]; simp; omega
    have hz2 : (s % 2 == 0) = false := by simp; omega
    clear hb hD hs
    go_enter Tryd.func25, Tryd.ntmps25
    go_wp2_with (go_at_call 40; refine (l12Step_is _ _ _ _ _ _ (by omega) (by omega) ⟨by omega, by omega⟩ ⟨by omega, by omega⟩ ⟨by omega, by omega⟩ ⟨by omega, by omega⟩).mono ?_; rintro e w9 ⟨rfl, b9⟩; have K9 : Hid (Blk w9 (w.heap.size + 1 + 1) [.int .i64 0, .int .i64 0, .int .i64 0, .int .i64 0, .int .i64 0]) := hide (Blk.below (by first | exact blkAt3_2 | exact blkAt3_2.other (by simp) _) b9); have B9 := hide (Below.trans (by repeat (first | exact Below.refl _ _ | refine Below.alloc ?_ (by simp; try omega) _ | refine Below.setCell ?_ (by simp; try omega) _ | refine lgDr ?_ _)) (b9.mono (by simp; try omega)) : Below w.heap.size w w9); clear b9; have r0 : w9.cell? ⟨w.heap.size + 1 + 1, 0, none⟩ = some (.int .i64 0) := (unhide K9).c 0 (by simp); have z0 : w9.frozen? ⟨w.heap.size + 1 + 1, 0, none⟩ = false := (unhide K9).f 0 (by simp); have r1 : w9.cell? ⟨w.heap.size + 1 + 1, 1, none⟩ = some (.int .i64 0) := (unhide K9).c 1 (by simp); have z1 : w9.frozen? ⟨w.heap.size + 1 + 1, 1, none⟩ = false := (unhide K9).f 1 (by simp); have r2 : w9.cell? ⟨w.heap.size + 1 + 1, 2, none⟩ = some (.int .i64 0) := (unhide K9).c 2 (by simp); have z2 : w9.frozen? ⟨w.heap.size + 1 + 1, 2, none⟩ = false := (unhide K9).f 2 (by simp); have r3 : w9.cell? ⟨w.heap.size + 1 + 1, 3, none⟩ = some (.int .i64 0) := (unhide K9).c 3 (by simp); have z3 : w9.frozen? ⟨w.heap.size + 1 + 1, 3, none⟩ = false := (unhide K9).f 3 (by simp); have r4 : w9.cell? ⟨w.heap.size + 1 + 1, 4, none⟩ = some (.int .i64 0) := (unhide K9).c 4 (by simp); have z4 : w9.frozen? ⟨w.heap.size + 1 + 1, 4, none⟩ = false := (unhide K9).f 4 (by simp))
    try rw [Exit.noGoto_ret]
    have KR := ((((((unhide K9).set 0 (by simp) (.int .i64 (x + dirX D))).set 1 (by simp) (.int .i64 (y + dirY D))).set 2 (by simp) (.int .i64 D)).set 3 (by simp) (.int .i64 (upH h c))).set 4 (by simp) (.int .i64 c))
    refine bodyPost_ret (results_cellB (vs := [.int .i64 (x + dirX D), .int .i64 (y + dirY D), .int .i64 D, .int .i64 (upH h c), .int .i64 c]) rfl Tryd.isAgg26 Tryd.sizeOf26 rfl (by simpa using KR) rfl) rfl ⟨rfl, ?_⟩
    exact Below.setCell (Below.setCell (Below.setCell (Below.setCell (Below.setCell (unhide B9) (by simp; try omega) _) (by simp; try omega) _) (by simp; try omega) _) (by simp; try omega) _) (by simp; try omega) _
  · clear hb hD hs
    go_enter Tryd.func25, Tryd.ntmps25
    go_wp2_with (go_at_call 40; refine (l12Step_is _ _ _ _ _ _ (by omega) (by omega) ⟨by omega, by omega⟩ ⟨by omega, by omega⟩ ⟨by omega, by omega⟩ ⟨by omega, by omega⟩).mono ?_; rintro e w9 ⟨rfl, b9⟩; have K9 : Hid (Blk w9 (w.heap.size + 1 + 1) [.int .i64 0, .int .i64 0, .int .i64 0, .int .i64 0, .int .i64 0]) := hide (Blk.below (by first | exact blkAt3_2 | exact blkAt3_2.other (by simp) _) b9); have B9 := hide (Below.trans (by repeat (first | exact Below.refl _ _ | refine Below.alloc ?_ (by simp; try omega) _ | refine Below.setCell ?_ (by simp; try omega) _ | refine lgDr ?_ _)) (b9.mono (by simp; try omega)) : Below w.heap.size w w9); clear b9; have r0 : w9.cell? ⟨w.heap.size + 1 + 1, 0, none⟩ = some (.int .i64 0) := (unhide K9).c 0 (by simp); have z0 : w9.frozen? ⟨w.heap.size + 1 + 1, 0, none⟩ = false := (unhide K9).f 0 (by simp); have r1 : w9.cell? ⟨w.heap.size + 1 + 1, 1, none⟩ = some (.int .i64 0) := (unhide K9).c 1 (by simp); have z1 : w9.frozen? ⟨w.heap.size + 1 + 1, 1, none⟩ = false := (unhide K9).f 1 (by simp); have r2 : w9.cell? ⟨w.heap.size + 1 + 1, 2, none⟩ = some (.int .i64 0) := (unhide K9).c 2 (by simp); have z2 : w9.frozen? ⟨w.heap.size + 1 + 1, 2, none⟩ = false := (unhide K9).f 2 (by simp); have r3 : w9.cell? ⟨w.heap.size + 1 + 1, 3, none⟩ = some (.int .i64 0) := (unhide K9).c 3 (by simp); have z3 : w9.frozen? ⟨w.heap.size + 1 + 1, 3, none⟩ = false := (unhide K9).f 3 (by simp); have r4 : w9.cell? ⟨w.heap.size + 1 + 1, 4, none⟩ = some (.int .i64 0) := (unhide K9).c 4 (by simp); have z4 : w9.frozen? ⟨w.heap.size + 1 + 1, 4, none⟩ = false := (unhide K9).f 4 (by simp))
    try rw [Exit.noGoto_ret]
    have KR := ((((((unhide K9).set 0 (by simp) (.int .i64 (x + dirX D))).set 1 (by simp) (.int .i64 (y + dirY D))).set 2 (by simp) (.int .i64 D)).set 3 (by simp) (.int .i64 (upH h c))).set 4 (by simp) (.int .i64 c))
    refine bodyPost_ret (results_cellB (vs := [.int .i64 (x + dirX D), .int .i64 (y + dirY D), .int .i64 D, .int .i64 (upH h c), .int .i64 c]) rfl Tryd.isAgg26 Tryd.sizeOf26 rfl (by simpa using KR) rfl) rfl ⟨rfl, ?_⟩
    exact Below.setCell (Below.setCell (Below.setCell (Below.setCell (Below.setCell (unhide B9) (by simp; try omega) _) (by simp; try omega) _) (by simp; try omega) _) (by simp; try omega) _) (by simp; try omega) _

end Go.Proofs.YtkpmoolggpojdauDoor
