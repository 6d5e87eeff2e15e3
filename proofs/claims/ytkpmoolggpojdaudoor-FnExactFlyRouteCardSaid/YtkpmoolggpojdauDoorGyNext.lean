/-
  What the next turn of a way answers in the program, kind by kind: the plain answers, at crafts and legs that are so; nothing that was there is written.
-/
import Derived.Test.YtkpmoolggpojdauDoorGyStep
import Derived.RegionTactic
import Derived.ChangeAlike
namespace Go.Proofs.YtkpmoolggpojdauDoor
open Go.RowKit
theorem hold_dr {B : Nat} {w w' : World} (h : Below B w w') : Below B w w'.drew := h.trans (bel0d' 1)

set_option maxRecDepth 20000 in
set_option maxHeartbeats 1000000 in
theorem onCourse_nextoff {D : Int} (lx ly m x y d h c s : Int) (w : World) (i : FlI 2 lx ly m ⟨x, y, d, h, c⟩ s) (hb : nxB 2 lx ly m ⟨x, y, d, h, c⟩ s = false) (hD : nxD 2 lx ly ⟨x, y, d, h, c⟩ s = D) :
    Calls Tryd.prog 86 #[.agg #[.int .i64 lx, .int .i64 m], .agg #[.int .i64 x, .int .i64 y, .int .i64 d, .int .i64 h, .int .i64 c], .int .i64 s] w fun e w' => e = .returned (.tuple #[.agg #[.int .i64 x, .int .i64 y, .int .i64 D, .int .i64 h, .int .i64 c], .bool false]) ∧ Below w.heap.size w w' := by
  have f : (-1000 ≤ x ∧ x ≤ 1000) ∧ (-1000 ≤ y ∧ y ≤ 1000) ∧ (0 ≤ d ∧ d ≤ 7) ∧ (0 ≤ h ∧ h ≤ 2000) ∧ (-20 ≤ c ∧ c ≤ 20) := cfB_facts i.so
  have s0 := i.s0
  have hd := nxD_in i
  rw [hD] at hd
  obtain ⟨⟨x0, x1⟩, ⟨y0, y1⟩, ⟨d0, d1⟩, ⟨h0, h1⟩, c0, c1⟩ := f
  obtain ⟨hd0, hd1⟩ := hd
  have g := lgB_2 i.lg
  have hp : ¬ s < m := of_decide_eq_false (show decide (s < m) = false from hb)
  have e : D = lx := by rw [← hD]; rfl
  subst e
  clear hb hD i
  go_enter Tryd.func86, Tryd.ntmps86
  go_wp2_with fail
  go_region
  all_goals
    go_wp2
    refine bodyPost_ret (v := .tuple #[.agg #[.int .i64 x, .int .i64 y, .int .i64 D, .int .i64 h, .int .i64 c], .bool false]) (by simp [results, Tryd.results86, go_sem]; try omega) rfl ⟨rfl, ?_⟩
    exact (by repeat (first | exact Below.refl _ _ | refine Below.alloc ?_ (by simp; try omega) _ | refine Below.setCell ?_ (by simp; try omega) _ | refine lgDr ?_ _))

set_option maxRecDepth 20000 in
set_option maxHeartbeats 1000000 in
theorem upTo_nextoff {D : Int} (lx ly m x y d h c s : Int) (w : World) (i : FlI 3 lx ly m ⟨x, y, d, h, c⟩ s) (hb : nxB 3 lx ly m ⟨x, y, d, h, c⟩ s = false) (hD : nxD 3 lx ly ⟨x, y, d, h, c⟩ s = D) :
    Calls Tryd.prog 90 #[.agg #[.int .i64 m], .agg #[.int .i64 x, .int .i64 y, .int .i64 d, .int .i64 h, .int .i64 c], .int .i64 s] w fun e w' => e = .returned (.tuple #[.agg #[.int .i64 x, .int .i64 y, .int .i64 D, .int .i64 h, .int .i64 c], .bool false]) ∧ Below w.heap.size w w' := by
  have f : (-1000 ≤ x ∧ x ≤ 1000) ∧ (-1000 ≤ y ∧ y ≤ 1000) ∧ (0 ≤ d ∧ d ≤ 7) ∧ (0 ≤ h ∧ h ≤ 2000) ∧ (-20 ≤ c ∧ c ≤ 20) := cfB_facts i.so
  have s0 := i.s0
  have hd := nxD_in i
  rw [hD] at hd
  obtain ⟨⟨x0, x1⟩, ⟨y0, y1⟩, ⟨d0, d1⟩, ⟨h0, h1⟩, c0, c1⟩ := f
  obtain ⟨hd0, hd1⟩ := hd
  have g := lgB_3 i.lg
  have hp : ¬ h < m := of_decide_eq_false (show decide (h < m) = false from hb)
  have e : D = d := by rw [← hD]; rfl
  subst e
  clear hb hD i
  go_enter Tryd.func90, Tryd.ntmps90
  go_wp2_with fail
  go_region
  all_goals
    go_wp2
    refine bodyPost_ret (v := .tuple #[.agg #[.int .i64 x, .int .i64 y, .int .i64 D, .int .i64 h, .int .i64 c], .bool false]) (by simp [results, Tryd.results90, go_sem]; try omega) rfl ⟨rfl, ?_⟩
    exact (by repeat (first | exact Below.refl _ _ | refine Below.alloc ?_ (by simp; try omega) _ | refine Below.setCell ?_ (by simp; try omega) _ | refine lgDr ?_ _))

set_option maxRecDepth 20000 in
set_option maxHeartbeats 1000000 in
theorem onCourse_nexton {D : Int} (lx ly m x y d h c s : Int) (w : World) (i : FlI 2 lx ly m ⟨x, y, d, h, c⟩ s) (hb : nxB 2 lx ly m ⟨x, y, d, h, c⟩ s = true) (hD : nxD 2 lx ly ⟨x, y, d, h, c⟩ s = D) :
    Calls Tryd.prog 86 #[.agg #[.int .i64 lx, .int .i64 m], .agg #[.int .i64 x, .int .i64 y, .int .i64 d, .int .i64 h, .int .i64 c], .int .i64 s] w fun e w' => e = .returned (.tuple #[.agg #[.int .i64 x, .int .i64 y, .int .i64 D, .int .i64 h, .int .i64 c], .bool true]) ∧ Below w.heap.size w w' := by
  have f : (-1000 ≤ x ∧ x ≤ 1000) ∧ (-1000 ≤ y ∧ y ≤ 1000) ∧ (0 ≤ d ∧ d ≤ 7) ∧ (0 ≤ h ∧ h ≤ 2000) ∧ (-20 ≤ c ∧ c ≤ 20) := cfB_facts i.so
  have s0 := i.s0
  have hd := nxD_in i
  rw [hD] at hd
  obtain ⟨⟨x0, x1⟩, ⟨y0, y1⟩, ⟨d0, d1⟩, ⟨h0, h1⟩, c0, c1⟩ := f
  obtain ⟨hd0, hd1⟩ := hd
  have g := lgB_2 i.lg
  have hp : s < m := of_decide_eq_true (show decide (s < m) = true from hb)
  have e : D = lx := by rw [← hD]; rfl
  subst e
  clear hb hD i
  go_enter Tryd.func86, Tryd.ntmps86
  go_wp2_with fail
  go_region
  all_goals
    go_wp2
    refine bodyPost_ret (v := .tuple #[.agg #[.int .i64 x, .int .i64 y, .int .i64 D, .int .i64 h, .int .i64 c], .bool true]) (by simp [results, Tryd.results86, go_sem]; try omega) rfl ⟨rfl, ?_⟩
    exact (by repeat (first | exact Below.refl _ _ | refine Below.alloc ?_ (by simp; try omega) _ | refine Below.setCell ?_ (by simp; try omega) _ | refine lgDr ?_ _))

set_option maxRecDepth 20000 in
set_option maxHeartbeats 1000000 in
theorem upTo_nexton {D : Int} (lx ly m x y d h c s : Int) (w : World) (i : FlI 3 lx ly m ⟨x, y, d, h, c⟩ s) (hb : nxB 3 lx ly m ⟨x, y, d, h, c⟩ s = true) (hD : nxD 3 lx ly ⟨x, y, d, h, c⟩ s = D) :
    Calls Tryd.prog 90 #[.agg #[.int .i64 m], .agg #[.int .i64 x, .int .i64 y, .int .i64 d, .int .i64 h, .int .i64 c], .int .i64 s] w fun e w' => e = .returned (.tuple #[.agg #[.int .i64 x, .int .i64 y, .int .i64 D, .int .i64 h, .int .i64 c], .bool true]) ∧ Below w.heap.size w w' := by
  have f : (-1000 ≤ x ∧ x ≤ 1000) ∧ (-1000 ≤ y ∧ y ≤ 1000) ∧ (0 ≤ d ∧ d ≤ 7) ∧ (0 ≤ h ∧ h ≤ 2000) ∧ (-20 ≤ c ∧ c ≤ 20) := cfB_facts i.so
  have s0 := i.s0
  have hd := nxD_in i
  rw [hD] at hd
  obtain ⟨⟨x0, x1⟩, ⟨y0, y1⟩, ⟨d0, d1⟩, ⟨h0, h1⟩, c0, c1⟩ := f
  obtain ⟨hd0, hd1⟩ := hd
  have g := lgB_3 i.lg
  have hp : h < m := of_decide_eq_true (show decide (h < m) = true from hb)
  have e : D = d := by rw [← hD]; rfl
  subst e
  clear hb hD i
  go_enter Tryd.func90, Tryd.ntmps90
  go_wp2_with fail
  go_region
  all_goals
    go_wp2
    refine bodyPost_ret (v := .tuple #[.agg #[.int .i64 x, .int .i64 y, .int .i64 D, .int .i64 h, .int .i64 c], .bool true]) (by simp [results, Tryd.results90, go_sem]; try omega) rfl ⟨rfl, ?_⟩
    exact (by repeat (first | exact Below.refl _ _ | refine Below.alloc ?_ (by simp; try omega) _ | refine Below.setCell ?_ (by simp; try omega) _ | refine lgDr ?_ _))

set_option maxRecDepth 20000 in
set_option maxHeartbeats 1000000 in
theorem byTurn_nextoff {D : Int} (lx ly m x y d h c s : Int) (w : World) (i : FlI 5 lx ly m ⟨x, y, d, h, c⟩ s) (hb : nxB 5 lx ly m ⟨x, y, d, h, c⟩ s = false) (hD : nxD 5 lx ly ⟨x, y, d, h, c⟩ s = D) :
    Calls Tryd.prog 97 #[.agg #[.int .i64 lx, .int .i64 ly], .agg #[.int .i64 x, .int .i64 y, .int .i64 d, .int .i64 h, .int .i64 c], .int .i64 s] w fun e w' => e = .returned (.tuple #[.agg #[.int .i64 x, .int .i64 y, .int .i64 D, .int .i64 h, .int .i64 c], .bool false]) ∧ Below w.heap.size w w' := by
  have f : (-1000 ≤ x ∧ x ≤ 1000) ∧ (-1000 ≤ y ∧ y ≤ 1000) ∧ (0 ≤ d ∧ d ≤ 7) ∧ (0 ≤ h ∧ h ≤ 2000) ∧ (-20 ≤ c ∧ c ≤ 20) := cfB_facts i.so
  have s0 := i.s0
  have hd := nxD_in i
  rw [hD] at hd
  obtain ⟨⟨x0, x1⟩, ⟨y0, y1⟩, ⟨d0, d1⟩, ⟨h0, h1⟩, c0, c1⟩ := f
  obtain ⟨hd0, hd1⟩ := hd
  have g := lgB_5 i.lg
  have hp : d = lx := by have e := of_decide_eq_false (show decide (¬ d = lx) = false from hb); exact Classical.not_not.1 e
  have HT : Hid ((d + ly + 8) % 8 = (d + ly + 8) % 8) := hide rfl
  have e : D = d := by rw [← hD]; show (if d = lx then d else (d + ly + 8) % 8) = _; rw [if_pos hp]
  subst e
  subst hp
  clear hb hD i
  go_enter Tryd.func97, Tryd.ntmps97
  go_wp2
  refine bodyPost_ret (v := .tuple #[.agg #[.int .i64 x, .int .i64 y, .int .i64 D, .int .i64 h, .int .i64 c], .bool false]) (by simp [results, Tryd.results97, go_sem]; try omega) rfl ⟨rfl, ?_⟩
  exact (by repeat (first | exact Below.refl _ _ | refine Below.alloc ?_ (by simp; try omega) _ | refine Below.setCell ?_ (by simp; try omega) _ | refine lgDr ?_ _))

set_option maxRecDepth 20000 in
set_option maxHeartbeats 1000000 in
theorem byTurn_nexton {D : Int} (lx ly m x y d h c s : Int) (w : World) (i : FlI 5 lx ly m ⟨x, y, d, h, c⟩ s) (hb : nxB 5 lx ly m ⟨x, y, d, h, c⟩ s = true) (hD : nxD 5 lx ly ⟨x, y, d, h, c⟩ s = D) :
    Calls Tryd.prog 97 #[.agg #[.int .i64 lx, .int .i64 ly], .agg #[.int .i64 x, .int .i64 y, .int .i64 d, .int .i64 h, .int .i64 c], .int .i64 s] w fun e w' => e = .returned (.tuple #[.agg #[.int .i64 x, .int .i64 y, .int .i64 D, .int .i64 h, .int .i64 c], .bool true]) ∧ Below w.heap.size w w' := by
  have f : (-1000 ≤ x ∧ x ≤ 1000) ∧ (-1000 ≤ y ∧ y ≤ 1000) ∧ (0 ≤ d ∧ d ≤ 7) ∧ (0 ≤ h ∧ h ≤ 2000) ∧ (-20 ≤ c ∧ c ≤ 20) := cfB_facts i.so
  have s0 := i.s0
  have hd := nxD_in i
  rw [hD] at hd
  obtain ⟨⟨x0, x1⟩, ⟨y0, y1⟩, ⟨d0, d1⟩, ⟨h0, h1⟩, c0, c1⟩ := f
  obtain ⟨hd0, hd1⟩ := hd
  have g := lgB_5 i.lg
  have hp : ¬ d = lx := of_decide_eq_true (show decide (¬ d = lx) = true from hb)
  have HT : Hid ((d + ly + 8) % 8 = (d + ly + 8) % 8) := hide rfl
  have e : D = (d + ly + 8) % 8 := by rw [← hD]; show (if d = lx then d else (d + ly + 8) % 8) = _; rw [if_neg hp]
  have HT : Hid ((d + ly + 8) % 8 = D) := hide e.symm
  have hq : (d == lx) = false := by simpa using hp
  have hg : ly = -1 ∨ ly = 1 := g.2
  have HG := hide hg
  clear hb hD e hp hg g i
  go_enter Tryd.func97, Tryd.ntmps97
  go_wp2_with (go_at_call 95; refine (turned_is _ _ _ _ _ _ _ (by omega) (by omega) (unhide HG) (unhide HT)).mono ?_; rintro e w8 ⟨rfl, b8⟩; have K8 : Hid (Blk w8 w.heap.size [.int .i64 lx, .int .i64 ly] ∧ Blk w8 (w.heap.size + 1) [.int .i64 x, .int .i64 y, .int .i64 d, .int .i64 h, .int .i64 c] ∧ Blk w8 (w.heap.size + 1 + 1) [.int .i64 0, .int .i64 0, .int .i64 0, .int .i64 0, .int .i64 0] ∧ Below w.heap.size w w8) := hide ⟨blkAt3_0.below b8, blkAt3_1.below b8, blkAt3_2.below b8, (bel3 _ _ _).trans (b8.mono (by simp; try omega))⟩; clear b8; have v0' : w8.cell? ⟨w.heap.size, 0, none⟩ = some (.int .i64 lx) := (unhide K8).1.c 0 (by simp); have v1' : w8.cell? ⟨w.heap.size, 1, none⟩ = some (.int .i64 ly) := (unhide K8).1.c 1 (by simp); have c0' : w8.cell? ⟨w.heap.size + 1, 0, none⟩ = some (.int .i64 x) := (unhide K8).2.1.c 0 (by simp); have c1' : w8.cell? ⟨w.heap.size + 1, 1, none⟩ = some (.int .i64 y) := (unhide K8).2.1.c 1 (by simp); have c2' : w8.cell? ⟨w.heap.size + 1, 2, none⟩ = some (.int .i64 d) := (unhide K8).2.1.c 2 (by simp); have c3' : w8.cell? ⟨w.heap.size + 1, 3, none⟩ = some (.int .i64 h) := (unhide K8).2.1.c 3 (by simp); have c4' : w8.cell? ⟨w.heap.size + 1, 4, none⟩ = some (.int .i64 c) := (unhide K8).2.1.c 4 (by simp); have cf0 : w8.frozen? ⟨w.heap.size + 1, 0, none⟩ = false := (unhide K8).2.1.f 0 (by simp); have cf1 : w8.frozen? ⟨w.heap.size + 1, 1, none⟩ = false := (unhide K8).2.1.f 1 (by simp); have cf2 : w8.frozen? ⟨w.heap.size + 1, 2, none⟩ = false := (unhide K8).2.1.f 2 (by simp); have cf3 : w8.frozen? ⟨w.heap.size + 1, 3, none⟩ = false := (unhide K8).2.1.f 3 (by simp); have cf4 : w8.frozen? ⟨w.heap.size + 1, 4, none⟩ = false := (unhide K8).2.1.f 4 (by simp); have r0' : w8.cell? ⟨w.heap.size + 1 + 1, 0, none⟩ = some (.int .i64 0) := (unhide K8).2.2.1.c 0 (by simp); have r1' : w8.cell? ⟨w.heap.size + 1 + 1, 1, none⟩ = some (.int .i64 0) := (unhide K8).2.2.1.c 1 (by simp); have r2' : w8.cell? ⟨w.heap.size + 1 + 1, 2, none⟩ = some (.int .i64 0) := (unhide K8).2.2.1.c 2 (by simp); have r3' : w8.cell? ⟨w.heap.size + 1 + 1, 3, none⟩ = some (.int .i64 0) := (unhide K8).2.2.1.c 3 (by simp); have r4' : w8.cell? ⟨w.heap.size + 1 + 1, 4, none⟩ = some (.int .i64 0) := (unhide K8).2.2.1.c 4 (by simp); have rf0 : w8.frozen? ⟨w.heap.size + 1 + 1, 0, none⟩ = false := (unhide K8).2.2.1.f 0 (by simp); have rf1 : w8.frozen? ⟨w.heap.size + 1 + 1, 1, none⟩ = false := (unhide K8).2.2.1.f 1 (by simp); have rf2 : w8.frozen? ⟨w.heap.size + 1 + 1, 2, none⟩ = false := (unhide K8).2.2.1.f 2 (by simp); have rf3 : w8.frozen? ⟨w.heap.size + 1 + 1, 3, none⟩ = false := (unhide K8).2.2.1.f 3 (by simp); have rf4 : w8.frozen? ⟨w.heap.size + 1 + 1, 4, none⟩ = false := (unhide K8).2.2.1.f 4 (by simp))
  refine bodyPost_ret (v := .tuple #[.agg #[.int .i64 x, .int .i64 y, .int .i64 D, .int .i64 h, .int .i64 c], .bool true]) (by simp [results, Tryd.results97, go_sem, *]; try omega) rfl ⟨rfl, ?_⟩
  exact (by repeat (first | refine Below.setCell ?_ (by simp; try omega) _ | exact (unhide K8).2.2.2))

end Go.Proofs.YtkpmoolggpojdauDoor
