/-
  What the next turn of a hold answers in the program: the plain answer, at crafts and legs that are so; nothing that was there is written.
-/
import Derived.Test.YtkpmoolggpojdauDoorGyNext
namespace Go.Proofs.YtkpmoolggpojdauDoor
open Go.RowKit

set_option maxRecDepth 20000 in
set_option maxHeartbeats 1000000 in
theorem inHold_nextofft {D : Int} (lx ly m x y d h c s : Int) (w : World) (hs : 0 < s ∧ s % 2 = 0) (i : FlI 4 lx ly m ⟨x, y, d, h, c⟩ s) (hb : nxB 4 lx ly m ⟨x, y, d, h, c⟩ s = false) (hD : nxD 4 lx ly ⟨x, y, d, h, c⟩ s = D) :
    Calls Tryd.prog 93 #[.agg #[.int .i64 m], .agg #[.int .i64 x, .int .i64 y, .int .i64 d, .int .i64 h, .int .i64 c], .int .i64 s] w fun e w' => e = .returned (.tuple #[.agg #[.int .i64 x, .int .i64 y, .int .i64 D, .int .i64 h, .int .i64 c], .bool false]) ∧ Below w.heap.size w w' := by
  have f : (-1000 ≤ x ∧ x ≤ 1000) ∧ (-1000 ≤ y ∧ y ≤ 1000) ∧ (0 ≤ d ∧ d ≤ 7) ∧ (0 ≤ h ∧ h ≤ 2000) ∧ (-20 ≤ c ∧ c ≤ 20) := cfB_facts i.so
  have s0 := i.s0
  have hd := nxD_in i
  rw [hD] at hd
  obtain ⟨⟨x0, x1⟩, ⟨y0, y1⟩, ⟨d0, d1⟩, ⟨h0, h1⟩, c0, c1⟩ := f
  obtain ⟨hd0, hd1⟩ := hd
  have g := lgB_4 i.lg
  have hp : ¬ s < 16 * m := of_decide_eq_false (show decide (s < 16 * m) = false from hb)
  have g1 := g.1
  have g2 := g.2
  have e : D = (d + 1) % 8 := by rw [← hD]; show (if 0 < s ∧ s % 2 = 0 then (d + 1) % 8 else d) = _; rw [if_pos hs]
  have HT : Hid ((d + 1) % 8 = D) := hide e.symm
  have hs0 : 0 < s := hs.1
  have hz : (s.tmod 2 == 0) = true := by rw [Int.tmod_eq_emod_of_nonneg (by omega)]; simp; omega
  have hz2 : (s % 2 == 0) = true := by simp; omega
  clear hb hD i e hs g
  go_enter Tryd.func93, Tryd.ntmps93
  go_wp2_with (go_at_call 95; refine (turned_right x y d h c _ d0 d1 (unhide HT)).mono ?_; rintro e w8 ⟨rfl, b8⟩; have K8 : Hid (Blk w8 w.heap.size [.int .i64 m] ∧ Blk w8 (w.heap.size + 1) [.int .i64 x, .int .i64 y, .int .i64 d, .int .i64 h, .int .i64 c] ∧ Blk w8 (w.heap.size + 1 + 1) [.int .i64 0, .int .i64 0, .int .i64 0, .int .i64 0, .int .i64 0] ∧ Below w.heap.size w w8) := hide ⟨blkAt3_0.below b8, blkAt3_1.below b8, blkAt3_2.below b8, (bel3 _ _ _).trans (b8.mono (by simp; try omega))⟩; clear b8; have v0' : w8.cell? ⟨w.heap.size, 0, none⟩ = some (.int .i64 m) := (unhide K8).1.c 0 (by simp); have c0' : w8.cell? ⟨w.heap.size + 1, 0, none⟩ = some (.int .i64 x) := (unhide K8).2.1.c 0 (by simp); have c1' : w8.cell? ⟨w.heap.size + 1, 1, none⟩ = some (.int .i64 y) := (unhide K8).2.1.c 1 (by simp); have c2' : w8.cell? ⟨w.heap.size + 1, 2, none⟩ = some (.int .i64 d) := (unhide K8).2.1.c 2 (by simp); have c3' : w8.cell? ⟨w.heap.size + 1, 3, none⟩ = some (.int .i64 h) := (unhide K8).2.1.c 3 (by simp); have c4' : w8.cell? ⟨w.heap.size + 1, 4, none⟩ = some (.int .i64 c) := (unhide K8).2.1.c 4 (by simp); have cf0 : w8.frozen? ⟨w.heap.size + 1, 0, none⟩ = false := (unhide K8).2.1.f 0 (by simp); have cf1 : w8.frozen? ⟨w.heap.size + 1, 1, none⟩ = false := (unhide K8).2.1.f 1 (by simp); have cf2 : w8.frozen? ⟨w.heap.size + 1, 2, none⟩ = false := (unhide K8).2.1.f 2 (by simp); have cf3 : w8.frozen? ⟨w.heap.size + 1, 3, none⟩ = false := (unhide K8).2.1.f 3 (by simp); have cf4 : w8.frozen? ⟨w.heap.size + 1, 4, none⟩ = false := (unhide K8).2.1.f 4 (by simp); have r0' : w8.cell? ⟨w.heap.size + 1 + 1, 0, none⟩ = some (.int .i64 0) := (unhide K8).2.2.1.c 0 (by simp); have r1' : w8.cell? ⟨w.heap.size + 1 + 1, 1, none⟩ = some (.int .i64 0) := (unhide K8).2.2.1.c 1 (by simp); have r2' : w8.cell? ⟨w.heap.size + 1 + 1, 2, none⟩ = some (.int .i64 0) := (unhide K8).2.2.1.c 2 (by simp); have r3' : w8.cell? ⟨w.heap.size + 1 + 1, 3, none⟩ = some (.int .i64 0) := (unhide K8).2.2.1.c 3 (by simp); have r4' : w8.cell? ⟨w.heap.size + 1 + 1, 4, none⟩ = some (.int .i64 0) := (unhide K8).2.2.1.c 4 (by simp); have rf0 : w8.frozen? ⟨w.heap.size + 1 + 1, 0, none⟩ = false := (unhide K8).2.2.1.f 0 (by simp); have rf1 : w8.frozen? ⟨w.heap.size + 1 + 1, 1, none⟩ = false := (unhide K8).2.2.1.f 1 (by simp); have rf2 : w8.frozen? ⟨w.heap.size + 1 + 1, 2, none⟩ = false := (unhide K8).2.2.1.f 2 (by simp); have rf3 : w8.frozen? ⟨w.heap.size + 1 + 1, 3, none⟩ = false := (unhide K8).2.2.1.f 3 (by simp); have rf4 : w8.frozen? ⟨w.heap.size + 1 + 1, 4, none⟩ = false := (unhide K8).2.2.1.f 4 (by simp))
  go_region
  all_goals
    go_wp2
    refine bodyPost_ret (v := .tuple #[.agg #[.int .i64 x, .int .i64 y, .int .i64 D, .int .i64 h, .int .i64 c], .bool false]) (by simp [results, Tryd.results93, go_sem, *]; try omega) rfl ⟨rfl, ?_⟩
    refine hold_dr ?_
    refine Below.setCell ?_ (by simp; try omega) _
    refine Below.setCell ?_ (by simp; try omega) _
    refine Below.setCell ?_ (by simp; try omega) _
    refine Below.setCell ?_ (by simp; try omega) _
    refine Below.setCell ?_ (by simp; try omega) _
    refine Below.setCell ?_ (by simp; try omega) _
    refine Below.setCell ?_ (by simp; try omega) _
    refine Below.setCell ?_ (by simp; try omega) _
    refine Below.setCell ?_ (by simp; try omega) _
    refine Below.setCell ?_ (by simp; try omega) _
    have k9 := (unhide K8).2.2.2
    exact k9

set_option maxRecDepth 20000 in
set_option maxHeartbeats 1000000 in
theorem inHold_nextofff {D : Int} (lx ly m x y d h c s : Int) (w : World) (hs : ¬ (0 < s ∧ s % 2 = 0)) (i : FlI 4 lx ly m ⟨x, y, d, h, c⟩ s) (hb : nxB 4 lx ly m ⟨x, y, d, h, c⟩ s = false) (hD : nxD 4 lx ly ⟨x, y, d, h, c⟩ s = D) :
    Calls Tryd.prog 93 #[.agg #[.int .i64 m], .agg #[.int .i64 x, .int .i64 y, .int .i64 d, .int .i64 h, .int .i64 c], .int .i64 s] w fun e w' => e = .returned (.tuple #[.agg #[.int .i64 x, .int .i64 y, .int .i64 D, .int .i64 h, .int .i64 c], .bool false]) ∧ Below w.heap.size w w' := by
  have f : (-1000 ≤ x ∧ x ≤ 1000) ∧ (-1000 ≤ y ∧ y ≤ 1000) ∧ (0 ≤ d ∧ d ≤ 7) ∧ (0 ≤ h ∧ h ≤ 2000) ∧ (-20 ≤ c ∧ c ≤ 20) := cfB_facts i.so
  have s0 := i.s0
  have hd := nxD_in i
  rw [hD] at hd
  obtain ⟨⟨x0, x1⟩, ⟨y0, y1⟩, ⟨d0, d1⟩, ⟨h0, h1⟩, c0, c1⟩ := f
  obtain ⟨hd0, hd1⟩ := hd
  have g := lgB_4 i.lg
  have hp : ¬ s < 16 * m := of_decide_eq_false (show decide (s < 16 * m) = false from hb)
  have g1 := g.1
  have g2 := g.2
  have e : D = d := by rw [← hD]; show (if 0 < s ∧ s % 2 = 0 then (d + 1) % 8 else d) = _; rw [if_neg hs]
  subst e
  by_cases hs0 : 0 < s
  · have hz : (s.tmod 2 == 0) = false := by rw [Int.tmod_eq_emod_of_nonneg (by omega)]; simp; omega
    have hz2 : (s % 2 == 0) = false := by simp; omega
    clear hb hD i hs g
    go_enter Tryd.func93, Tryd.ntmps93
    go_wp2_with fail
    go_region
    all_goals
      go_wp2
      refine bodyPost_ret (v := .tuple #[.agg #[.int .i64 x, .int .i64 y, .int .i64 D, .int .i64 h, .int .i64 c], .bool false]) (by simp [results, Tryd.results93, go_sem]; try omega) rfl ⟨rfl, ?_⟩
      exact (by repeat (first | exact Below.refl _ _ | refine Below.alloc ?_ (by simp; try omega) _ | refine Below.setCell ?_ (by simp; try omega) _ | refine lgDr ?_ _))
  · clear hb hD i hs g
    go_enter Tryd.func93, Tryd.ntmps93
    go_wp2_with fail
    go_region
    all_goals
      go_wp2
      refine bodyPost_ret (v := .tuple #[.agg #[.int .i64 x, .int .i64 y, .int .i64 D, .int .i64 h, .int .i64 c], .bool false]) (by simp [results, Tryd.results93, go_sem]; try omega) rfl ⟨rfl, ?_⟩
      exact (by repeat (first | exact Below.refl _ _ | refine Below.alloc ?_ (by simp; try omega) _ | refine Below.setCell ?_ (by simp; try omega) _ | refine lgDr ?_ _))

set_option maxRecDepth 20000 in
set_option maxHeartbeats 1000000 in
theorem inHold_nextont {D : Int} (lx ly m x y d h c s : Int) (w : World) (hs : 0 < s ∧ s % 2 = 0) (i : FlI 4 lx ly m ⟨x, y, d, h, c⟩ s) (hb : nxB 4 lx ly m ⟨x, y, d, h, c⟩ s = true) (hD : nxD 4 lx ly ⟨x, y, d, h, c⟩ s = D) :
    Calls Tryd.prog 93 #[.agg #[.int .i64 m], .agg #[.int .i64 x, .int .i64 y, .int .i64 d, .int .i64 h, .int .i64 c], .int .i64 s] w fun e w' => e = .returned (.tuple #[.agg #[.int .i64 x, .int .i64 y, .int .i64 D, .int .i64 h, .int .i64 c], .bool true]) ∧ Below w.heap.size w w' := by
  have f : (-1000 ≤ x ∧ x ≤ 1000) ∧ (-1000 ≤ y ∧ y ≤ 1000) ∧ (0 ≤ d ∧ d ≤ 7) ∧ (0 ≤ h ∧ h ≤ 2000) ∧ (-20 ≤ c ∧ c ≤ 20) := cfB_facts i.so
  have s0 := i.s0
  have hd := nxD_in i
  rw [hD] at hd
  obtain ⟨⟨x0, x1⟩, ⟨y0, y1⟩, ⟨d0, d1⟩, ⟨h0, h1⟩, c0, c1⟩ := f
  obtain ⟨hd0, hd1⟩ := hd
  have g := lgB_4 i.lg
  have hp : s < 16 * m := of_decide_eq_true (show decide (s < 16 * m) = true from hb)
  have g1 := g.1
  have g2 := g.2
  have e : D = (d + 1) % 8 := by rw [← hD]; show (if 0 < s ∧ s % 2 = 0 then (d + 1) % 8 else d) = _; rw [if_pos hs]
  have HT : Hid ((d + 1) % 8 = D) := hide e.symm
  have hs0 : 0 < s := hs.1
  have hz : (s.tmod 2 == 0) = true := by rw [Int.tmod_eq_emod_of_nonneg (by omega)]; simp; omega
  have hz2 : (s % 2 == 0) = true := by simp; omega
  clear hb hD i e hs g
  go_enter Tryd.func93, Tryd.ntmps93
  go_wp2_with (go_at_call 95; refine (turned_right x y d h c _ d0 d1 (unhide HT)).mono ?_; rintro e w8 ⟨rfl, b8⟩; have K8 : Hid (Blk w8 w.heap.size [.int .i64 m] ∧ Blk w8 (w.heap.size + 1) [.int .i64 x, .int .i64 y, .int .i64 d, .int .i64 h, .int .i64 c] ∧ Blk w8 (w.heap.size + 1 + 1) [.int .i64 0, .int .i64 0, .int .i64 0, .int .i64 0, .int .i64 0] ∧ Below w.heap.size w w8) := hide ⟨blkAt3_0.below b8, blkAt3_1.below b8, blkAt3_2.below b8, (bel3 _ _ _).trans (b8.mono (by simp; try omega))⟩; clear b8; have v0' : w8.cell? ⟨w.heap.size, 0, none⟩ = some (.int .i64 m) := (unhide K8).1.c 0 (by simp); have c0' : w8.cell? ⟨w.heap.size + 1, 0, none⟩ = some (.int .i64 x) := (unhide K8).2.1.c 0 (by simp); have c1' : w8.cell? ⟨w.heap.size + 1, 1, none⟩ = some (.int .i64 y) := (unhide K8).2.1.c 1 (by simp); have c2' : w8.cell? ⟨w.heap.size + 1, 2, none⟩ = some (.int .i64 d) := (unhide K8).2.1.c 2 (by simp); have c3' : w8.cell? ⟨w.heap.size + 1, 3, none⟩ = some (.int .i64 h) := (unhide K8).2.1.c 3 (by simp); have c4' : w8.cell? ⟨w.heap.size + 1, 4, none⟩ = some (.int .i64 c) := (unhide K8).2.1.c 4 (by simp); have cf0 : w8.frozen? ⟨w.heap.size + 1, 0, none⟩ = false := (unhide K8).2.1.f 0 (by simp); have cf1 : w8.frozen? ⟨w.heap.size + 1, 1, none⟩ = false := (unhide K8).2.1.f 1 (by simp); have cf2 : w8.frozen? ⟨w.heap.size + 1, 2, none⟩ = false := (unhide K8).2.1.f 2 (by simp); have cf3 : w8.frozen? ⟨w.heap.size + 1, 3, none⟩ = false := (unhide K8).2.1.f 3 (by simp); have cf4 : w8.frozen? ⟨w.heap.size + 1, 4, none⟩ = false := (unhide K8).2.1.f 4 (by simp); have r0' : w8.cell? ⟨w.heap.size + 1 + 1, 0, none⟩ = some (.int .i64 0) := (unhide K8).2.2.1.c 0 (by simp); have r1' : w8.cell? ⟨w.heap.size + 1 + 1, 1, none⟩ = some (.int .i64 0) := (unhide K8).2.2.1.c 1 (by simp); have r2' : w8.cell? ⟨w.heap.size + 1 + 1, 2, none⟩ = some (.int .i64 0) := (unhide K8).2.2.1.c 2 (by simp); have r3' : w8.cell? ⟨w.heap.size + 1 + 1, 3, none⟩ = some (.int .i64 0) := (unhide K8).2.2.1.c 3 (by simp); have r4' : w8.cell? ⟨w.heap.size + 1 + 1, 4, none⟩ = some (.int .i64 0) := (unhide K8).2.2.1.c 4 (by simp); have rf0 : w8.frozen? ⟨w.heap.size + 1 + 1, 0, none⟩ = false := (unhide K8).2.2.1.f 0 (by simp); have rf1 : w8.frozen? ⟨w.heap.size + 1 + 1, 1, none⟩ = false := (unhide K8).2.2.1.f 1 (by simp); have rf2 : w8.frozen? ⟨w.heap.size + 1 + 1, 2, none⟩ = false := (unhide K8).2.2.1.f 2 (by simp); have rf3 : w8.frozen? ⟨w.heap.size + 1 + 1, 3, none⟩ = false := (unhide K8).2.2.1.f 3 (by simp); have rf4 : w8.frozen? ⟨w.heap.size + 1 + 1, 4, none⟩ = false := (unhide K8).2.2.1.f 4 (by simp))
  go_region
  all_goals
    go_wp2
    refine bodyPost_ret (v := .tuple #[.agg #[.int .i64 x, .int .i64 y, .int .i64 D, .int .i64 h, .int .i64 c], .bool true]) (by simp [results, Tryd.results93, go_sem, *]; try omega) rfl ⟨rfl, ?_⟩
    refine hold_dr ?_
    refine Below.setCell ?_ (by simp; try omega) _
    refine Below.setCell ?_ (by simp; try omega) _
    refine Below.setCell ?_ (by simp; try omega) _
    refine Below.setCell ?_ (by simp; try omega) _
    refine Below.setCell ?_ (by simp; try omega) _
    refine Below.setCell ?_ (by simp; try omega) _
    refine Below.setCell ?_ (by simp; try omega) _
    refine Below.setCell ?_ (by simp; try omega) _
    refine Below.setCell ?_ (by simp; try omega) _
    refine Below.setCell ?_ (by simp; try omega) _
    have k9 := (unhide K8).2.2.2
    exact k9

set_option maxRecDepth 20000 in
set_option maxHeartbeats 1000000 in
theorem inHold_nextonf {D : Int} (lx ly m x y d h c s : Int) (w : World) (hs : ¬ (0 < s ∧ s % 2 = 0)) (i : FlI 4 lx ly m ⟨x, y, d, h, c⟩ s) (hb : nxB 4 lx ly m ⟨x, y, d, h, c⟩ s = true) (hD : nxD 4 lx ly ⟨x, y, d, h, c⟩ s = D) :
    Calls Tryd.prog 93 #[.agg #[.int .i64 m], .agg #[.int .i64 x, .int .i64 y, .int .i64 d, .int .i64 h, .int .i64 c], .int .i64 s] w fun e w' => e = .returned (.tuple #[.agg #[.int .i64 x, .int .i64 y, .int .i64 D, .int .i64 h, .int .i64 c], .bool true]) ∧ Below w.heap.size w w' := by
  have f : (-1000 ≤ x ∧ x ≤ 1000) ∧ (-1000 ≤ y ∧ y ≤ 1000) ∧ (0 ≤ d ∧ d ≤ 7) ∧ (0 ≤ h ∧ h ≤ 2000) ∧ (-20 ≤ c ∧ c ≤ 20) := cfB_facts i.so
  have s0 := i.s0
  have hd := nxD_in i
  rw [hD] at hd
  obtain ⟨⟨x0, x1⟩, ⟨y0, y1⟩, ⟨d0, d1⟩, ⟨h0, h1⟩, c0, c1⟩ := f
  obtain ⟨hd0, hd1⟩ := hd
  have g := lgB_4 i.lg
  have hp : s < 16 * m := of_decide_eq_true (show decide (s < 16 * m) = true from hb)
  have g1 := g.1
  have g2 := g.2
  have e : D = d := by rw [← hD]; show (if 0 < s ∧ s % 2 = 0 then (d + 1) % 8 else d) = _; rw [if_neg hs]
  subst e
  by_cases hs0 : 0 < s
  · have hz : (s.tmod 2 == 0) = false := by rw [Int.tmod_eq_emod_of_nonneg (by omega)]; simp; omega
    have hz2 : (s % 2 == 0) = false := by simp; omega
    clear hb hD i hs g
    go_enter Tryd.func93, Tryd.ntmps93
    go_wp2_with fail
    go_region
    all_goals
      go_wp2
      refine bodyPost_ret (v := .tuple #[.agg #[.int .i64 x, .int .i64 y, .int .i64 D, .int .i64 h, .int .i64 c], .bool true]) (by simp [results, Tryd.results93, go_sem]; try omega) rfl ⟨rfl, ?_⟩
      exact (by repeat (first | exact Below.refl _ _ | refine Below.alloc ?_ (by simp; try omega) _ | refine Below.setCell ?_ (by simp; try omega) _ | refine lgDr ?_ _))
  · clear hb hD i hs g
    go_enter Tryd.func93, Tryd.ntmps93
    go_wp2_with fail
    go_region
    all_goals
      go_wp2
      refine bodyPost_ret (v := .tuple #[.agg #[.int .i64 x, .int .i64 y, .int .i64 D, .int .i64 h, .int .i64 c], .bool true]) (by simp [results, Tryd.results93, go_sem]; try omega) rfl ⟨rfl, ?_⟩
      exact (by repeat (first | exact Below.refl _ _ | refine Below.alloc ?_ (by simp; try omega) _ | refine Below.setCell ?_ (by simp; try omega) _ | refine lgDr ?_ _))

end Go.Proofs.YtkpmoolggpojdauDoor
