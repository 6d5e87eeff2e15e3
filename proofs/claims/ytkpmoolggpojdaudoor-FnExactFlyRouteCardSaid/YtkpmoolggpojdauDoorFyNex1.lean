/-
  The model's next turn of a leg to a place, on the way: the plain answer, at crafts and legs that are so; nothing that was there is written.
-/
import Derived.Test.YtkpmoolggpojdauDoorFyNext
import Derived.Deep.RegionHeld3
namespace Go.Proofs.YtkpmoolggpojdauDoor
open Go.RowKit

theorem l12Sign_eq {a x : Int} (w : World) (h : sgn x = a) : Calls Tryd.prog 39 #[.int .i64 x] w fun e w' => e = .returned (.int .i64 a) ∧ w' = w := by subst h; exact l12Sign_is x w
theorem l12Dir_eq {a b D : Int} (w : World) (h : dirOf a b = D) (ha : -1 ≤ a ∧ a ≤ 1) (hb : -1 ≤ b ∧ b ≤ 1) : Calls Tryd.prog 38 #[.int .i64 a, .int .i64 b] w fun e w' => e = .returned (.int .i64 D) ∧ Below w.heap.size w w' := by subst h; exact l12Dir_is a b w ha hb

set_option maxRecDepth 20000 in
set_option maxHeartbeats 4000000 in
theorem l12Next_1on {D : Int} (lx ly m x y d h c s : Int) (w : World) (i : FlI 1 lx ly m ⟨x, y, d, h, c⟩ s) (hb : nxB 1 lx ly m ⟨x, y, d, h, c⟩ s = true) (hD : nxD 1 lx ly ⟨x, y, d, h, c⟩ s = D) :
    Calls Tryd.prog 25 #[.agg #[.int .i64 x, .int .i64 y, .int .i64 d, .int .i64 h, .int .i64 c], .agg #[.int .i64 1, .int .i64 lx, .int .i64 ly, .int .i64 m], .int .i64 s] w fun e w' => e = .returned (.tuple #[.agg #[.int .i64 (x + dirX D), .int .i64 (y + dirY D), .int .i64 D, .int .i64 (upH h c), .int .i64 c], .bool false]) ∧ Below w.heap.size w w' := by
  have f := cfB_facts i.so
  have s0 := i.s0
  have g := lgB_1 i.lg
  have hd := nxD_in i
  rw [hD] at hd
  replace f : (-1000 ≤ x ∧ x ≤ 1000) ∧ (-1000 ≤ y ∧ y ≤ 1000) ∧ (0 ≤ d ∧ d ≤ 7) ∧ (0 ≤ h ∧ h ≤ 2000) ∧ (-20 ≤ c ∧ c ≤ 20) := f
  obtain ⟨⟨x0, x1⟩, ⟨y0, y1⟩, ⟨d0, d1⟩, ⟨h0, h1⟩, c0, c1⟩ := f
  have hd0 := hd.1
  have hd1 := hd.2
  clear hd i
  have hp : ¬ (x = lx ∧ y = ly) := of_decide_eq_true (show decide (¬ (x = lx ∧ y = ly)) = true from hb)
  have e : dirOf (sgn (lx - x)) (sgn (ly - y)) = D := by rw [← hD]; show _ = (if x = lx ∧ y = ly then d else dirOf (sgn (lx - x)) (sgn (ly - y))); rw [if_neg hp]
  clear hb hD
  obtain ⟨⟨u0, u1⟩, v0, v1⟩ := g
  obtain ⟨a, ha⟩ : ∃ a, sgn (lx - x) = a := ⟨_, rfl⟩
  obtain ⟨b, hb⟩ : ∃ b, sgn (ly - y) = b := ⟨_, rfl⟩
  have G1 := hide (sgn_in (lx - x))
  have G2 := hide (sgn_in (ly - y))
  rw [ha] at e G1
  rw [hb] at e G2
  have HA : Hid (sgn (IntKind.i64.wrap (lx - x)) = a) := hide (by rw [show IntKind.i64.wrap (lx - x) = lx - x by rw [IntKind.wrap_i64]; omega]; exact ha)
  have HB : Hid (sgn (IntKind.i64.wrap (ly - y)) = b) := hide (by rw [show IntKind.i64.wrap (ly - y) = ly - y by rw [IntKind.wrap_i64]; omega]; exact hb)
  have HD := hide e
  clear ha hb e
  by_cases hx : x = lx
  · have hy : (y == ly) = false := by simp; omega
    have hx' : (x == lx) = true := by simpa using hx
    clear hx hp
    go_enter Tryd.func25, Tryd.ntmps25
    go_wp2_with fail
    obtain ⟨W, hW⟩ : ∃ W, W = ((w.alloc (Obj.cells #[.int .i64 x, .int .i64 y, .int .i64 d, .int .i64 h, .int .i64 c] 26)).alloc (Obj.cells #[.int .i64 1, .int .i64 lx, .int .i64 ly, .int .i64 m] 30)).alloc (Obj.cells #[.int .i64 0, .int .i64 0, .int .i64 0, .int .i64 0, .int .i64 0] 26) := ⟨_, rfl⟩
    rw [← hW]
    have KC : Hid (Blk W w.heap.size [.int .i64 x, .int .i64 y, .int .i64 d, .int .i64 h, .int .i64 c]) := hide (by rw [hW]; exact blkAt3_0)
    have KL : Hid (Blk W (w.heap.size + 1) [.int .i64 1, .int .i64 lx, .int .i64 ly, .int .i64 m]) := hide (by rw [hW]; exact blkAt3_1)
    have KR : Hid (Blk W (w.heap.size + 1 + 1) [.int .i64 0, .int .i64 0, .int .i64 0, .int .i64 0, .int .i64 0]) := hide (by rw [hW]; exact blkAt3_2)
    have B0 : Hid (Below w.heap.size w W) := hide (by rw [hW]; exact bel3 _ _ _)
    clear hW
    have q0 : W.cell? ⟨w.heap.size, 0, none⟩ = some (.int .i64 x) := (unhide KC).c 0 (by simp)
    have q1 : W.cell? ⟨w.heap.size, 1, none⟩ = some (.int .i64 y) := (unhide KC).c 1 (by simp)
    have q2 : W.cell? ⟨w.heap.size + 1, 1, none⟩ = some (.int .i64 lx) := (unhide KL).c 1 (by simp)
    have q3 : W.cell? ⟨w.heap.size + 1, 2, none⟩ = some (.int .i64 ly) := (unhide KL).c 2 (by simp)
    go_region_held3 (fun w' => w'.cell? ⟨w.heap.size, 0, none⟩ = some (.int .i64 x) ∧ w'.cell? ⟨w.heap.size, 1, none⟩ = some (.int .i64 y) ∧ w'.cell? ⟨w.heap.size + 1, 1, none⟩ = some (.int .i64 lx) ∧ w'.cell? ⟨w.heap.size + 1, 2, none⟩ = some (.int .i64 ly)) (go_keep)
      ((first
        | (go_at_call 39; refine (l12Sign_eq _ (by first | exact unhide HA | exact unhide HB)).mono ?_; rintro e w' ⟨rfl, hw⟩; subst w')
        | (go_at_call 38; refine (l12Dir_eq _ (unhide HD) (unhide G1) (unhide G2)).mono ?_; rintro e w8 ⟨rfl, b8⟩; have L8 : Hid (Blk w8 (w.heap.size + 1) [.int .i64 1, .int .i64 lx, .int .i64 ly, .int .i64 m]) := hide ((unhide KL).below (by first | exact b8 | exact (bel0d' 1).trans b8)); have K8 : Hid (Blk w8 w.heap.size [.int .i64 x, .int .i64 y, .int .i64 d, .int .i64 h, .int .i64 c] ∧ Blk w8 (w.heap.size + 1 + 1) [.int .i64 0, .int .i64 0, .int .i64 0, .int .i64 0, .int .i64 0] ∧ Below w.heap.size w w8) := hide ((fun (b : Below W.heap.size W w8) => ⟨(unhide KC).below b, (unhide KR).below b, (unhide B0).trans (b.mono (unhide B0).size)⟩) (by first | exact b8 | exact (bel0d' 1).trans b8)); clear b8; have k0 : w8.cell? ⟨w.heap.size, 0, none⟩ = some (.int .i64 x) := (unhide K8).1.c 0 (by simp); have k1 : w8.cell? ⟨w.heap.size, 1, none⟩ = some (.int .i64 y) := (unhide K8).1.c 1 (by simp); have k2 : w8.cell? ⟨w.heap.size, 2, none⟩ = some (.int .i64 d) := (unhide K8).1.c 2 (by simp); have k3 : w8.cell? ⟨w.heap.size, 3, none⟩ = some (.int .i64 h) := (unhide K8).1.c 3 (by simp); have k4 : w8.cell? ⟨w.heap.size, 4, none⟩ = some (.int .i64 c) := (unhide K8).1.c 4 (by simp); have j1 : w8.cell? ⟨w.heap.size + 1, 1, none⟩ = some (.int .i64 lx) := (unhide L8).c 1 (by simp); have j2 : w8.cell? ⟨w.heap.size + 1, 2, none⟩ = some (.int .i64 ly) := (unhide L8).c 2 (by simp); have t0 : (w8.setCell ⟨w.heap.size, 2, none⟩ (.int .i64 D)).cell? ⟨w.heap.size, 0, none⟩ = some (.int .i64 x) := (by simp [go_sem, k0]); have t1 : (w8.setCell ⟨w.heap.size, 2, none⟩ (.int .i64 D)).cell? ⟨w.heap.size, 1, none⟩ = some (.int .i64 y) := (by simp [go_sem, k1]); have fz2 : w8.frozen? ⟨w.heap.size, 2, none⟩ = false := (unhide K8).1.f 2 (by simp))))
    go_wp2_with (go_at_call 40; refine (l12Step_is _ _ _ _ _ _ (by omega) (by omega) ⟨by omega, by omega⟩ ⟨by omega, by omega⟩ ⟨by omega, by omega⟩ ⟨by omega, by omega⟩).mono ?_; rintro e w9 ⟨rfl, b9⟩; have K9 : Hid (Blk w9 (w.heap.size + 1 + 1) [.int .i64 0, .int .i64 0, .int .i64 0, .int .i64 0, .int .i64 0]) := hide (Blk.below ((unhide K8).2.1.other (by simp; try omega) _) b9); have B9 := hide (Below.trans ((unhide K8).2.2.setCell (by simp) _) (b9.mono (by have := (unhide K8).2.2.size; simp; omega)) : Below w.heap.size w w9); clear b9; have r0 : w9.cell? ⟨w.heap.size + 1 + 1, 0, none⟩ = some (.int .i64 0) := (unhide K9).c 0 (by simp); have z0 : w9.frozen? ⟨w.heap.size + 1 + 1, 0, none⟩ = false := (unhide K9).f 0 (by simp); have r1 : w9.cell? ⟨w.heap.size + 1 + 1, 1, none⟩ = some (.int .i64 0) := (unhide K9).c 1 (by simp); have z1 : w9.frozen? ⟨w.heap.size + 1 + 1, 1, none⟩ = false := (unhide K9).f 1 (by simp); have r2 : w9.cell? ⟨w.heap.size + 1 + 1, 2, none⟩ = some (.int .i64 0) := (unhide K9).c 2 (by simp); have z2 : w9.frozen? ⟨w.heap.size + 1 + 1, 2, none⟩ = false := (unhide K9).f 2 (by simp); have r3 : w9.cell? ⟨w.heap.size + 1 + 1, 3, none⟩ = some (.int .i64 0) := (unhide K9).c 3 (by simp); have z3 : w9.frozen? ⟨w.heap.size + 1 + 1, 3, none⟩ = false := (unhide K9).f 3 (by simp); have r4 : w9.cell? ⟨w.heap.size + 1 + 1, 4, none⟩ = some (.int .i64 0) := (unhide K9).c 4 (by simp); have z4 : w9.frozen? ⟨w.heap.size + 1 + 1, 4, none⟩ = false := (unhide K9).f 4 (by simp))
    try rw [Exit.noGoto_ret]
    have KR := ((((((unhide K9).set 0 (by simp) (.int .i64 (x + dirX D))).set 1 (by simp) (.int .i64 (y + dirY D))).set 2 (by simp) (.int .i64 D)).set 3 (by simp) (.int .i64 (upH h c))).set 4 (by simp) (.int .i64 c))
    refine bodyPost_ret (results_cellB (vs := [.int .i64 (x + dirX D), .int .i64 (y + dirY D), .int .i64 D, .int .i64 (upH h c), .int .i64 c]) rfl Tryd.isAgg26 Tryd.sizeOf26 rfl (by simpa using KR) rfl) rfl ⟨rfl, ?_⟩
    exact Below.setCell (Below.setCell (Below.setCell (Below.setCell (Below.setCell (unhide B9) (by simp; try omega) _) (by simp; try omega) _) (by simp; try omega) _) (by simp; try omega) _) (by simp; try omega) _
  · have hx' : (x == lx) = false := by simpa using hx
    clear hx hp
    go_enter Tryd.func25, Tryd.ntmps25
    go_wp2_with fail
    obtain ⟨W, hW⟩ : ∃ W, W = ((w.alloc (Obj.cells #[.int .i64 x, .int .i64 y, .int .i64 d, .int .i64 h, .int .i64 c] 26)).alloc (Obj.cells #[.int .i64 1, .int .i64 lx, .int .i64 ly, .int .i64 m] 30)).alloc (Obj.cells #[.int .i64 0, .int .i64 0, .int .i64 0, .int .i64 0, .int .i64 0] 26) := ⟨_, rfl⟩
    rw [← hW]
    have KC : Hid (Blk W w.heap.size [.int .i64 x, .int .i64 y, .int .i64 d, .int .i64 h, .int .i64 c]) := hide (by rw [hW]; exact blkAt3_0)
    have KL : Hid (Blk W (w.heap.size + 1) [.int .i64 1, .int .i64 lx, .int .i64 ly, .int .i64 m]) := hide (by rw [hW]; exact blkAt3_1)
    have KR : Hid (Blk W (w.heap.size + 1 + 1) [.int .i64 0, .int .i64 0, .int .i64 0, .int .i64 0, .int .i64 0]) := hide (by rw [hW]; exact blkAt3_2)
    have B0 : Hid (Below w.heap.size w W) := hide (by rw [hW]; exact bel3 _ _ _)
    clear hW
    have q0 : W.cell? ⟨w.heap.size, 0, none⟩ = some (.int .i64 x) := (unhide KC).c 0 (by simp)
    have q1 : W.cell? ⟨w.heap.size, 1, none⟩ = some (.int .i64 y) := (unhide KC).c 1 (by simp)
    have q2 : W.cell? ⟨w.heap.size + 1, 1, none⟩ = some (.int .i64 lx) := (unhide KL).c 1 (by simp)
    have q3 : W.cell? ⟨w.heap.size + 1, 2, none⟩ = some (.int .i64 ly) := (unhide KL).c 2 (by simp)
    go_region_held3 (fun w' => w'.cell? ⟨w.heap.size, 0, none⟩ = some (.int .i64 x) ∧ w'.cell? ⟨w.heap.size, 1, none⟩ = some (.int .i64 y) ∧ w'.cell? ⟨w.heap.size + 1, 1, none⟩ = some (.int .i64 lx) ∧ w'.cell? ⟨w.heap.size + 1, 2, none⟩ = some (.int .i64 ly)) (go_keep)
      ((first
        | (go_at_call 39; refine (l12Sign_eq _ (by first | exact unhide HA | exact unhide HB)).mono ?_; rintro e w' ⟨rfl, hw⟩; subst w')
        | (go_at_call 38; refine (l12Dir_eq _ (unhide HD) (unhide G1) (unhide G2)).mono ?_; rintro e w8 ⟨rfl, b8⟩; have L8 : Hid (Blk w8 (w.heap.size + 1) [.int .i64 1, .int .i64 lx, .int .i64 ly, .int .i64 m]) := hide ((unhide KL).below (by first | exact b8 | exact (bel0d' 1).trans b8)); have K8 : Hid (Blk w8 w.heap.size [.int .i64 x, .int .i64 y, .int .i64 d, .int .i64 h, .int .i64 c] ∧ Blk w8 (w.heap.size + 1 + 1) [.int .i64 0, .int .i64 0, .int .i64 0, .int .i64 0, .int .i64 0] ∧ Below w.heap.size w w8) := hide ((fun (b : Below W.heap.size W w8) => ⟨(unhide KC).below b, (unhide KR).below b, (unhide B0).trans (b.mono (unhide B0).size)⟩) (by first | exact b8 | exact (bel0d' 1).trans b8)); clear b8; have k0 : w8.cell? ⟨w.heap.size, 0, none⟩ = some (.int .i64 x) := (unhide K8).1.c 0 (by simp); have k1 : w8.cell? ⟨w.heap.size, 1, none⟩ = some (.int .i64 y) := (unhide K8).1.c 1 (by simp); have k2 : w8.cell? ⟨w.heap.size, 2, none⟩ = some (.int .i64 d) := (unhide K8).1.c 2 (by simp); have k3 : w8.cell? ⟨w.heap.size, 3, none⟩ = some (.int .i64 h) := (unhide K8).1.c 3 (by simp); have k4 : w8.cell? ⟨w.heap.size, 4, none⟩ = some (.int .i64 c) := (unhide K8).1.c 4 (by simp); have j1 : w8.cell? ⟨w.heap.size + 1, 1, none⟩ = some (.int .i64 lx) := (unhide L8).c 1 (by simp); have j2 : w8.cell? ⟨w.heap.size + 1, 2, none⟩ = some (.int .i64 ly) := (unhide L8).c 2 (by simp); have t0 : (w8.setCell ⟨w.heap.size, 2, none⟩ (.int .i64 D)).cell? ⟨w.heap.size, 0, none⟩ = some (.int .i64 x) := (by simp [go_sem, k0]); have t1 : (w8.setCell ⟨w.heap.size, 2, none⟩ (.int .i64 D)).cell? ⟨w.heap.size, 1, none⟩ = some (.int .i64 y) := (by simp [go_sem, k1]); have fz2 : w8.frozen? ⟨w.heap.size, 2, none⟩ = false := (unhide K8).1.f 2 (by simp))))
    go_wp2_with (go_at_call 40; refine (l12Step_is _ _ _ _ _ _ (by omega) (by omega) ⟨by omega, by omega⟩ ⟨by omega, by omega⟩ ⟨by omega, by omega⟩ ⟨by omega, by omega⟩).mono ?_; rintro e w9 ⟨rfl, b9⟩; have K9 : Hid (Blk w9 (w.heap.size + 1 + 1) [.int .i64 0, .int .i64 0, .int .i64 0, .int .i64 0, .int .i64 0]) := hide (Blk.below ((unhide K8).2.1.other (by simp; try omega) _) b9); have B9 := hide (Below.trans ((unhide K8).2.2.setCell (by simp) _) (b9.mono (by have := (unhide K8).2.2.size; simp; omega)) : Below w.heap.size w w9); clear b9; have r0 : w9.cell? ⟨w.heap.size + 1 + 1, 0, none⟩ = some (.int .i64 0) := (unhide K9).c 0 (by simp); have z0 : w9.frozen? ⟨w.heap.size + 1 + 1, 0, none⟩ = false := (unhide K9).f 0 (by simp); have r1 : w9.cell? ⟨w.heap.size + 1 + 1, 1, none⟩ = some (.int .i64 0) := (unhide K9).c 1 (by simp); have z1 : w9.frozen? ⟨w.heap.size + 1 + 1, 1, none⟩ = false := (unhide K9).f 1 (by simp); have r2 : w9.cell? ⟨w.heap.size + 1 + 1, 2, none⟩ = some (.int .i64 0) := (unhide K9).c 2 (by simp); have z2 : w9.frozen? ⟨w.heap.size + 1 + 1, 2, none⟩ = false := (unhide K9).f 2 (by simp); have r3 : w9.cell? ⟨w.heap.size + 1 + 1, 3, none⟩ = some (.int .i64 0) := (unhide K9).c 3 (by simp); have z3 : w9.frozen? ⟨w.heap.size + 1 + 1, 3, none⟩ = false := (unhide K9).f 3 (by simp); have r4 : w9.cell? ⟨w.heap.size + 1 + 1, 4, none⟩ = some (.int .i64 0) := (unhide K9).c 4 (by simp); have z4 : w9.frozen? ⟨w.heap.size + 1 + 1, 4, none⟩ = false := (unhide K9).f 4 (by simp))
    try rw [Exit.noGoto_ret]
    have KR := ((((((unhide K9).set 0 (by simp) (.int .i64 (x + dirX D))).set 1 (by simp) (.int .i64 (y + dirY D))).set 2 (by simp) (.int .i64 D)).set 3 (by simp) (.int .i64 (upH h c))).set 4 (by simp) (.int .i64 c))
    refine bodyPost_ret (results_cellB (vs := [.int .i64 (x + dirX D), .int .i64 (y + dirY D), .int .i64 D, .int .i64 (upH h c), .int .i64 c]) rfl Tryd.isAgg26 Tryd.sizeOf26 rfl (by simpa using KR) rfl) rfl ⟨rfl, ?_⟩
    exact Below.setCell (Below.setCell (Below.setCell (Below.setCell (Below.setCell (unhide B9) (by simp; try omega) _) (by simp; try omega) _) (by simp; try omega) _) (by simp; try omega) _) (by simp; try omega) _

end Go.Proofs.YtkpmoolggpojdauDoor
