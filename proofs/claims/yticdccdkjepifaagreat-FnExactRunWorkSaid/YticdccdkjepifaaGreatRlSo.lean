/-
  What the program's isDue, isNotListed, isOfTooMany and isTooOld answer: plain answers; nothing that was there is written.
-/
import Derived.Test.YticdccdkjepifaaGreatMFlIn
import Derived.Test.YticdccdkjepifaaGreatMD9Imp
import Derived.Deep.Cut
namespace Go.Proofs.YticdccdkjepifaaGreat
open Go Go.RowKit

set_option maxRecDepth 20000 in
set_option maxHeartbeats 2000000 in
theorem isDue_any (nh nc nd : Int) (a1 a2 a3 : Option Addr) (l1 c1 l2 c2 l3 c3 : Nat) (x : Ts) (w : World) (hs : fitT x.nm) :
    Calls Tryz.prog 110 #[.agg #[.slice a1 l1 c1, .slice a2 l2 c2, .slice a3 l3 c3, .int .i64 nh, .int .i64 nc, .int .i64 nd], .agg #[.string x.nm, .int .i64 x.h, .int .i64 x.c, .int .i64 x.d, .int .i64 x.dh, .int .i64 x.dc, .int .i64 x.dd]] w fun e w' => e = .returned (.bool (d9D x nh nc nd)) ∧ Below w.heap.size w w' := by
  have HD := hide (implDue19_any x.nm x.h x.c x.d x.dh x.dc x.dd nh nc nd)
  obtain ⟨D, hD⟩ : ∃ D, d9D x nh nc nd = D := ⟨_, rfl⟩
  obtain ⟨H, hH⟩ : ∃ D, d9H x nh nc nd = D := ⟨_, rfl⟩
  obtain ⟨C, hC⟩ : ∃ D, d9C x nh nc nd = D := ⟨_, rfl⟩
  obtain ⟨E, hE⟩ : ∃ D, d9E x nh nc nd = D := ⟨_, rfl⟩
  obtain ⟨B, hB⟩ : ∃ D, d9B x nh nc nd = D := ⟨_, rfl⟩
  have CD : Hid (∀ V, Calls Tryz.prog 127 #[.agg #[.string x.nm, .int .i64 x.h, .int .i64 x.c, .int .i64 x.d, .int .i64 x.dh, .int .i64 x.dc, .int .i64 x.dd], .agg #[.int .i64 nh, .int .i64 nc, .int .i64 nd]] V fun e w' => e = .returned (.tuple #[.bool D, .agg #[.int .i64 H, .int .i64 C, .int .i64 E], .bool B]) ∧ Below V.heap.size V w') := hide (fun V => by rw [← hD, ← hH, ← hC, ← hE, ← hB]; exact unhide HD V hs)
  rw [hD]
  clear hD hH hC hE hB HD
  go_enter Tryz.func110, Tryz.ntmps110
  go_wp2_with fail
  obtain ⟨W, hW⟩ : ∃ W, W = (w.alloc (Obj.cells #[.slice a1 l1 c1, .slice a2 l2 c2, .slice a3 l3 c3, .int .i64 nh, .int .i64 nc, .int .i64 nd] 37)).alloc (Obj.cells #[.string x.nm, .int .i64 x.h, .int .i64 x.c, .int .i64 x.d, .int .i64 x.dh, .int .i64 x.dc, .int .i64 x.dd] 90) := ⟨_, rfl⟩
  rw [← hW]
  have K0 : Hid (Blk W (w.heap.size) [.slice a1 l1 c1, .slice a2 l2 c2, .slice a3 l3 c3, .int .i64 nh, .int .i64 nc, .int .i64 nd]) := hide (by rw [hW]; exact blkAt2_0)
  have K1 : Hid (Blk W (w.heap.size + 1) [.string x.nm, .int .i64 x.h, .int .i64 x.c, .int .i64 x.d, .int .i64 x.dh, .int .i64 x.dc, .int .i64 x.dd]) := hide (by rw [hW]; exact blkAt2_1)
  have B0 : Hid (Below w.heap.size w W) := hide (by rw [hW]; exact bel2 _ _)
  clear hW
  obtain ⟨ι, fW, _, hb, hall⟩ := belClass W
  have HB := hide hb
  have HA := hide hall
  have c00 : ∀ z, (fW z).cell? ⟨w.heap.size, 0, none⟩ = some (.slice a1 l1 c1) := fun z => ((unhide K0).below (hb z)).c 0 (by simp)
  have c01 : ∀ z, (fW z).cell? ⟨w.heap.size, 1, none⟩ = some (.slice a2 l2 c2) := fun z => ((unhide K0).below (hb z)).c 1 (by simp)
  have c02 : ∀ z, (fW z).cell? ⟨w.heap.size, 2, none⟩ = some (.slice a3 l3 c3) := fun z => ((unhide K0).below (hb z)).c 2 (by simp)
  have c03 : ∀ z, (fW z).cell? ⟨w.heap.size, 3, none⟩ = some (.int .i64 nh) := fun z => ((unhide K0).below (hb z)).c 3 (by simp)
  have c04 : ∀ z, (fW z).cell? ⟨w.heap.size, 4, none⟩ = some (.int .i64 nc) := fun z => ((unhide K0).below (hb z)).c 4 (by simp)
  have c05 : ∀ z, (fW z).cell? ⟨w.heap.size, 5, none⟩ = some (.int .i64 nd) := fun z => ((unhide K0).below (hb z)).c 5 (by simp)
  have c10 : ∀ z, (fW z).cell? ⟨w.heap.size + 1, 0, none⟩ = some (.string x.nm) := fun z => ((unhide K1).below (hb z)).c 0 (by simp)
  have c11 : ∀ z, (fW z).cell? ⟨w.heap.size + 1, 1, none⟩ = some (.int .i64 x.h) := fun z => ((unhide K1).below (hb z)).c 1 (by simp)
  have c12 : ∀ z, (fW z).cell? ⟨w.heap.size + 1, 2, none⟩ = some (.int .i64 x.c) := fun z => ((unhide K1).below (hb z)).c 2 (by simp)
  have c13 : ∀ z, (fW z).cell? ⟨w.heap.size + 1, 3, none⟩ = some (.int .i64 x.d) := fun z => ((unhide K1).below (hb z)).c 3 (by simp)
  have c14 : ∀ z, (fW z).cell? ⟨w.heap.size + 1, 4, none⟩ = some (.int .i64 x.dh) := fun z => ((unhide K1).below (hb z)).c 4 (by simp)
  have c15 : ∀ z, (fW z).cell? ⟨w.heap.size + 1, 5, none⟩ = some (.int .i64 x.dc) := fun z => ((unhide K1).below (hb z)).c 5 (by simp)
  have c16 : ∀ z, (fW z).cell? ⟨w.heap.size + 1, 6, none⟩ = some (.int .i64 x.dd) := fun z => ((unhide K1).below (hb z)).c 6 (by simp)
  clear hb hall
  obtain ⟨x0, h0⟩ := (unhide HA) W (Below.refl _ _)
  rw [h0]
  clear h0
  go_wp2_with (go_at_call 127; refine (belQ (unhide HB) (unhide HA) (unhide CD _)).mono ?_; rintro e _ ⟨rfl, y, rfl⟩)
  go_ret
  have BY := (unhide B0).trans ((unhide HB y).mono (unhide B0).size)
  exact ⟨rfl, BY.alloc BY.size _⟩
set_option maxRecDepth 20000 in
set_option maxHeartbeats 2000000 in
theorem isUn_any (nh nc nd : Int) (a1 a2 a3 : Option Addr) (l1 c1 l2 c2 l3 c3 : Nat) (cs : List Cr) (x : Df) (w : World) (hr : RowE 3 crC w a2 l2 cs) :
    Calls Tryz.prog 112 #[.agg #[.slice a1 l1 c1, .slice a2 l2 c2, .slice a3 l3 c3, .int .i64 nh, .int .i64 nc, .int .i64 nd], .agg #[.string x.n, .int .i64 x.i, .int .i64 x.s]] w fun e w' => e = .returned (.bool (decide (ixE (qCr x.n) cs < 0))) ∧ Below w.heap.size w w' := by
  have CC : Hid (∀ V, Below w.heap.size w V → Calls Tryz.prog 128 #[.agg #[.slice a1 l1 c1, .slice a2 l2 c2, .slice a3 l3 c3, .int .i64 nh, .int .i64 nc, .int .i64 nd], .string x.n] V fun e w' => e = .returned (.tuple #[.agg #[.string (crAt cs x.n).n, .int .i64 (crAt cs x.n).m, .int .i64 (crAt cs x.n).d], .bool (!decide (ixE (qCr x.n) cs < 0))]) ∧ Below V.heap.size V w') := hide (fun V b => carryOf_any nh nc nd a1 a2 a3 l1 c1 l2 c2 l3 c3 cs x.n V (hr.below b))
  obtain ⟨C, hC⟩ : ∃ C, crAt cs x.n = C := ⟨_, rfl⟩
  obtain ⟨L, hL⟩ : ∃ L, (!decide (ixE (qCr x.n) cs < 0)) = L := ⟨_, rfl⟩
  rw [hC, hL] at CC
  rw [show decide (ixE (qCr x.n) cs < 0) = !L by rw [← hL]; simp]
  clear hC hL hr
  go_enter Tryz.func112, Tryz.ntmps112
  go_wp2_with fail
  obtain ⟨W, hW⟩ : ∃ W, W = (w.alloc (Obj.cells #[.slice a1 l1 c1, .slice a2 l2 c2, .slice a3 l3 c3, .int .i64 nh, .int .i64 nc, .int .i64 nd] 37)).alloc (Obj.cells #[.string x.n, .int .i64 x.i, .int .i64 x.s] 94) := ⟨_, rfl⟩
  rw [← hW]
  have K0 : Hid (Blk W (w.heap.size) [.slice a1 l1 c1, .slice a2 l2 c2, .slice a3 l3 c3, .int .i64 nh, .int .i64 nc, .int .i64 nd]) := hide (by rw [hW]; exact blkAt2_0)
  have K1 : Hid (Blk W (w.heap.size + 1) [.string x.n, .int .i64 x.i, .int .i64 x.s]) := hide (by rw [hW]; exact blkAt2_1)
  have B0 : Hid (Below w.heap.size w W) := hide (by rw [hW]; exact bel2 _ _)
  clear hW
  obtain ⟨ι, fW, _, hb, hall⟩ := belClass W
  have HB := hide hb
  have HA := hide hall
  have c00 : ∀ z, (fW z).cell? ⟨w.heap.size, 0, none⟩ = some (.slice a1 l1 c1) := fun z => ((unhide K0).below (hb z)).c 0 (by simp)
  have c01 : ∀ z, (fW z).cell? ⟨w.heap.size, 1, none⟩ = some (.slice a2 l2 c2) := fun z => ((unhide K0).below (hb z)).c 1 (by simp)
  have c02 : ∀ z, (fW z).cell? ⟨w.heap.size, 2, none⟩ = some (.slice a3 l3 c3) := fun z => ((unhide K0).below (hb z)).c 2 (by simp)
  have c03 : ∀ z, (fW z).cell? ⟨w.heap.size, 3, none⟩ = some (.int .i64 nh) := fun z => ((unhide K0).below (hb z)).c 3 (by simp)
  have c04 : ∀ z, (fW z).cell? ⟨w.heap.size, 4, none⟩ = some (.int .i64 nc) := fun z => ((unhide K0).below (hb z)).c 4 (by simp)
  have c05 : ∀ z, (fW z).cell? ⟨w.heap.size, 5, none⟩ = some (.int .i64 nd) := fun z => ((unhide K0).below (hb z)).c 5 (by simp)
  have c10 : ∀ z, (fW z).cell? ⟨w.heap.size + 1, 0, none⟩ = some (.string x.n) := fun z => ((unhide K1).below (hb z)).c 0 (by simp)
  have c11 : ∀ z, (fW z).cell? ⟨w.heap.size + 1, 1, none⟩ = some (.int .i64 x.i) := fun z => ((unhide K1).below (hb z)).c 1 (by simp)
  have c12 : ∀ z, (fW z).cell? ⟨w.heap.size + 1, 2, none⟩ = some (.int .i64 x.s) := fun z => ((unhide K1).below (hb z)).c 2 (by simp)
  clear hb hall
  obtain ⟨x0, h0⟩ := (unhide HA) W (Below.refl _ _)
  rw [h0]
  clear h0
  go_wp2_with (go_at_call 128; refine (belQ (unhide HB) (unhide HA) (unhide CC _ ((unhide B0).trans ((unhide HB _).mono (unhide B0).size)))).mono ?_; rintro e _ ⟨rfl, y, rfl⟩)
  go_ret
  have BY := (unhide B0).trans ((unhide HB y).mono (unhide B0).size)
  exact ⟨rfl, BY.alloc BY.size _⟩
set_option maxRecDepth 20000 in
set_option maxHeartbeats 2000000 in
theorem isMany_any (nh nc nd : Int) (a1 a2 a3 : Option Addr) (l1 c1 l2 c2 l3 c3 : Nat) (cs : List Cr) (ds : List Df) (x : Df) (w : World) (hr : RowE 3 crC w a2 l2 cs) (hr3 : RowE 3 dfC w a3 l3 ds) (hl : l3 ≤ 100) :
    Calls Tryz.prog 113 #[.agg #[.slice a1 l1 c1, .slice a2 l2 c2, .slice a3 l3 c3, .int .i64 nh, .int .i64 nc, .int .i64 nd], .agg #[.string x.n, .int .i64 x.i, .int .i64 x.s]] w fun e w' => e = .returned (.bool (!decide (ixE (qCr x.n) cs < 0) && decide ((crAt cs x.n).m < mnF ds x.n))) ∧ Below w.heap.size w w' := by
  have CC : Hid (∀ V, Below w.heap.size w V → Calls Tryz.prog 128 #[.agg #[.slice a1 l1 c1, .slice a2 l2 c2, .slice a3 l3 c3, .int .i64 nh, .int .i64 nc, .int .i64 nd], .string x.n] V fun e w' => e = .returned (.tuple #[.agg #[.string (crAt cs x.n).n, .int .i64 (crAt cs x.n).m, .int .i64 (crAt cs x.n).d], .bool (!decide (ixE (qCr x.n) cs < 0))]) ∧ Below V.heap.size V w') := hide (fun V b => carryOf_any nh nc nd a1 a2 a3 l1 c1 l2 c2 l3 c3 cs x.n V (hr.below b))
  have CM : Hid (∀ V, Below w.heap.size w V → Calls Tryz.prog 129 #[.agg #[.slice a1 l1 c1, .slice a2 l2 c2, .slice a3 l3 c3, .int .i64 nh, .int .i64 nc, .int .i64 nd], .string x.n] V fun e w' => e = .returned (.int .i64 (mnF ds x.n)) ∧ Below V.heap.size V w') := hide (fun V b => manyOf_any nh nc nd a1 a2 a3 l1 c1 l2 c2 l3 c3 ds x.n V (hr3.below b) hl)
  obtain ⟨M, hM⟩ : ∃ M, mnF ds x.n = M := ⟨_, rfl⟩
  rw [hM] at CM ⊢
  clear hM hr3
  obtain ⟨C, hC⟩ : ∃ C, crAt cs x.n = C := ⟨_, rfl⟩
  obtain ⟨L, hL⟩ : ∃ L, (!decide (ixE (qCr x.n) cs < 0)) = L := ⟨_, rfl⟩
  rw [hC, hL] at CC
  rw [hC, hL]
  clear hC hL hr
  go_enter Tryz.func113, Tryz.ntmps113
  go_wp2_with fail
  obtain ⟨W, hW⟩ : ∃ W, W = (w.alloc (Obj.cells #[.slice a1 l1 c1, .slice a2 l2 c2, .slice a3 l3 c3, .int .i64 nh, .int .i64 nc, .int .i64 nd] 37)).alloc (Obj.cells #[.string x.n, .int .i64 x.i, .int .i64 x.s] 94) := ⟨_, rfl⟩
  rw [← hW]
  have K0 : Hid (Blk W (w.heap.size) [.slice a1 l1 c1, .slice a2 l2 c2, .slice a3 l3 c3, .int .i64 nh, .int .i64 nc, .int .i64 nd]) := hide (by rw [hW]; exact blkAt2_0)
  have K1 : Hid (Blk W (w.heap.size + 1) [.string x.n, .int .i64 x.i, .int .i64 x.s]) := hide (by rw [hW]; exact blkAt2_1)
  have B0 : Hid (Below w.heap.size w W) := hide (by rw [hW]; exact bel2 _ _)
  clear hW
  obtain ⟨ι, fW, _, hb, hall⟩ := belClass W
  have HB := hide hb
  have HA := hide hall
  have c00 : ∀ z, (fW z).cell? ⟨w.heap.size, 0, none⟩ = some (.slice a1 l1 c1) := fun z => ((unhide K0).below (hb z)).c 0 (by simp)
  have c01 : ∀ z, (fW z).cell? ⟨w.heap.size, 1, none⟩ = some (.slice a2 l2 c2) := fun z => ((unhide K0).below (hb z)).c 1 (by simp)
  have c02 : ∀ z, (fW z).cell? ⟨w.heap.size, 2, none⟩ = some (.slice a3 l3 c3) := fun z => ((unhide K0).below (hb z)).c 2 (by simp)
  have c03 : ∀ z, (fW z).cell? ⟨w.heap.size, 3, none⟩ = some (.int .i64 nh) := fun z => ((unhide K0).below (hb z)).c 3 (by simp)
  have c04 : ∀ z, (fW z).cell? ⟨w.heap.size, 4, none⟩ = some (.int .i64 nc) := fun z => ((unhide K0).below (hb z)).c 4 (by simp)
  have c05 : ∀ z, (fW z).cell? ⟨w.heap.size, 5, none⟩ = some (.int .i64 nd) := fun z => ((unhide K0).below (hb z)).c 5 (by simp)
  have c10 : ∀ z, (fW z).cell? ⟨w.heap.size + 1, 0, none⟩ = some (.string x.n) := fun z => ((unhide K1).below (hb z)).c 0 (by simp)
  have c11 : ∀ z, (fW z).cell? ⟨w.heap.size + 1, 1, none⟩ = some (.int .i64 x.i) := fun z => ((unhide K1).below (hb z)).c 1 (by simp)
  have c12 : ∀ z, (fW z).cell? ⟨w.heap.size + 1, 2, none⟩ = some (.int .i64 x.s) := fun z => ((unhide K1).below (hb z)).c 2 (by simp)
  clear hb hall
  obtain ⟨x0, h0⟩ := (unhide HA) W (Below.refl _ _)
  rw [h0]
  clear h0
  go_upto_region 2 with (go_at_call 128; refine (belQ (unhide HB) (unhide HA) (unhide CC _ ((unhide B0).trans ((unhide HB _).mono (unhide B0).size)))).mono ?_; rintro e _ ⟨rfl, y, rfl⟩)
  clear c00 c01 c02 c03 c04 c05 c10 c11 c12
  obtain ⟨V, hV⟩ : ∃ V, V = (fW y).alloc (Obj.cells #[.string C.n, .int .i64 C.m, .int .i64 C.d] 92) := ⟨_, rfl⟩
  have bV : Below (fW y).heap.size (fW y) V := by rw [hV]; exact bel1 _
  have KV : Hid (Blk V (fW y).heap.size [.string C.n, .int .i64 C.m, .int .i64 C.d]) := hide (by rw [hV]; exact Blk.new _ _)
  have K0 := hide (((unhide K0).below (unhide HB y)).below bV)
  have K1 := hide (((unhide K1).below (unhide HB y)).below bV)
  have B0 := hide (((unhide B0).trans ((unhide HB y).mono (unhide B0).size)).trans (bV.mono ((unhide B0).trans ((unhide HB y).mono (unhide B0).size)).size))
  rw [← hV]
  obtain ⟨Q, hQ⟩ : ∃ Q, (fW y).heap.size = Q := ⟨_, rfl⟩
  rw [hQ] at KV ⊢
  clear hV bV hQ HA HB
  obtain ⟨ι2, fV, _, hb, hall⟩ := belClass V
  have HB := hide hb
  have HA := hide hall
  have c00 : ∀ z, (fV z).cell? ⟨w.heap.size, 0, none⟩ = some (.slice a1 l1 c1) := fun z => ((unhide K0).below (hb z)).c 0 (by simp)
  have c01 : ∀ z, (fV z).cell? ⟨w.heap.size, 1, none⟩ = some (.slice a2 l2 c2) := fun z => ((unhide K0).below (hb z)).c 1 (by simp)
  have c02 : ∀ z, (fV z).cell? ⟨w.heap.size, 2, none⟩ = some (.slice a3 l3 c3) := fun z => ((unhide K0).below (hb z)).c 2 (by simp)
  have c03 : ∀ z, (fV z).cell? ⟨w.heap.size, 3, none⟩ = some (.int .i64 nh) := fun z => ((unhide K0).below (hb z)).c 3 (by simp)
  have c04 : ∀ z, (fV z).cell? ⟨w.heap.size, 4, none⟩ = some (.int .i64 nc) := fun z => ((unhide K0).below (hb z)).c 4 (by simp)
  have c05 : ∀ z, (fV z).cell? ⟨w.heap.size, 5, none⟩ = some (.int .i64 nd) := fun z => ((unhide K0).below (hb z)).c 5 (by simp)
  have c10 : ∀ z, (fV z).cell? ⟨w.heap.size + 1, 0, none⟩ = some (.string x.n) := fun z => ((unhide K1).below (hb z)).c 0 (by simp)
  have c11 : ∀ z, (fV z).cell? ⟨w.heap.size + 1, 1, none⟩ = some (.int .i64 x.i) := fun z => ((unhide K1).below (hb z)).c 1 (by simp)
  have c12 : ∀ z, (fV z).cell? ⟨w.heap.size + 1, 2, none⟩ = some (.int .i64 x.s) := fun z => ((unhide K1).below (hb z)).c 2 (by simp)
  have c20 : ∀ z, (fV z).cell? ⟨Q, 0, none⟩ = some (.string C.n) := fun z => ((unhide KV).below (hb z)).c 0 (by simp)
  have c21 : ∀ z, (fV z).cell? ⟨Q, 1, none⟩ = some (.int .i64 C.m) := fun z => ((unhide KV).below (hb z)).c 1 (by simp)
  have c22 : ∀ z, (fV z).cell? ⟨Q, 2, none⟩ = some (.int .i64 C.d) := fun z => ((unhide KV).below (hb z)).c 2 (by simp)
  clear hb hall
  obtain ⟨x0, h0⟩ := (unhide HA) V (Below.refl _ _)
  rw [h0]
  clear h0
  cases L with
  | false =>
    refine wp_region_bel (fun w' h => (unhide HA) w' ((unhide HB _).trans (h.mono (unhide HB _).size))) (by kernel_rfl) (by kernel_rfl) ?_
    (repeat (go_big_quiet_step (fail)))
    refine wpQuiet_nil ?_
    rintro _ ⟨y, rfl⟩
    go_wp2_with fail
    go_ret
    exact ⟨ret_bool (by simp), (unhide B0).trans ((unhide HB _).mono (unhide B0).size)⟩
  | true =>
    refine wp_region_bel (fun w' h => (unhide HA) w' ((unhide HB _).trans (h.mono (unhide HB _).size))) (by kernel_rfl) (by kernel_rfl) ?_
    (repeat (go_big_quiet_step (first | (go_at_call 129; exact belQ (unhide HB) (unhide HA) (unhide CM _ ((unhide B0).trans ((unhide HB _).mono (unhide B0).size)))))))
    refine wpQuiet_nil ?_
    rintro _ ⟨y, rfl⟩
    go_wp2_with fail
    go_ret
    exact ⟨ret_bool (by simp), (unhide B0).trans ((unhide HB _).mono (unhide B0).size)⟩
set_option maxRecDepth 20000 in
set_option maxHeartbeats 2000000 in
theorem isOld_any (nh nc nd : Int) (a1 a2 a3 : Option Addr) (l1 c1 l2 c2 l3 c3 : Nat) (cs : List Cr) (x : Df) (w : World) (hr : RowE 3 crC w a2 l2 cs) (h1 : 0 ≤ nd ∧ nd ≤ 1000000) (h2 : 0 ≤ x.s ∧ x.s ≤ 1000000) :
    Calls Tryz.prog 114 #[.agg #[.slice a1 l1 c1, .slice a2 l2 c2, .slice a3 l3 c3, .int .i64 nh, .int .i64 nc, .int .i64 nd], .agg #[.string x.n, .int .i64 x.i, .int .i64 x.s]] w fun e w' => e = .returned (.bool (!decide (ixE (qCr x.n) cs < 0) && decide ((crAt cs x.n).d < nd - x.s))) ∧ Below w.heap.size w w' := by
  have CC : Hid (∀ V, Below w.heap.size w V → Calls Tryz.prog 128 #[.agg #[.slice a1 l1 c1, .slice a2 l2 c2, .slice a3 l3 c3, .int .i64 nh, .int .i64 nc, .int .i64 nd], .string x.n] V fun e w' => e = .returned (.tuple #[.agg #[.string (crAt cs x.n).n, .int .i64 (crAt cs x.n).m, .int .i64 (crAt cs x.n).d], .bool (!decide (ixE (qCr x.n) cs < 0))]) ∧ Below V.heap.size V w') := hide (fun V b => carryOf_any nh nc nd a1 a2 a3 l1 c1 l2 c2 l3 c3 cs x.n V (hr.below b))
  obtain ⟨C, hC⟩ : ∃ C, crAt cs x.n = C := ⟨_, rfl⟩
  obtain ⟨L, hL⟩ : ∃ L, (!decide (ixE (qCr x.n) cs < 0)) = L := ⟨_, rfl⟩
  rw [hC, hL] at CC
  rw [hC, hL]
  clear hC hL hr
  go_enter Tryz.func114, Tryz.ntmps114
  go_wp2_with fail
  obtain ⟨W, hW⟩ : ∃ W, W = (w.alloc (Obj.cells #[.slice a1 l1 c1, .slice a2 l2 c2, .slice a3 l3 c3, .int .i64 nh, .int .i64 nc, .int .i64 nd] 37)).alloc (Obj.cells #[.string x.n, .int .i64 x.i, .int .i64 x.s] 94) := ⟨_, rfl⟩
  rw [← hW]
  have K0 : Hid (Blk W (w.heap.size) [.slice a1 l1 c1, .slice a2 l2 c2, .slice a3 l3 c3, .int .i64 nh, .int .i64 nc, .int .i64 nd]) := hide (by rw [hW]; exact blkAt2_0)
  have K1 : Hid (Blk W (w.heap.size + 1) [.string x.n, .int .i64 x.i, .int .i64 x.s]) := hide (by rw [hW]; exact blkAt2_1)
  have B0 : Hid (Below w.heap.size w W) := hide (by rw [hW]; exact bel2 _ _)
  clear hW
  obtain ⟨ι, fW, _, hb, hall⟩ := belClass W
  have HB := hide hb
  have HA := hide hall
  have c00 : ∀ z, (fW z).cell? ⟨w.heap.size, 0, none⟩ = some (.slice a1 l1 c1) := fun z => ((unhide K0).below (hb z)).c 0 (by simp)
  have c01 : ∀ z, (fW z).cell? ⟨w.heap.size, 1, none⟩ = some (.slice a2 l2 c2) := fun z => ((unhide K0).below (hb z)).c 1 (by simp)
  have c02 : ∀ z, (fW z).cell? ⟨w.heap.size, 2, none⟩ = some (.slice a3 l3 c3) := fun z => ((unhide K0).below (hb z)).c 2 (by simp)
  have c03 : ∀ z, (fW z).cell? ⟨w.heap.size, 3, none⟩ = some (.int .i64 nh) := fun z => ((unhide K0).below (hb z)).c 3 (by simp)
  have c04 : ∀ z, (fW z).cell? ⟨w.heap.size, 4, none⟩ = some (.int .i64 nc) := fun z => ((unhide K0).below (hb z)).c 4 (by simp)
  have c05 : ∀ z, (fW z).cell? ⟨w.heap.size, 5, none⟩ = some (.int .i64 nd) := fun z => ((unhide K0).below (hb z)).c 5 (by simp)
  have c10 : ∀ z, (fW z).cell? ⟨w.heap.size + 1, 0, none⟩ = some (.string x.n) := fun z => ((unhide K1).below (hb z)).c 0 (by simp)
  have c11 : ∀ z, (fW z).cell? ⟨w.heap.size + 1, 1, none⟩ = some (.int .i64 x.i) := fun z => ((unhide K1).below (hb z)).c 1 (by simp)
  have c12 : ∀ z, (fW z).cell? ⟨w.heap.size + 1, 2, none⟩ = some (.int .i64 x.s) := fun z => ((unhide K1).below (hb z)).c 2 (by simp)
  clear hb hall
  obtain ⟨x0, h0⟩ := (unhide HA) W (Below.refl _ _)
  rw [h0]
  clear h0
  go_upto_region 2 with (go_at_call 128; refine (belQ (unhide HB) (unhide HA) (unhide CC _ ((unhide B0).trans ((unhide HB _).mono (unhide B0).size)))).mono ?_; rintro e _ ⟨rfl, y, rfl⟩)
  clear c00 c01 c02 c03 c04 c05 c10 c11 c12
  obtain ⟨V, hV⟩ : ∃ V, V = (fW y).alloc (Obj.cells #[.string C.n, .int .i64 C.m, .int .i64 C.d] 92) := ⟨_, rfl⟩
  have bV : Below (fW y).heap.size (fW y) V := by rw [hV]; exact bel1 _
  have KV : Hid (Blk V (fW y).heap.size [.string C.n, .int .i64 C.m, .int .i64 C.d]) := hide (by rw [hV]; exact Blk.new _ _)
  have K0 := hide (((unhide K0).below (unhide HB y)).below bV)
  have K1 := hide (((unhide K1).below (unhide HB y)).below bV)
  have B0 := hide (((unhide B0).trans ((unhide HB y).mono (unhide B0).size)).trans (bV.mono ((unhide B0).trans ((unhide HB y).mono (unhide B0).size)).size))
  rw [← hV]
  obtain ⟨Q, hQ⟩ : ∃ Q, (fW y).heap.size = Q := ⟨_, rfl⟩
  rw [hQ] at KV ⊢
  clear hV bV hQ HA HB
  obtain ⟨ι2, fV, _, hb, hall⟩ := belClass V
  have HB := hide hb
  have HA := hide hall
  have c00 : ∀ z, (fV z).cell? ⟨w.heap.size, 0, none⟩ = some (.slice a1 l1 c1) := fun z => ((unhide K0).below (hb z)).c 0 (by simp)
  have c01 : ∀ z, (fV z).cell? ⟨w.heap.size, 1, none⟩ = some (.slice a2 l2 c2) := fun z => ((unhide K0).below (hb z)).c 1 (by simp)
  have c02 : ∀ z, (fV z).cell? ⟨w.heap.size, 2, none⟩ = some (.slice a3 l3 c3) := fun z => ((unhide K0).below (hb z)).c 2 (by simp)
  have c03 : ∀ z, (fV z).cell? ⟨w.heap.size, 3, none⟩ = some (.int .i64 nh) := fun z => ((unhide K0).below (hb z)).c 3 (by simp)
  have c04 : ∀ z, (fV z).cell? ⟨w.heap.size, 4, none⟩ = some (.int .i64 nc) := fun z => ((unhide K0).below (hb z)).c 4 (by simp)
  have c05 : ∀ z, (fV z).cell? ⟨w.heap.size, 5, none⟩ = some (.int .i64 nd) := fun z => ((unhide K0).below (hb z)).c 5 (by simp)
  have c10 : ∀ z, (fV z).cell? ⟨w.heap.size + 1, 0, none⟩ = some (.string x.n) := fun z => ((unhide K1).below (hb z)).c 0 (by simp)
  have c11 : ∀ z, (fV z).cell? ⟨w.heap.size + 1, 1, none⟩ = some (.int .i64 x.i) := fun z => ((unhide K1).below (hb z)).c 1 (by simp)
  have c12 : ∀ z, (fV z).cell? ⟨w.heap.size + 1, 2, none⟩ = some (.int .i64 x.s) := fun z => ((unhide K1).below (hb z)).c 2 (by simp)
  have c20 : ∀ z, (fV z).cell? ⟨Q, 0, none⟩ = some (.string C.n) := fun z => ((unhide KV).below (hb z)).c 0 (by simp)
  have c21 : ∀ z, (fV z).cell? ⟨Q, 1, none⟩ = some (.int .i64 C.m) := fun z => ((unhide KV).below (hb z)).c 1 (by simp)
  have c22 : ∀ z, (fV z).cell? ⟨Q, 2, none⟩ = some (.int .i64 C.d) := fun z => ((unhide KV).below (hb z)).c 2 (by simp)
  clear hb hall
  obtain ⟨x0, h0⟩ := (unhide HA) V (Below.refl _ _)
  rw [h0]
  clear h0
  cases L with
  | true =>
    go_wp2_with fail
    go_ret
    exact ⟨ret_bool (by simp), (unhide B0).trans ((unhide HB _).mono (unhide B0).size)⟩
  | false =>
    go_wp2_with fail
    go_ret
    exact ⟨ret_bool (by simp), (unhide B0).trans ((unhide HB _).mono (unhide B0).size)⟩

end Go.Proofs.YticdccdkjepifaaGreat
