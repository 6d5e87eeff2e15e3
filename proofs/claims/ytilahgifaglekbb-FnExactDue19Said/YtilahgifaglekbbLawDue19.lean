/-
  The law FnExactDue19 returns true at every argument and writes nothing that was there: the walk. No condition.
-/
import Derived.Test.YtilahgifaglekbbD9Any
import Derived.Test.YtilahgifaglekbbD9Imp
import Derived.Test.YtilahgifaglekbbTsTo
import Derived.Test.YtilahgifaglekbbToCk
import Derived.Test.YtilahgifaglekbbOnly
import Derived.Test.YtilahgifaglekbbRegInv
import Derived.Deep.RegionHeld3
namespace Go.Proofs.Ytilahgifaglekbb
open Go.RowKit
structure Due19Rspec0 (w2 : World) (nm : ByteArray) (ho : Int) (cy : Int) (dy : Int) (dh : Int) (dc : Int) (dd : Int) (nh : Int) (nc : Int) (nd : Int) (t0 t1 t2 t3 t4 t5 t6 t7 t8 t9 t10 t11 t12 : Bool) (v0 v1 v2 v3 v4 v5 v6 v7 v8 v9 v10 v12 : Value) (W : World) : Prop where
  bel : Below w2.heap.size w2 W
  e0 : t0 = true → v0 = .agg #[.string nm, .int .i64 ho, .int .i64 cy, .int .i64 dy, .int .i64 dh, .int .i64 dc, .int .i64 dd]
  e1 : t1 = true → v1 = .agg #[.string nm, .int .i64 ho, .int .i64 cy, .int .i64 dy, .int .i64 dh, .int .i64 dc, .int .i64 dd]
  e2 : t2 = true → v2 = .agg #[.int .i64 nh, .int .i64 nc, .int .i64 nd]
  e3 : t3 = true → v3 = .agg #[.int .i64 nh, .int .i64 nc, .int .i64 nd]
  e4 : t4 = true → v4 = .tuple #[.bool (d9D ⟨nm, ho, cy, dy, dh, dc, dd⟩ nh nc nd), .agg #[.int .i64 (d9H ⟨nm, ho, cy, dy, dh, dc, dd⟩ nh nc nd), .int .i64 (d9C ⟨nm, ho, cy, dy, dh, dc, dd⟩ nh nc nd), .int .i64 (d9E ⟨nm, ho, cy, dy, dh, dc, dd⟩ nh nc nd)], .bool (d9B ⟨nm, ho, cy, dy, dh, dc, dd⟩ nh nc nd)]
  e5 : t5 = true → v5 = .tuple #[.bool (d9D ⟨nm, ho, cy, dy, dh, dc, dd⟩ nh nc nd), .agg #[.int .i64 (d9H ⟨nm, ho, cy, dy, dh, dc, dd⟩ nh nc nd), .int .i64 (d9C ⟨nm, ho, cy, dy, dh, dc, dd⟩ nh nc nd), .int .i64 (d9E ⟨nm, ho, cy, dy, dh, dc, dd⟩ nh nc nd)], .bool (d9B ⟨nm, ho, cy, dy, dh, dc, dd⟩ nh nc nd)]
  c5 : t5 = true → t4 = true
  e6 : t6 = true → v6 = .bool (d9D ⟨nm, ho, cy, dy, dh, dc, dd⟩ nh nc nd)
  c6 : t6 = true → t4 = true
  e7 : t7 = true → v7 = .agg #[.int .i64 (d9H ⟨nm, ho, cy, dy, dh, dc, dd⟩ nh nc nd), .int .i64 (d9C ⟨nm, ho, cy, dy, dh, dc, dd⟩ nh nc nd), .int .i64 (d9E ⟨nm, ho, cy, dy, dh, dc, dd⟩ nh nc nd)]
  c7 : t7 = true → t4 = true
  e8 : t8 = true → v8 = .bool (d9B ⟨nm, ho, cy, dy, dh, dc, dd⟩ nh nc nd)
  c8 : t8 = true → t4 = true
  e9 : t9 = true → ∃ P, v9 = .pointer (some ⟨P, 0, none⟩) ∧ w2.heap.size ≤ P ∧ Blk W P (bif t11 then [.int .i64 (d9H ⟨nm, ho, cy, dy, dh, dc, dd⟩ nh nc nd), .int .i64 (d9C ⟨nm, ho, cy, dy, dh, dc, dd⟩ nh nc nd), .int .i64 (d9E ⟨nm, ho, cy, dy, dh, dc, dd⟩ nh nc nd)] else [.int .i64 0, .int .i64 0, .int .i64 0])
  e10 : t10 = true → v10 = .bool (d9D ⟨nm, ho, cy, dy, dh, dc, dd⟩ nh nc nd)
  n11 : t11 = true → t9 = true
  e12 : t12 = true → v12 = .bool (d9B ⟨nm, ho, cy, dy, dh, dc, dd⟩ nh nc nd)
theorem Due19Rspec0.below {w2 : World} {nm : ByteArray} {ho : Int} {cy : Int} {dy : Int} {dh : Int} {dc : Int} {dd : Int} {nh : Int} {nc : Int} {nd : Int} {t0 t1 t2 t3 t4 t5 t6 t7 t8 t9 t10 t11 t12 : Bool} {v0 v1 v2 v3 v4 v5 v6 v7 v8 v9 v10 v12 : Value} {W W' : World} (K : Due19Rspec0 w2 nm ho cy dy dh dc dd nh nc nd t0 t1 t2 t3 t4 t5 t6 t7 t8 t9 t10 t11 t12 v0 v1 v2 v3 v4 v5 v6 v7 v8 v9 v10 v12 W) (k : Below W.heap.size W W') : Due19Rspec0 w2 nm ho cy dy dh dc dd nh nc nd t0 t1 t2 t3 t4 t5 t6 t7 t8 t9 t10 t11 t12 v0 v1 v2 v3 v4 v5 v6 v7 v8 v9 v10 v12 W' :=
  ⟨K.bel.trans (k.mono K.bel.size), K.e0, K.e1, K.e2, K.e3, K.e4, K.e5, K.c5, K.e6, K.c6, K.e7, K.c7, K.e8, K.c8, fun h => by obtain ⟨P, x1, x2, x3⟩ := K.e9 h; exact ⟨P, x1, x2, x3.below k⟩, K.e10, K.n11, K.e12⟩
def Due19Rspec0J (w2 : World) (nm : ByteArray) (ho : Int) (cy : Int) (dy : Int) (dh : Int) (dc : Int) (dd : Int) (nh : Int) (nc : Int) (nd : Int) (A0 : Act) (l : Nat → Bool) (a : Act) (V : World) : Prop := ∃ (v0 v1 v2 v3 v4 v5 v6 v7 v8 v9 v10 v12 : Value), a = ((((((((((((A0.put (some 18) v0).put (some 19) v1).put (some 20) v2).put (some 21) v3).put (some 22) v4).put (some 17) v5).put (some 23) v6).put (some 24) v7).put (some 25) v8).put (some 7) v9).put (some 6) v10).put (some 8) v12) ∧ Due19Rspec0 w2 nm ho cy dy dh dc dd nh nc nd (l 0) (l 1) (l 2) (l 3) (l 4) (l 5) (l 6) (l 7) (l 8) (l 9) (l 10) (l 11) (l 12) v0 v1 v2 v3 v4 v5 v6 v7 v8 v9 v10 v12 V
theorem Due19Rspec0J.mk {w2 : World} {nm : ByteArray} {ho : Int} {cy : Int} {dy : Int} {dh : Int} {dc : Int} {dd : Int} {nh : Int} {nc : Int} {nd : Int} {A0 : Act} {l : Nat → Bool} {a : Act} {V : World} {v0 v1 v2 v3 v4 v5 v6 v7 v8 v9 v10 v12 : Value} (K : Due19Rspec0 w2 nm ho cy dy dh dc dd nh nc nd (l 0) (l 1) (l 2) (l 3) (l 4) (l 5) (l 6) (l 7) (l 8) (l 9) (l 10) (l 11) (l 12) v0 v1 v2 v3 v4 v5 v6 v7 v8 v9 v10 v12 V) (h : a = ((((((((((((A0.put (some 18) v0).put (some 19) v1).put (some 20) v2).put (some 21) v3).put (some 22) v4).put (some 17) v5).put (some 23) v6).put (some 24) v7).put (some 25) v8).put (some 7) v9).put (some 6) v10).put (some 8) v12)) : Due19Rspec0J w2 nm ho cy dy dh dc dd nh nc nd A0 l a V := ⟨v0, v1, v2, v3, v4, v5, v6, v7, v8, v9, v10, v12, h, K⟩

structure Due19Rimpl1 (w3 : World) (nm : ByteArray) (ho : Int) (cy : Int) (dy : Int) (dh : Int) (dc : Int) (dd : Int) (nh : Int) (nc : Int) (nd : Int) (t0 t1 t2 t3 t4 t5 t6 t7 t8 t9 t10 t11 t12 : Bool) (v0 v1 v2 v3 v4 v5 v6 v7 v8 v9 v10 v12 : Value) (W : World) : Prop where
  bel : Below w3.heap.size w3 W
  e0 : t0 = true → v0 = .agg #[.string nm, .int .i64 ho, .int .i64 cy, .int .i64 dy, .int .i64 dh, .int .i64 dc, .int .i64 dd]
  e1 : t1 = true → v1 = .agg #[.string nm, .int .i64 ho, .int .i64 cy, .int .i64 dy, .int .i64 dh, .int .i64 dc, .int .i64 dd]
  e2 : t2 = true → v2 = .agg #[.int .i64 nh, .int .i64 nc, .int .i64 nd]
  e3 : t3 = true → v3 = .agg #[.int .i64 nh, .int .i64 nc, .int .i64 nd]
  e4 : t4 = true → v4 = .tuple #[.bool (d9D ⟨nm, ho, cy, dy, dh, dc, dd⟩ nh nc nd), .agg #[.int .i64 (d9H ⟨nm, ho, cy, dy, dh, dc, dd⟩ nh nc nd), .int .i64 (d9C ⟨nm, ho, cy, dy, dh, dc, dd⟩ nh nc nd), .int .i64 (d9E ⟨nm, ho, cy, dy, dh, dc, dd⟩ nh nc nd)], .bool (d9B ⟨nm, ho, cy, dy, dh, dc, dd⟩ nh nc nd)]
  e5 : t5 = true → v5 = .tuple #[.bool (d9D ⟨nm, ho, cy, dy, dh, dc, dd⟩ nh nc nd), .agg #[.int .i64 (d9H ⟨nm, ho, cy, dy, dh, dc, dd⟩ nh nc nd), .int .i64 (d9C ⟨nm, ho, cy, dy, dh, dc, dd⟩ nh nc nd), .int .i64 (d9E ⟨nm, ho, cy, dy, dh, dc, dd⟩ nh nc nd)], .bool (d9B ⟨nm, ho, cy, dy, dh, dc, dd⟩ nh nc nd)]
  c5 : t5 = true → t4 = true
  e6 : t6 = true → v6 = .bool (d9D ⟨nm, ho, cy, dy, dh, dc, dd⟩ nh nc nd)
  c6 : t6 = true → t4 = true
  e7 : t7 = true → v7 = .agg #[.int .i64 (d9H ⟨nm, ho, cy, dy, dh, dc, dd⟩ nh nc nd), .int .i64 (d9C ⟨nm, ho, cy, dy, dh, dc, dd⟩ nh nc nd), .int .i64 (d9E ⟨nm, ho, cy, dy, dh, dc, dd⟩ nh nc nd)]
  c7 : t7 = true → t4 = true
  e8 : t8 = true → v8 = .bool (d9B ⟨nm, ho, cy, dy, dh, dc, dd⟩ nh nc nd)
  c8 : t8 = true → t4 = true
  e9 : t9 = true → ∃ P, v9 = .pointer (some ⟨P, 0, none⟩) ∧ w3.heap.size ≤ P ∧ Blk W P (bif t11 then [.int .i64 (d9H ⟨nm, ho, cy, dy, dh, dc, dd⟩ nh nc nd), .int .i64 (d9C ⟨nm, ho, cy, dy, dh, dc, dd⟩ nh nc nd), .int .i64 (d9E ⟨nm, ho, cy, dy, dh, dc, dd⟩ nh nc nd)] else [.int .i64 0, .int .i64 0, .int .i64 0])
  e10 : t10 = true → v10 = .bool (d9D ⟨nm, ho, cy, dy, dh, dc, dd⟩ nh nc nd)
  n11 : t11 = true → t9 = true
  e12 : t12 = true → v12 = .bool (d9B ⟨nm, ho, cy, dy, dh, dc, dd⟩ nh nc nd)
theorem Due19Rimpl1.below {w3 : World} {nm : ByteArray} {ho : Int} {cy : Int} {dy : Int} {dh : Int} {dc : Int} {dd : Int} {nh : Int} {nc : Int} {nd : Int} {t0 t1 t2 t3 t4 t5 t6 t7 t8 t9 t10 t11 t12 : Bool} {v0 v1 v2 v3 v4 v5 v6 v7 v8 v9 v10 v12 : Value} {W W' : World} (K : Due19Rimpl1 w3 nm ho cy dy dh dc dd nh nc nd t0 t1 t2 t3 t4 t5 t6 t7 t8 t9 t10 t11 t12 v0 v1 v2 v3 v4 v5 v6 v7 v8 v9 v10 v12 W) (k : Below W.heap.size W W') : Due19Rimpl1 w3 nm ho cy dy dh dc dd nh nc nd t0 t1 t2 t3 t4 t5 t6 t7 t8 t9 t10 t11 t12 v0 v1 v2 v3 v4 v5 v6 v7 v8 v9 v10 v12 W' :=
  ⟨K.bel.trans (k.mono K.bel.size), K.e0, K.e1, K.e2, K.e3, K.e4, K.e5, K.c5, K.e6, K.c6, K.e7, K.c7, K.e8, K.c8, fun h => by obtain ⟨P, x1, x2, x3⟩ := K.e9 h; exact ⟨P, x1, x2, x3.below k⟩, K.e10, K.n11, K.e12⟩
def Due19Rimpl1J (w3 : World) (nm : ByteArray) (ho : Int) (cy : Int) (dy : Int) (dh : Int) (dc : Int) (dd : Int) (nh : Int) (nc : Int) (nd : Int) (A0 : Act) (l : Nat → Bool) (a : Act) (V : World) : Prop := ∃ (v0 v1 v2 v3 v4 v5 v6 v7 v8 v9 v10 v12 : Value), a = ((((((((((((A0.put (some 27) v0).put (some 28) v1).put (some 29) v2).put (some 30) v3).put (some 31) v4).put (some 26) v5).put (some 32) v6).put (some 33) v7).put (some 34) v8).put (some 10) v9).put (some 9) v10).put (some 11) v12) ∧ Due19Rimpl1 w3 nm ho cy dy dh dc dd nh nc nd (l 0) (l 1) (l 2) (l 3) (l 4) (l 5) (l 6) (l 7) (l 8) (l 9) (l 10) (l 11) (l 12) v0 v1 v2 v3 v4 v5 v6 v7 v8 v9 v10 v12 V
theorem Due19Rimpl1J.mk {w3 : World} {nm : ByteArray} {ho : Int} {cy : Int} {dy : Int} {dh : Int} {dc : Int} {dd : Int} {nh : Int} {nc : Int} {nd : Int} {A0 : Act} {l : Nat → Bool} {a : Act} {V : World} {v0 v1 v2 v3 v4 v5 v6 v7 v8 v9 v10 v12 : Value} (K : Due19Rimpl1 w3 nm ho cy dy dh dc dd nh nc nd (l 0) (l 1) (l 2) (l 3) (l 4) (l 5) (l 6) (l 7) (l 8) (l 9) (l 10) (l 11) (l 12) v0 v1 v2 v3 v4 v5 v6 v7 v8 v9 v10 v12 V) (h : a = ((((((((((((A0.put (some 27) v0).put (some 28) v1).put (some 29) v2).put (some 30) v3).put (some 31) v4).put (some 26) v5).put (some 32) v6).put (some 33) v7).put (some 34) v8).put (some 10) v9).put (some 9) v10).put (some 11) v12)) : Due19Rimpl1J w3 nm ho cy dy dh dc dd nh nc nd A0 l a V := ⟨v0, v1, v2, v3, v4, v5, v6, v7, v8, v9, v10, v12, h, K⟩

set_option maxRecDepth 20000 in
set_option maxHeartbeats 8000000 in
theorem lawDue19 (nm : ByteArray) (ho : Int) (cy : Int) (dy : Int) (dh : Int) (dc : Int) (dd : Int) (nh nc nd : Int) (w : World)  (txv0 : nm.size ≤ 9223372036854775807) :
    Calls Try.prog 5 #[.agg #[.string nm, .int .i64 ho, .int .i64 cy, .int .i64 dy, .int .i64 dh, .int .i64 dc, .int .i64 dd], .agg #[.int .i64 nh, .int .i64 nc, .int .i64 nd]] w fun x w' => x = .returned (.bool true) ∧ Below w.heap.size w w' := by
  have hq : (d9D ⟨nm, ho, cy, dy, dh, dc, dd⟩ nh nc nd != d9D ⟨nm, ho, cy, dy, dh, dc, dd⟩ nh nc nd) = false := by simp
  have hq2 : (d9B ⟨nm, ho, cy, dy, dh, dc, dd⟩ nh nc nd != d9B ⟨nm, ho, cy, dy, dh, dc, dd⟩ nh nc nd) = false := by simp
  go_enter Try.func5, Try.ntmps5
  go_wp2_with fail
  obtain ⟨w1, hw1⟩ : ∃ W, W = ((w.alloc (Obj.cells #[.string nm, .int .i64 ho, .int .i64 cy, .int .i64 dy, .int .i64 dh, .int .i64 dc, .int .i64 dd] 29)).alloc (Obj.cells #[.int .i64 nh, .int .i64 nc, .int .i64 nd] 23)) := ⟨_, rfl⟩
  rw [← hw1]
  have K : Hid (Below w.heap.size w w1 ∧ Blk w1 w.heap.size [.string nm, .int .i64 ho, .int .i64 cy, .int .i64 dy, .int .i64 dh, .int .i64 dc, .int .i64 dd] ∧ Blk w1 (w.heap.size + 1) [.int .i64 nh, .int .i64 nc, .int .i64 nd]) := hide ⟨(by rw [hw1]; exact bel2 _ _), (by rw [hw1]; exact blkAt2_0), (by rw [hw1]; exact blkAt2_1)⟩
  have S0 : Hid (w.heap.size + 2 ≤ w1.heap.size) := hide (by rw [hw1]; simp; try omega)
  clear hw1
  have KEPT : Hid (∀ W u3, (Below w.heap.size w W ∧ Blk W w.heap.size [.string nm, .int .i64 ho, .int .i64 cy, .int .i64 dy, .int .i64 dh, .int .i64 dc, .int .i64 dd] ∧ Blk W (w.heap.size + 1) [.int .i64 nh, .int .i64 nc, .int .i64 nd]) → Below W.heap.size W u3 → (Below w.heap.size w u3 ∧ Blk u3 w.heap.size [.string nm, .int .i64 ho, .int .i64 cy, .int .i64 dy, .int .i64 dh, .int .i64 dc, .int .i64 dd] ∧ Blk u3 (w.heap.size + 1) [.int .i64 nh, .int .i64 nc, .int .i64 nd])) := hide (fun W u3 h b => ⟨h.1.trans (b.mono h.1.size), h.2.1.below b, h.2.2.below b⟩)
  refine (szTask_any _ _ _ _ _ _ _ 1048576 _ txv0 (by omega) (by omega)).mono ?_
  rintro x w2 ⟨⟨r1, rfl, hl⟩, b⟩
  have S1 : Hid (w1.heap.size ≤ w2.heap.size) := hide b.size
  have K : Hid (Below w.heap.size w w2 ∧ Blk w2 w.heap.size [.string nm, .int .i64 ho, .int .i64 cy, .int .i64 dy, .int .i64 dh, .int .i64 dc, .int .i64 dd] ∧ Blk w2 (w.heap.size + 1) [.int .i64 nh, .int .i64 nc, .int .i64 nd]) := hide ((unhide KEPT) _ _ (unhide K) b)
  clear b
  rcases hl with hl | ⟨hl, hle, hxv0⟩
  · go_wp2_with fail
    go_ret
    exact ⟨rfl, (unhide K).1⟩
  have nr1 : ¬ r1 < 0 := by omega
  have mPv0 : w2.cell? ⟨w.heap.size, 0, none⟩ = some (.string nm) := (unhide K).2.1.c 0 (by simp)
  have mPv1 : w2.cell? ⟨w.heap.size, 1, none⟩ = some (.int .i64 ho) := (unhide K).2.1.c 1 (by simp)
  have mPv2 : w2.cell? ⟨w.heap.size, 2, none⟩ = some (.int .i64 cy) := (unhide K).2.1.c 2 (by simp)
  have mPv3 : w2.cell? ⟨w.heap.size, 3, none⟩ = some (.int .i64 dy) := (unhide K).2.1.c 3 (by simp)
  have mPv4 : w2.cell? ⟨w.heap.size, 4, none⟩ = some (.int .i64 dh) := (unhide K).2.1.c 4 (by simp)
  have mPv5 : w2.cell? ⟨w.heap.size, 5, none⟩ = some (.int .i64 dc) := (unhide K).2.1.c 5 (by simp)
  have mPv6 : w2.cell? ⟨w.heap.size, 6, none⟩ = some (.int .i64 dd) := (unhide K).2.1.c 6 (by simp)
  have mPu0 : w2.cell? ⟨w.heap.size + 1, 0, none⟩ = some (.int .i64 nh) := (unhide K).2.2.c 0 (by simp)
  have mPu1 : w2.cell? ⟨w.heap.size + 1, 1, none⟩ = some (.int .i64 nc) := (unhide K).2.2.c 1 (by simp)
  have mPu2 : w2.cell? ⟨w.heap.size + 1, 2, none⟩ = some (.int .i64 nd) := (unhide K).2.2.c 2 (by simp)
  go_wp2_with fail
  clear mPv0 mPv1 mPv2 mPv3 mPv4 mPv5 mPv6 mPu0 mPu1 mPu2
  have HPv := hide (unhide K).2.1
  have HPu := hide (unhide K).2.2
  refine wp_region_flagsA (by kernel_rfl) (by kernel_rfl) (Due19Rspec0J w2 nm ho cy dy dh dc dd nh nc nd) ?_ ?_ ?_
  · exact Due19Rspec0J.mk (v0 := undef) (v1 := undef) (v2 := undef) (v3 := undef) (v4 := undef) (v5 := undef) (v6 := undef) (v7 := undef) (v8 := undef) (v9 := undef) (v10 := undef) (v12 := undef) ⟨(bel0d' 1 : Below w2.heap.size w2 (w2.drewN 1)), (fun h => by cases h), (fun h => by cases h), (fun h => by cases h), (fun h => by cases h), (fun h => by cases h), (fun h => by cases h), (fun h => by cases h), (fun h => by cases h), (fun h => by cases h), (fun h => by cases h), (fun h => by cases h), (fun h => by cases h), (fun h => by cases h), (fun h => by cases h), (fun h => by cases h), (fun h => by cases h), (fun h => by cases h)⟩ (by kernel_rfl)
  rotate_left 1
  · rintro l a V i o ho hl hd ⟨v0, v1, v2, v3, v4, v5, v6, v7, v8, v9, v10, v12, rfl, K⟩
    have hi : i < 13 := (Array.getElem?_eq_some_iff.1 ho).1
    rcases (show i = 0 ∨ i = 1 ∨ i = 2 ∨ i = 3 ∨ i = 4 ∨ i = 5 ∨ i = 6 ∨ i = 7 ∨ i = 8 ∨ i = 9 ∨ i = 10 ∨ i = 11 ∨ i = 12 from by omega) with rfl | rfl | rfl | rfl | rfl | rfl | rfl | rfl | rfl | rfl | rfl | rfl | rfl
    · simp at ho
      subst ho
      have cb := (unhide HPv).below K.bel
      have yy0 : V.cell? ⟨w.heap.size, 0, none⟩ = some (.string nm) := cb.c 0 (by simp)
      have yy1 : V.cell? ⟨w.heap.size, 1, none⟩ = some (.int .i64 ho) := cb.c 1 (by simp)
      have yy2 : V.cell? ⟨w.heap.size, 2, none⟩ = some (.int .i64 cy) := cb.c 2 (by simp)
      have yy3 : V.cell? ⟨w.heap.size, 3, none⟩ = some (.int .i64 dy) := cb.c 3 (by simp)
      have yy4 : V.cell? ⟨w.heap.size, 4, none⟩ = some (.int .i64 dh) := cb.c 4 (by simp)
      have yy5 : V.cell? ⟨w.heap.size, 5, none⟩ = some (.int .i64 dc) := cb.c 5 (by simp)
      have yy6 : V.cell? ⟨w.heap.size, 6, none⟩ = some (.int .i64 dd) := cb.c 6 (by simp)
      have HK : Hid (Due19Rspec0 w2 nm ho cy dy dh dc dd nh nc nd true (l 1) (l 2) (l 3) (l 4) (l 5) (l 6) (l 7) (l 8) (l 9) (l 10) (l 11) (l 12) (.agg #[.string nm, .int .i64 ho, .int .i64 cy, .int .i64 dy, .int .i64 dh, .int .i64 dc, .int .i64 dd]) v1 v2 v3 v4 v5 v6 v7 v8 v9 v10 v12 V) := hide ⟨(K.bel), (fun _ => rfl), (K.e1), (K.e2), (K.e3), (K.e4), (K.e5), (K.c5), (K.e6), (K.c6), (K.e7), (K.c7), (K.e8), (K.c8), (K.e9), (K.e10), (K.n11), (K.e12)⟩
      clear K hd hl cb
      go_wp2_with fail
      exact ⟨rfl, Due19Rspec0J.mk (unhide HK) (by kernel_rfl)⟩
    · simp at ho
      subst ho
      have d0 : l 0 = true := hd ⟨0, .data⟩ (by simp) rfl
      have x0 := K.e0 d0
      subst x0
      have HK0 := hide K
      clear K hd hl
      go_wp2_with (go_at_call 13; refine (toTask_any _ _ _ _ _ _ _ _).mono ?_; rintro e V2 ⟨rfl, b2⟩; have K := (unhide HK0).below b2; have HK : Hid (Due19Rspec0 w2 nm ho cy dy dh dc dd nh nc nd (l 0) true (l 2) (l 3) (l 4) (l 5) (l 6) (l 7) (l 8) (l 9) (l 10) (l 11) (l 12) (.agg #[.string nm, .int .i64 ho, .int .i64 cy, .int .i64 dy, .int .i64 dh, .int .i64 dc, .int .i64 dd]) (.agg #[.string nm, .int .i64 ho, .int .i64 cy, .int .i64 dy, .int .i64 dh, .int .i64 dc, .int .i64 dd]) v2 v3 v4 v5 v6 v7 v8 v9 v10 v12 V2) := hide ⟨(K.bel), (K.e0), (fun _ => rfl), (K.e2), (K.e3), (K.e4), (K.e5), (K.c5), (K.e6), (K.c6), (K.e7), (K.c7), (K.e8), (K.c8), (K.e9), (K.e10), (K.n11), (K.e12)⟩; clear K b2)
      exact ⟨rfl, Due19Rspec0J.mk (unhide HK) (by kernel_rfl)⟩
    · simp at ho
      subst ho
      have cb := (unhide HPu).below K.bel
      have yy0 : V.cell? ⟨w.heap.size + 1, 0, none⟩ = some (.int .i64 nh) := cb.c 0 (by simp)
      have yy1 : V.cell? ⟨w.heap.size + 1, 1, none⟩ = some (.int .i64 nc) := cb.c 1 (by simp)
      have yy2 : V.cell? ⟨w.heap.size + 1, 2, none⟩ = some (.int .i64 nd) := cb.c 2 (by simp)
      have HK : Hid (Due19Rspec0 w2 nm ho cy dy dh dc dd nh nc nd (l 0) (l 1) true (l 3) (l 4) (l 5) (l 6) (l 7) (l 8) (l 9) (l 10) (l 11) (l 12) v0 v1 (.agg #[.int .i64 nh, .int .i64 nc, .int .i64 nd]) v3 v4 v5 v6 v7 v8 v9 v10 v12 V) := hide ⟨(K.bel), (K.e0), (K.e1), (fun _ => rfl), (K.e3), (K.e4), (K.e5), (K.c5), (K.e6), (K.c6), (K.e7), (K.c7), (K.e8), (K.c8), (K.e9), (K.e10), (K.n11), (K.e12)⟩
      clear K hd hl cb
      go_wp2_with fail
      exact ⟨rfl, Due19Rspec0J.mk (unhide HK) (by kernel_rfl)⟩
    · simp at ho
      subst ho
      have d2 : l 2 = true := hd ⟨2, .data⟩ (by simp) rfl
      have x2 := K.e2 d2
      subst x2
      have HK0 := hide K
      clear K hd hl
      go_wp2_with (go_at_call 9; refine (toClock_any _ _ _ _).mono ?_; rintro e V2 ⟨rfl, b2⟩; have K := (unhide HK0).below b2; have HK : Hid (Due19Rspec0 w2 nm ho cy dy dh dc dd nh nc nd (l 0) (l 1) (l 2) true (l 4) (l 5) (l 6) (l 7) (l 8) (l 9) (l 10) (l 11) (l 12) v0 v1 (.agg #[.int .i64 nh, .int .i64 nc, .int .i64 nd]) (.agg #[.int .i64 nh, .int .i64 nc, .int .i64 nd]) v4 v5 v6 v7 v8 v9 v10 v12 V2) := hide ⟨(K.bel), (K.e0), (K.e1), (K.e2), (fun _ => rfl), (K.e4), (K.e5), (K.c5), (K.e6), (K.c6), (K.e7), (K.c7), (K.e8), (K.c8), (K.e9), (K.e10), (K.n11), (K.e12)⟩; clear K b2)
      exact ⟨rfl, Due19Rspec0J.mk (unhide HK) (by kernel_rfl)⟩
    · simp at ho
      subst ho
      have d1 : l 1 = true := hd ⟨1, .data⟩ (by simp) rfl
      have x1 := K.e1 d1
      subst x1
      have d3 : l 3 = true := hd ⟨3, .data⟩ (by simp) rfl
      have x3 := K.e3 d3
      subst x3
      have HK0 := hide K
      clear K hd hl
      go_wp2_with (go_at_call 15; refine (specDue19_any _ _ _ _ _ _ _ _ _ _ _  txv0).mono ?_; rintro e V2 ⟨rfl, b2⟩; have K := (unhide HK0).below b2; have HK : Hid (Due19Rspec0 w2 nm ho cy dy dh dc dd nh nc nd (l 0) (l 1) (l 2) (l 3) true (l 5) (l 6) (l 7) (l 8) (l 9) (l 10) (l 11) (l 12) v0 (.agg #[.string nm, .int .i64 ho, .int .i64 cy, .int .i64 dy, .int .i64 dh, .int .i64 dc, .int .i64 dd]) v2 (.agg #[.int .i64 nh, .int .i64 nc, .int .i64 nd]) (.tuple #[.bool (d9D ⟨nm, ho, cy, dy, dh, dc, dd⟩ nh nc nd), .agg #[.int .i64 (d9H ⟨nm, ho, cy, dy, dh, dc, dd⟩ nh nc nd), .int .i64 (d9C ⟨nm, ho, cy, dy, dh, dc, dd⟩ nh nc nd), .int .i64 (d9E ⟨nm, ho, cy, dy, dh, dc, dd⟩ nh nc nd)], .bool (d9B ⟨nm, ho, cy, dy, dh, dc, dd⟩ nh nc nd)]) v5 v6 v7 v8 v9 v10 v12 V2) := hide ⟨(K.bel), (K.e0), (K.e1), (K.e2), (K.e3), (fun _ => rfl), (K.e5), (fun _ => rfl), (K.e6), (fun _ => rfl), (K.e7), (fun _ => rfl), (K.e8), (fun _ => rfl), (K.e9), (K.e10), (K.n11), (K.e12)⟩; clear K b2)
      exact ⟨rfl, Due19Rspec0J.mk (unhide HK) (by kernel_rfl)⟩
    · simp at ho
      subst ho
      have d4 : l 4 = true := hd ⟨4, .data⟩ (by simp) rfl
      have x4 := K.e4 d4
      subst x4
      have HK : Hid (Due19Rspec0 w2 nm ho cy dy dh dc dd nh nc nd (l 0) (l 1) (l 2) (l 3) (l 4) true (l 6) (l 7) (l 8) (l 9) (l 10) (l 11) (l 12) v0 v1 v2 v3 (.tuple #[.bool (d9D ⟨nm, ho, cy, dy, dh, dc, dd⟩ nh nc nd), .agg #[.int .i64 (d9H ⟨nm, ho, cy, dy, dh, dc, dd⟩ nh nc nd), .int .i64 (d9C ⟨nm, ho, cy, dy, dh, dc, dd⟩ nh nc nd), .int .i64 (d9E ⟨nm, ho, cy, dy, dh, dc, dd⟩ nh nc nd)], .bool (d9B ⟨nm, ho, cy, dy, dh, dc, dd⟩ nh nc nd)]) (.tuple #[.bool (d9D ⟨nm, ho, cy, dy, dh, dc, dd⟩ nh nc nd), .agg #[.int .i64 (d9H ⟨nm, ho, cy, dy, dh, dc, dd⟩ nh nc nd), .int .i64 (d9C ⟨nm, ho, cy, dy, dh, dc, dd⟩ nh nc nd), .int .i64 (d9E ⟨nm, ho, cy, dy, dh, dc, dd⟩ nh nc nd)], .bool (d9B ⟨nm, ho, cy, dy, dh, dc, dd⟩ nh nc nd)]) v6 v7 v8 v9 v10 v12 V) := hide ⟨(K.bel), (K.e0), (K.e1), (K.e2), (K.e3), (K.e4), (fun _ => rfl), (fun _ => d4), (K.e6), (K.c6), (K.e7), (K.c7), (K.e8), (K.c8), (K.e9), (K.e10), (K.n11), (K.e12)⟩
      clear K hd hl
      go_wp2_with fail
      exact ⟨rfl, Due19Rspec0J.mk (unhide HK) (by kernel_rfl)⟩
    · simp at ho
      subst ho
      have d5 : l 5 = true := hd ⟨5, .data⟩ (by simp) rfl
      have x5 := K.e5 d5
      subst x5
      have HK : Hid (Due19Rspec0 w2 nm ho cy dy dh dc dd nh nc nd (l 0) (l 1) (l 2) (l 3) (l 4) (l 5) true (l 7) (l 8) (l 9) (l 10) (l 11) (l 12) v0 v1 v2 v3 v4 (.tuple #[.bool (d9D ⟨nm, ho, cy, dy, dh, dc, dd⟩ nh nc nd), .agg #[.int .i64 (d9H ⟨nm, ho, cy, dy, dh, dc, dd⟩ nh nc nd), .int .i64 (d9C ⟨nm, ho, cy, dy, dh, dc, dd⟩ nh nc nd), .int .i64 (d9E ⟨nm, ho, cy, dy, dh, dc, dd⟩ nh nc nd)], .bool (d9B ⟨nm, ho, cy, dy, dh, dc, dd⟩ nh nc nd)]) (.bool (d9D ⟨nm, ho, cy, dy, dh, dc, dd⟩ nh nc nd)) v7 v8 v9 v10 v12 V) := hide ⟨(K.bel), (K.e0), (K.e1), (K.e2), (K.e3), (K.e4), (K.e5), (K.c5), (fun _ => rfl), (fun _ => K.c5 d5), (K.e7), (K.c7), (K.e8), (K.c8), (K.e9), (K.e10), (K.n11), (K.e12)⟩
      clear K hd hl
      go_wp2_with fail
      exact ⟨rfl, Due19Rspec0J.mk (unhide HK) (by kernel_rfl)⟩
    · simp at ho
      subst ho
      have d5 : l 5 = true := hd ⟨5, .data⟩ (by simp) rfl
      have x5 := K.e5 d5
      subst x5
      have HK : Hid (Due19Rspec0 w2 nm ho cy dy dh dc dd nh nc nd (l 0) (l 1) (l 2) (l 3) (l 4) (l 5) (l 6) true (l 8) (l 9) (l 10) (l 11) (l 12) v0 v1 v2 v3 v4 (.tuple #[.bool (d9D ⟨nm, ho, cy, dy, dh, dc, dd⟩ nh nc nd), .agg #[.int .i64 (d9H ⟨nm, ho, cy, dy, dh, dc, dd⟩ nh nc nd), .int .i64 (d9C ⟨nm, ho, cy, dy, dh, dc, dd⟩ nh nc nd), .int .i64 (d9E ⟨nm, ho, cy, dy, dh, dc, dd⟩ nh nc nd)], .bool (d9B ⟨nm, ho, cy, dy, dh, dc, dd⟩ nh nc nd)]) v6 (.agg #[.int .i64 (d9H ⟨nm, ho, cy, dy, dh, dc, dd⟩ nh nc nd), .int .i64 (d9C ⟨nm, ho, cy, dy, dh, dc, dd⟩ nh nc nd), .int .i64 (d9E ⟨nm, ho, cy, dy, dh, dc, dd⟩ nh nc nd)]) v8 v9 v10 v12 V) := hide ⟨(K.bel), (K.e0), (K.e1), (K.e2), (K.e3), (K.e4), (K.e5), (K.c5), (K.e6), (K.c6), (fun _ => rfl), (fun _ => K.c5 d5), (K.e8), (K.c8), (K.e9), (K.e10), (K.n11), (K.e12)⟩
      clear K hd hl
      go_wp2_with fail
      exact ⟨rfl, Due19Rspec0J.mk (unhide HK) (by kernel_rfl)⟩
    · simp at ho
      subst ho
      have d5 : l 5 = true := hd ⟨5, .data⟩ (by simp) rfl
      have x5 := K.e5 d5
      subst x5
      have HK : Hid (Due19Rspec0 w2 nm ho cy dy dh dc dd nh nc nd (l 0) (l 1) (l 2) (l 3) (l 4) (l 5) (l 6) (l 7) true (l 9) (l 10) (l 11) (l 12) v0 v1 v2 v3 v4 (.tuple #[.bool (d9D ⟨nm, ho, cy, dy, dh, dc, dd⟩ nh nc nd), .agg #[.int .i64 (d9H ⟨nm, ho, cy, dy, dh, dc, dd⟩ nh nc nd), .int .i64 (d9C ⟨nm, ho, cy, dy, dh, dc, dd⟩ nh nc nd), .int .i64 (d9E ⟨nm, ho, cy, dy, dh, dc, dd⟩ nh nc nd)], .bool (d9B ⟨nm, ho, cy, dy, dh, dc, dd⟩ nh nc nd)]) v6 v7 (.bool (d9B ⟨nm, ho, cy, dy, dh, dc, dd⟩ nh nc nd)) v9 v10 v12 V) := hide ⟨(K.bel), (K.e0), (K.e1), (K.e2), (K.e3), (K.e4), (K.e5), (K.c5), (K.e6), (K.c6), (K.e7), (K.c7), (fun _ => rfl), (fun _ => K.c5 d5), (K.e9), (K.e10), (K.n11), (K.e12)⟩
      clear K hd hl
      go_wp2_with fail
      exact ⟨rfl, Due19Rspec0J.mk (unhide HK) (by kernel_rfl)⟩
    · simp at ho
      subst ho
      have nz : l 11 = false := by cases c : l 11; rfl; have := K.n11 c; rw [hl] at this; cases this
      have K2 := K.below (bel1 (Obj.cells #[.int .i64 0, .int .i64 0, .int .i64 0] 25))
      have HK : Hid (Due19Rspec0 w2 nm ho cy dy dh dc dd nh nc nd (l 0) (l 1) (l 2) (l 3) (l 4) (l 5) (l 6) (l 7) (l 8) true (l 10) (l 11) (l 12) v0 v1 v2 v3 v4 v5 v6 v7 v8 (.pointer (some ⟨V.heap.size, 0, none⟩)) v10 v12 (V.alloc (Obj.cells #[.int .i64 0, .int .i64 0, .int .i64 0] 25))) := hide ⟨(K2.bel), (K2.e0), (K2.e1), (K2.e2), (K2.e3), (K2.e4), (K2.e5), (K2.c5), (K2.e6), (K2.c6), (K2.e7), (K2.c7), (K2.e8), (K2.c8), (fun _ => ⟨_, rfl, K.bel.size, by rw [nz]; exact Blk.new _ _⟩), (K2.e10), (fun h => by cases nz.symm.trans h), (K2.e12)⟩
      clear K K2 hd hl nz
      go_wp2_with fail
      exact ⟨rfl, Due19Rspec0J.mk (unhide HK) (by kernel_rfl)⟩
    · simp at ho
      subst ho
      have d6 : l 6 = true := hd ⟨6, .data⟩ (by simp) rfl
      have x6 := K.e6 d6
      subst x6
      have HK : Hid (Due19Rspec0 w2 nm ho cy dy dh dc dd nh nc nd (l 0) (l 1) (l 2) (l 3) (l 4) (l 5) (l 6) (l 7) (l 8) (l 9) true (l 11) (l 12) v0 v1 v2 v3 v4 v5 (.bool (d9D ⟨nm, ho, cy, dy, dh, dc, dd⟩ nh nc nd)) v7 v8 v9 (.bool (d9D ⟨nm, ho, cy, dy, dh, dc, dd⟩ nh nc nd)) v12 V) := hide ⟨(K.bel), (K.e0), (K.e1), (K.e2), (K.e3), (K.e4), (K.e5), (K.c5), (K.e6), (K.c6), (K.e7), (K.c7), (K.e8), (K.c8), (K.e9), (fun _ => rfl), (K.n11), (K.e12)⟩
      clear K hd hl
      go_wp2_with fail
      exact ⟨rfl, Due19Rspec0J.mk (unhide HK) (by kernel_rfl)⟩
    · simp at ho
      subst ho
      have d9 : l 9 = true := hd ⟨9, .data⟩ (by simp) rfl
      have d7 : l 7 = true := hd ⟨7, .data⟩ (by simp) rfl
      have x7 := K.e7 d7
      subst x7
      obtain ⟨P, x1, x2, x3⟩ := K.e9 d9
      rw [hl] at x3
      have yy0 : V.cell? ⟨P, 0, none⟩ = some (.int .i64 0) := x3.c 0 (by simp)
      have ff0 := x3.f 0 (by simp)
      have yy1 : V.cell? ⟨P, 1, none⟩ = some (.int .i64 0) := x3.c 1 (by simp)
      have ff1 := x3.f 1 (by simp)
      have yy2 : V.cell? ⟨P, 2, none⟩ = some (.int .i64 0) := x3.c 2 (by simp)
      have ff2 := x3.f 2 (by simp)
      skip
      have HK : Hid (Due19Rspec0 w2 nm ho cy dy dh dc dd nh nc nd (l 0) (l 1) (l 2) (l 3) (l 4) (l 5) (l 6) (l 7) (l 8) (l 9) (l 10) true (l 12) v0 v1 v2 v3 v4 v5 v6 (.agg #[.int .i64 (d9H ⟨nm, ho, cy, dy, dh, dc, dd⟩ nh nc nd), .int .i64 (d9C ⟨nm, ho, cy, dy, dh, dc, dd⟩ nh nc nd), .int .i64 (d9E ⟨nm, ho, cy, dy, dh, dc, dd⟩ nh nc nd)]) v8 v9 v10 v12 (((V.setCell ⟨P, 0, none⟩ (.int .i64 (d9H ⟨nm, ho, cy, dy, dh, dc, dd⟩ nh nc nd))).setCell ⟨P, 1, none⟩ (.int .i64 (d9C ⟨nm, ho, cy, dy, dh, dc, dd⟩ nh nc nd))).setCell ⟨P, 2, none⟩ (.int .i64 (d9E ⟨nm, ho, cy, dy, dh, dc, dd⟩ nh nc nd)))) := hide ⟨((((K.bel.setCell x2 _).setCell x2 _).setCell x2 _)), (K.e0), (K.e1), (K.e2), (K.e3), (K.e4), (K.e5), (K.c5), (K.e6), (K.c6), (K.e7), (K.c7), (K.e8), (K.c8), (fun _ => ⟨P, x1, x2, (((x3.set 0 (by simp) _).set 1 (by simp) _).set 2 (by simp) _)⟩), (K.e10), (fun _ => d9), (K.e12)⟩
      clear K hd hl x3
      subst x1
      go_wp2_with fail
      exact ⟨rfl, Due19Rspec0J.mk (unhide HK) (by kernel_rfl)⟩
    · simp at ho
      subst ho
      have d8 : l 8 = true := hd ⟨8, .data⟩ (by simp) rfl
      have x8 := K.e8 d8
      subst x8
      have HK : Hid (Due19Rspec0 w2 nm ho cy dy dh dc dd nh nc nd (l 0) (l 1) (l 2) (l 3) (l 4) (l 5) (l 6) (l 7) (l 8) (l 9) (l 10) (l 11) true v0 v1 v2 v3 v4 v5 v6 v7 (.bool (d9B ⟨nm, ho, cy, dy, dh, dc, dd⟩ nh nc nd)) v9 v10 (.bool (d9B ⟨nm, ho, cy, dy, dh, dc, dd⟩ nh nc nd)) V) := hide ⟨(K.bel), (K.e0), (K.e1), (K.e2), (K.e3), (K.e4), (K.e5), (K.c5), (K.e6), (K.c6), (K.e7), (K.c7), (K.e8), (K.c8), (K.e9), (K.e10), (K.n11), (fun _ => rfl)⟩
      clear K hd hl
      go_wp2_with fail
      exact ⟨rfl, Due19Rspec0J.mk (unhide HK) (by kernel_rfl)⟩
  rintro l a w3 hall ⟨v0, v1, v2, v3, v4, v5, v6, v7, v8, v9, v10, v12, rfl, K⟩
  have b := K.bel
  have x10 := K.e10 (hall 10 (by decide))
  subst x10
  obtain ⟨X2, x1, x2, x3⟩ := K.e9 (hall 9 (by decide))
  rw [hall 11 (by decide)] at x3
  subst x1
  have hSX2 := x3.lt
  have JX2 := hide x3
  have IX2 := hide x2
  clear x3 x2
  have x12 := K.e12 (hall 12 (by decide))
  subst x12
  clear K hall
  have S2 : Hid (w2.heap.size ≤ w3.heap.size) := hide b.size
  have K : Hid (Below w.heap.size w w3 ∧ Blk w3 w.heap.size [.string nm, .int .i64 ho, .int .i64 cy, .int .i64 dy, .int .i64 dh, .int .i64 dc, .int .i64 dd] ∧ Blk w3 (w.heap.size + 1) [.int .i64 nh, .int .i64 nc, .int .i64 nd]) := hide ((unhide KEPT) _ _ (unhide K) b)
  clear b
  have S3 : Hid (w2.heap.size ≤ X2) := hide (unhide IX2)
  have S4 : Hid (X2 + 1 ≤ w3.heap.size) := hide (by have := hSX2; omega)
  have K : Hid (Below w.heap.size w w3 ∧ Blk w3 w.heap.size [.string nm, .int .i64 ho, .int .i64 cy, .int .i64 dy, .int .i64 dh, .int .i64 dc, .int .i64 dd] ∧ Blk w3 (w.heap.size + 1) [.int .i64 nh, .int .i64 nc, .int .i64 nd] ∧ Blk w3 X2 [.int .i64 (d9H ⟨nm, ho, cy, dy, dh, dc, dd⟩ nh nc nd), .int .i64 (d9C ⟨nm, ho, cy, dy, dh, dc, dd⟩ nh nc nd), .int .i64 (d9E ⟨nm, ho, cy, dy, dh, dc, dd⟩ nh nc nd)]) := hide ⟨(unhide K).1, (unhide K).2.1, (unhide K).2.2, (unhide JX2)⟩
  clear KEPT JX2 hSX2
  have KEPT : Hid (∀ W u3, (Below w.heap.size w W ∧ Blk W w.heap.size [.string nm, .int .i64 ho, .int .i64 cy, .int .i64 dy, .int .i64 dh, .int .i64 dc, .int .i64 dd] ∧ Blk W (w.heap.size + 1) [.int .i64 nh, .int .i64 nc, .int .i64 nd] ∧ Blk W X2 [.int .i64 (d9H ⟨nm, ho, cy, dy, dh, dc, dd⟩ nh nc nd), .int .i64 (d9C ⟨nm, ho, cy, dy, dh, dc, dd⟩ nh nc nd), .int .i64 (d9E ⟨nm, ho, cy, dy, dh, dc, dd⟩ nh nc nd)]) → Below W.heap.size W u3 → (Below w.heap.size w u3 ∧ Blk u3 w.heap.size [.string nm, .int .i64 ho, .int .i64 cy, .int .i64 dy, .int .i64 dh, .int .i64 dc, .int .i64 dd] ∧ Blk u3 (w.heap.size + 1) [.int .i64 nh, .int .i64 nc, .int .i64 nd] ∧ Blk u3 X2 [.int .i64 (d9H ⟨nm, ho, cy, dy, dh, dc, dd⟩ nh nc nd), .int .i64 (d9C ⟨nm, ho, cy, dy, dh, dc, dd⟩ nh nc nd), .int .i64 (d9E ⟨nm, ho, cy, dy, dh, dc, dd⟩ nh nc nd)])) := hide (fun W u3 h b => ⟨h.1.trans (b.mono h.1.size), h.2.1.below b, h.2.2.1.below b, h.2.2.2.below b⟩)
  have mPv0 : w3.cell? ⟨w.heap.size, 0, none⟩ = some (.string nm) := (unhide K).2.1.c 0 (by simp)
  have mPv1 : w3.cell? ⟨w.heap.size, 1, none⟩ = some (.int .i64 ho) := (unhide K).2.1.c 1 (by simp)
  have mPv2 : w3.cell? ⟨w.heap.size, 2, none⟩ = some (.int .i64 cy) := (unhide K).2.1.c 2 (by simp)
  have mPv3 : w3.cell? ⟨w.heap.size, 3, none⟩ = some (.int .i64 dy) := (unhide K).2.1.c 3 (by simp)
  have mPv4 : w3.cell? ⟨w.heap.size, 4, none⟩ = some (.int .i64 dh) := (unhide K).2.1.c 4 (by simp)
  have mPv5 : w3.cell? ⟨w.heap.size, 5, none⟩ = some (.int .i64 dc) := (unhide K).2.1.c 5 (by simp)
  have mPv6 : w3.cell? ⟨w.heap.size, 6, none⟩ = some (.int .i64 dd) := (unhide K).2.1.c 6 (by simp)
  have mPu0 : w3.cell? ⟨w.heap.size + 1, 0, none⟩ = some (.int .i64 nh) := (unhide K).2.2.1.c 0 (by simp)
  have mPu1 : w3.cell? ⟨w.heap.size + 1, 1, none⟩ = some (.int .i64 nc) := (unhide K).2.2.1.c 1 (by simp)
  have mPu2 : w3.cell? ⟨w.heap.size + 1, 2, none⟩ = some (.int .i64 nd) := (unhide K).2.2.1.c 2 (by simp)
  have mQWp10 : w3.cell? ⟨X2, 0, none⟩ = some (.int .i64 (d9H ⟨nm, ho, cy, dy, dh, dc, dd⟩ nh nc nd)) := (unhide K).2.2.2.c 0 (by simp)
  have mQWp11 : w3.cell? ⟨X2, 1, none⟩ = some (.int .i64 (d9C ⟨nm, ho, cy, dy, dh, dc, dd⟩ nh nc nd)) := (unhide K).2.2.2.c 1 (by simp)
  have mQWp12 : w3.cell? ⟨X2, 2, none⟩ = some (.int .i64 (d9E ⟨nm, ho, cy, dy, dh, dc, dd⟩ nh nc nd)) := (unhide K).2.2.2.c 2 (by simp)
  go_wp2_with fail
  clear mPv0 mPv1 mPv2 mPv3 mPv4 mPv5 mPv6 mPu0 mPu1 mPu2 mQWp10 mQWp11 mQWp12
  have HPv := hide (unhide K).2.1
  have HPu := hide (unhide K).2.2.1
  refine wp_region_flagsA (by kernel_rfl) (by kernel_rfl) (Due19Rimpl1J w3 nm ho cy dy dh dc dd nh nc nd) ?_ ?_ ?_
  · exact Due19Rimpl1J.mk (v0 := undef) (v1 := undef) (v2 := undef) (v3 := undef) (v4 := undef) (v5 := undef) (v6 := undef) (v7 := undef) (v8 := undef) (v9 := undef) (v10 := undef) (v12 := undef) ⟨(bel0d' 1 : Below w3.heap.size w3 (w3.drewN 1)), (fun h => by cases h), (fun h => by cases h), (fun h => by cases h), (fun h => by cases h), (fun h => by cases h), (fun h => by cases h), (fun h => by cases h), (fun h => by cases h), (fun h => by cases h), (fun h => by cases h), (fun h => by cases h), (fun h => by cases h), (fun h => by cases h), (fun h => by cases h), (fun h => by cases h), (fun h => by cases h), (fun h => by cases h)⟩ (by kernel_rfl)
  rotate_left 1
  · rintro l a V i o ho hl hd ⟨v0, v1, v2, v3, v4, v5, v6, v7, v8, v9, v10, v12, rfl, K⟩
    have hi : i < 13 := (Array.getElem?_eq_some_iff.1 ho).1
    rcases (show i = 0 ∨ i = 1 ∨ i = 2 ∨ i = 3 ∨ i = 4 ∨ i = 5 ∨ i = 6 ∨ i = 7 ∨ i = 8 ∨ i = 9 ∨ i = 10 ∨ i = 11 ∨ i = 12 from by omega) with rfl | rfl | rfl | rfl | rfl | rfl | rfl | rfl | rfl | rfl | rfl | rfl | rfl
    · simp at ho
      subst ho
      have cb := (unhide HPv).below K.bel
      have yy0 : V.cell? ⟨w.heap.size, 0, none⟩ = some (.string nm) := cb.c 0 (by simp)
      have yy1 : V.cell? ⟨w.heap.size, 1, none⟩ = some (.int .i64 ho) := cb.c 1 (by simp)
      have yy2 : V.cell? ⟨w.heap.size, 2, none⟩ = some (.int .i64 cy) := cb.c 2 (by simp)
      have yy3 : V.cell? ⟨w.heap.size, 3, none⟩ = some (.int .i64 dy) := cb.c 3 (by simp)
      have yy4 : V.cell? ⟨w.heap.size, 4, none⟩ = some (.int .i64 dh) := cb.c 4 (by simp)
      have yy5 : V.cell? ⟨w.heap.size, 5, none⟩ = some (.int .i64 dc) := cb.c 5 (by simp)
      have yy6 : V.cell? ⟨w.heap.size, 6, none⟩ = some (.int .i64 dd) := cb.c 6 (by simp)
      have HK : Hid (Due19Rimpl1 w3 nm ho cy dy dh dc dd nh nc nd true (l 1) (l 2) (l 3) (l 4) (l 5) (l 6) (l 7) (l 8) (l 9) (l 10) (l 11) (l 12) (.agg #[.string nm, .int .i64 ho, .int .i64 cy, .int .i64 dy, .int .i64 dh, .int .i64 dc, .int .i64 dd]) v1 v2 v3 v4 v5 v6 v7 v8 v9 v10 v12 V) := hide ⟨(K.bel), (fun _ => rfl), (K.e1), (K.e2), (K.e3), (K.e4), (K.e5), (K.c5), (K.e6), (K.c6), (K.e7), (K.c7), (K.e8), (K.c8), (K.e9), (K.e10), (K.n11), (K.e12)⟩
      clear K hd hl cb
      go_wp2_with fail
      exact ⟨rfl, Due19Rimpl1J.mk (unhide HK) (by kernel_rfl)⟩
    · simp at ho
      subst ho
      have d0 : l 0 = true := hd ⟨0, .data⟩ (by simp) rfl
      have x0 := K.e0 d0
      subst x0
      have HK0 := hide K
      clear K hd hl
      go_wp2_with (go_at_call 13; refine (toTask_any _ _ _ _ _ _ _ _).mono ?_; rintro e V2 ⟨rfl, b2⟩; have K := (unhide HK0).below b2; have HK : Hid (Due19Rimpl1 w3 nm ho cy dy dh dc dd nh nc nd (l 0) true (l 2) (l 3) (l 4) (l 5) (l 6) (l 7) (l 8) (l 9) (l 10) (l 11) (l 12) (.agg #[.string nm, .int .i64 ho, .int .i64 cy, .int .i64 dy, .int .i64 dh, .int .i64 dc, .int .i64 dd]) (.agg #[.string nm, .int .i64 ho, .int .i64 cy, .int .i64 dy, .int .i64 dh, .int .i64 dc, .int .i64 dd]) v2 v3 v4 v5 v6 v7 v8 v9 v10 v12 V2) := hide ⟨(K.bel), (K.e0), (fun _ => rfl), (K.e2), (K.e3), (K.e4), (K.e5), (K.c5), (K.e6), (K.c6), (K.e7), (K.c7), (K.e8), (K.c8), (K.e9), (K.e10), (K.n11), (K.e12)⟩; clear K b2)
      exact ⟨rfl, Due19Rimpl1J.mk (unhide HK) (by kernel_rfl)⟩
    · simp at ho
      subst ho
      have cb := (unhide HPu).below K.bel
      have yy0 : V.cell? ⟨w.heap.size + 1, 0, none⟩ = some (.int .i64 nh) := cb.c 0 (by simp)
      have yy1 : V.cell? ⟨w.heap.size + 1, 1, none⟩ = some (.int .i64 nc) := cb.c 1 (by simp)
      have yy2 : V.cell? ⟨w.heap.size + 1, 2, none⟩ = some (.int .i64 nd) := cb.c 2 (by simp)
      have HK : Hid (Due19Rimpl1 w3 nm ho cy dy dh dc dd nh nc nd (l 0) (l 1) true (l 3) (l 4) (l 5) (l 6) (l 7) (l 8) (l 9) (l 10) (l 11) (l 12) v0 v1 (.agg #[.int .i64 nh, .int .i64 nc, .int .i64 nd]) v3 v4 v5 v6 v7 v8 v9 v10 v12 V) := hide ⟨(K.bel), (K.e0), (K.e1), (fun _ => rfl), (K.e3), (K.e4), (K.e5), (K.c5), (K.e6), (K.c6), (K.e7), (K.c7), (K.e8), (K.c8), (K.e9), (K.e10), (K.n11), (K.e12)⟩
      clear K hd hl cb
      go_wp2_with fail
      exact ⟨rfl, Due19Rimpl1J.mk (unhide HK) (by kernel_rfl)⟩
    · simp at ho
      subst ho
      have d2 : l 2 = true := hd ⟨2, .data⟩ (by simp) rfl
      have x2 := K.e2 d2
      subst x2
      have HK0 := hide K
      clear K hd hl
      go_wp2_with (go_at_call 9; refine (toClock_any _ _ _ _).mono ?_; rintro e V2 ⟨rfl, b2⟩; have K := (unhide HK0).below b2; have HK : Hid (Due19Rimpl1 w3 nm ho cy dy dh dc dd nh nc nd (l 0) (l 1) (l 2) true (l 4) (l 5) (l 6) (l 7) (l 8) (l 9) (l 10) (l 11) (l 12) v0 v1 (.agg #[.int .i64 nh, .int .i64 nc, .int .i64 nd]) (.agg #[.int .i64 nh, .int .i64 nc, .int .i64 nd]) v4 v5 v6 v7 v8 v9 v10 v12 V2) := hide ⟨(K.bel), (K.e0), (K.e1), (K.e2), (fun _ => rfl), (K.e4), (K.e5), (K.c5), (K.e6), (K.c6), (K.e7), (K.c7), (K.e8), (K.c8), (K.e9), (K.e10), (K.n11), (K.e12)⟩; clear K b2)
      exact ⟨rfl, Due19Rimpl1J.mk (unhide HK) (by kernel_rfl)⟩
    · simp at ho
      subst ho
      have d1 : l 1 = true := hd ⟨1, .data⟩ (by simp) rfl
      have x1 := K.e1 d1
      subst x1
      have d3 : l 3 = true := hd ⟨3, .data⟩ (by simp) rfl
      have x3 := K.e3 d3
      subst x3
      have HK0 := hide K
      clear K hd hl
      go_wp2_with (go_at_call 16; refine (implDue19_any _ _ _ _ _ _ _ _ _ _ _  txv0).mono ?_; rintro e V2 ⟨rfl, b2⟩; have K := (unhide HK0).below b2; have HK : Hid (Due19Rimpl1 w3 nm ho cy dy dh dc dd nh nc nd (l 0) (l 1) (l 2) (l 3) true (l 5) (l 6) (l 7) (l 8) (l 9) (l 10) (l 11) (l 12) v0 (.agg #[.string nm, .int .i64 ho, .int .i64 cy, .int .i64 dy, .int .i64 dh, .int .i64 dc, .int .i64 dd]) v2 (.agg #[.int .i64 nh, .int .i64 nc, .int .i64 nd]) (.tuple #[.bool (d9D ⟨nm, ho, cy, dy, dh, dc, dd⟩ nh nc nd), .agg #[.int .i64 (d9H ⟨nm, ho, cy, dy, dh, dc, dd⟩ nh nc nd), .int .i64 (d9C ⟨nm, ho, cy, dy, dh, dc, dd⟩ nh nc nd), .int .i64 (d9E ⟨nm, ho, cy, dy, dh, dc, dd⟩ nh nc nd)], .bool (d9B ⟨nm, ho, cy, dy, dh, dc, dd⟩ nh nc nd)]) v5 v6 v7 v8 v9 v10 v12 V2) := hide ⟨(K.bel), (K.e0), (K.e1), (K.e2), (K.e3), (fun _ => rfl), (K.e5), (fun _ => rfl), (K.e6), (fun _ => rfl), (K.e7), (fun _ => rfl), (K.e8), (fun _ => rfl), (K.e9), (K.e10), (K.n11), (K.e12)⟩; clear K b2)
      exact ⟨rfl, Due19Rimpl1J.mk (unhide HK) (by kernel_rfl)⟩
    · simp at ho
      subst ho
      have d4 : l 4 = true := hd ⟨4, .data⟩ (by simp) rfl
      have x4 := K.e4 d4
      subst x4
      have HK : Hid (Due19Rimpl1 w3 nm ho cy dy dh dc dd nh nc nd (l 0) (l 1) (l 2) (l 3) (l 4) true (l 6) (l 7) (l 8) (l 9) (l 10) (l 11) (l 12) v0 v1 v2 v3 (.tuple #[.bool (d9D ⟨nm, ho, cy, dy, dh, dc, dd⟩ nh nc nd), .agg #[.int .i64 (d9H ⟨nm, ho, cy, dy, dh, dc, dd⟩ nh nc nd), .int .i64 (d9C ⟨nm, ho, cy, dy, dh, dc, dd⟩ nh nc nd), .int .i64 (d9E ⟨nm, ho, cy, dy, dh, dc, dd⟩ nh nc nd)], .bool (d9B ⟨nm, ho, cy, dy, dh, dc, dd⟩ nh nc nd)]) (.tuple #[.bool (d9D ⟨nm, ho, cy, dy, dh, dc, dd⟩ nh nc nd), .agg #[.int .i64 (d9H ⟨nm, ho, cy, dy, dh, dc, dd⟩ nh nc nd), .int .i64 (d9C ⟨nm, ho, cy, dy, dh, dc, dd⟩ nh nc nd), .int .i64 (d9E ⟨nm, ho, cy, dy, dh, dc, dd⟩ nh nc nd)], .bool (d9B ⟨nm, ho, cy, dy, dh, dc, dd⟩ nh nc nd)]) v6 v7 v8 v9 v10 v12 V) := hide ⟨(K.bel), (K.e0), (K.e1), (K.e2), (K.e3), (K.e4), (fun _ => rfl), (fun _ => d4), (K.e6), (K.c6), (K.e7), (K.c7), (K.e8), (K.c8), (K.e9), (K.e10), (K.n11), (K.e12)⟩
      clear K hd hl
      go_wp2_with fail
      exact ⟨rfl, Due19Rimpl1J.mk (unhide HK) (by kernel_rfl)⟩
    · simp at ho
      subst ho
      have d5 : l 5 = true := hd ⟨5, .data⟩ (by simp) rfl
      have x5 := K.e5 d5
      subst x5
      have HK : Hid (Due19Rimpl1 w3 nm ho cy dy dh dc dd nh nc nd (l 0) (l 1) (l 2) (l 3) (l 4) (l 5) true (l 7) (l 8) (l 9) (l 10) (l 11) (l 12) v0 v1 v2 v3 v4 (.tuple #[.bool (d9D ⟨nm, ho, cy, dy, dh, dc, dd⟩ nh nc nd), .agg #[.int .i64 (d9H ⟨nm, ho, cy, dy, dh, dc, dd⟩ nh nc nd), .int .i64 (d9C ⟨nm, ho, cy, dy, dh, dc, dd⟩ nh nc nd), .int .i64 (d9E ⟨nm, ho, cy, dy, dh, dc, dd⟩ nh nc nd)], .bool (d9B ⟨nm, ho, cy, dy, dh, dc, dd⟩ nh nc nd)]) (.bool (d9D ⟨nm, ho, cy, dy, dh, dc, dd⟩ nh nc nd)) v7 v8 v9 v10 v12 V) := hide ⟨(K.bel), (K.e0), (K.e1), (K.e2), (K.e3), (K.e4), (K.e5), (K.c5), (fun _ => rfl), (fun _ => K.c5 d5), (K.e7), (K.c7), (K.e8), (K.c8), (K.e9), (K.e10), (K.n11), (K.e12)⟩
      clear K hd hl
      go_wp2_with fail
      exact ⟨rfl, Due19Rimpl1J.mk (unhide HK) (by kernel_rfl)⟩
    · simp at ho
      subst ho
      have d5 : l 5 = true := hd ⟨5, .data⟩ (by simp) rfl
      have x5 := K.e5 d5
      subst x5
      have HK : Hid (Due19Rimpl1 w3 nm ho cy dy dh dc dd nh nc nd (l 0) (l 1) (l 2) (l 3) (l 4) (l 5) (l 6) true (l 8) (l 9) (l 10) (l 11) (l 12) v0 v1 v2 v3 v4 (.tuple #[.bool (d9D ⟨nm, ho, cy, dy, dh, dc, dd⟩ nh nc nd), .agg #[.int .i64 (d9H ⟨nm, ho, cy, dy, dh, dc, dd⟩ nh nc nd), .int .i64 (d9C ⟨nm, ho, cy, dy, dh, dc, dd⟩ nh nc nd), .int .i64 (d9E ⟨nm, ho, cy, dy, dh, dc, dd⟩ nh nc nd)], .bool (d9B ⟨nm, ho, cy, dy, dh, dc, dd⟩ nh nc nd)]) v6 (.agg #[.int .i64 (d9H ⟨nm, ho, cy, dy, dh, dc, dd⟩ nh nc nd), .int .i64 (d9C ⟨nm, ho, cy, dy, dh, dc, dd⟩ nh nc nd), .int .i64 (d9E ⟨nm, ho, cy, dy, dh, dc, dd⟩ nh nc nd)]) v8 v9 v10 v12 V) := hide ⟨(K.bel), (K.e0), (K.e1), (K.e2), (K.e3), (K.e4), (K.e5), (K.c5), (K.e6), (K.c6), (fun _ => rfl), (fun _ => K.c5 d5), (K.e8), (K.c8), (K.e9), (K.e10), (K.n11), (K.e12)⟩
      clear K hd hl
      go_wp2_with fail
      exact ⟨rfl, Due19Rimpl1J.mk (unhide HK) (by kernel_rfl)⟩
    · simp at ho
      subst ho
      have d5 : l 5 = true := hd ⟨5, .data⟩ (by simp) rfl
      have x5 := K.e5 d5
      subst x5
      have HK : Hid (Due19Rimpl1 w3 nm ho cy dy dh dc dd nh nc nd (l 0) (l 1) (l 2) (l 3) (l 4) (l 5) (l 6) (l 7) true (l 9) (l 10) (l 11) (l 12) v0 v1 v2 v3 v4 (.tuple #[.bool (d9D ⟨nm, ho, cy, dy, dh, dc, dd⟩ nh nc nd), .agg #[.int .i64 (d9H ⟨nm, ho, cy, dy, dh, dc, dd⟩ nh nc nd), .int .i64 (d9C ⟨nm, ho, cy, dy, dh, dc, dd⟩ nh nc nd), .int .i64 (d9E ⟨nm, ho, cy, dy, dh, dc, dd⟩ nh nc nd)], .bool (d9B ⟨nm, ho, cy, dy, dh, dc, dd⟩ nh nc nd)]) v6 v7 (.bool (d9B ⟨nm, ho, cy, dy, dh, dc, dd⟩ nh nc nd)) v9 v10 v12 V) := hide ⟨(K.bel), (K.e0), (K.e1), (K.e2), (K.e3), (K.e4), (K.e5), (K.c5), (K.e6), (K.c6), (K.e7), (K.c7), (fun _ => rfl), (fun _ => K.c5 d5), (K.e9), (K.e10), (K.n11), (K.e12)⟩
      clear K hd hl
      go_wp2_with fail
      exact ⟨rfl, Due19Rimpl1J.mk (unhide HK) (by kernel_rfl)⟩
    · simp at ho
      subst ho
      have nz : l 11 = false := by cases c : l 11; rfl; have := K.n11 c; rw [hl] at this; cases this
      have K2 := K.below (bel1 (Obj.cells #[.int .i64 0, .int .i64 0, .int .i64 0] 25))
      have HK : Hid (Due19Rimpl1 w3 nm ho cy dy dh dc dd nh nc nd (l 0) (l 1) (l 2) (l 3) (l 4) (l 5) (l 6) (l 7) (l 8) true (l 10) (l 11) (l 12) v0 v1 v2 v3 v4 v5 v6 v7 v8 (.pointer (some ⟨V.heap.size, 0, none⟩)) v10 v12 (V.alloc (Obj.cells #[.int .i64 0, .int .i64 0, .int .i64 0] 25))) := hide ⟨(K2.bel), (K2.e0), (K2.e1), (K2.e2), (K2.e3), (K2.e4), (K2.e5), (K2.c5), (K2.e6), (K2.c6), (K2.e7), (K2.c7), (K2.e8), (K2.c8), (fun _ => ⟨_, rfl, K.bel.size, by rw [nz]; exact Blk.new _ _⟩), (K2.e10), (fun h => by cases nz.symm.trans h), (K2.e12)⟩
      clear K K2 hd hl nz
      go_wp2_with fail
      exact ⟨rfl, Due19Rimpl1J.mk (unhide HK) (by kernel_rfl)⟩
    · simp at ho
      subst ho
      have d6 : l 6 = true := hd ⟨6, .data⟩ (by simp) rfl
      have x6 := K.e6 d6
      subst x6
      have HK : Hid (Due19Rimpl1 w3 nm ho cy dy dh dc dd nh nc nd (l 0) (l 1) (l 2) (l 3) (l 4) (l 5) (l 6) (l 7) (l 8) (l 9) true (l 11) (l 12) v0 v1 v2 v3 v4 v5 (.bool (d9D ⟨nm, ho, cy, dy, dh, dc, dd⟩ nh nc nd)) v7 v8 v9 (.bool (d9D ⟨nm, ho, cy, dy, dh, dc, dd⟩ nh nc nd)) v12 V) := hide ⟨(K.bel), (K.e0), (K.e1), (K.e2), (K.e3), (K.e4), (K.e5), (K.c5), (K.e6), (K.c6), (K.e7), (K.c7), (K.e8), (K.c8), (K.e9), (fun _ => rfl), (K.n11), (K.e12)⟩
      clear K hd hl
      go_wp2_with fail
      exact ⟨rfl, Due19Rimpl1J.mk (unhide HK) (by kernel_rfl)⟩
    · simp at ho
      subst ho
      have d9 : l 9 = true := hd ⟨9, .data⟩ (by simp) rfl
      have d7 : l 7 = true := hd ⟨7, .data⟩ (by simp) rfl
      have x7 := K.e7 d7
      subst x7
      obtain ⟨P, x1, x2, x3⟩ := K.e9 d9
      rw [hl] at x3
      have yy0 : V.cell? ⟨P, 0, none⟩ = some (.int .i64 0) := x3.c 0 (by simp)
      have ff0 := x3.f 0 (by simp)
      have yy1 : V.cell? ⟨P, 1, none⟩ = some (.int .i64 0) := x3.c 1 (by simp)
      have ff1 := x3.f 1 (by simp)
      have yy2 : V.cell? ⟨P, 2, none⟩ = some (.int .i64 0) := x3.c 2 (by simp)
      have ff2 := x3.f 2 (by simp)
      skip
      have HK : Hid (Due19Rimpl1 w3 nm ho cy dy dh dc dd nh nc nd (l 0) (l 1) (l 2) (l 3) (l 4) (l 5) (l 6) (l 7) (l 8) (l 9) (l 10) true (l 12) v0 v1 v2 v3 v4 v5 v6 (.agg #[.int .i64 (d9H ⟨nm, ho, cy, dy, dh, dc, dd⟩ nh nc nd), .int .i64 (d9C ⟨nm, ho, cy, dy, dh, dc, dd⟩ nh nc nd), .int .i64 (d9E ⟨nm, ho, cy, dy, dh, dc, dd⟩ nh nc nd)]) v8 v9 v10 v12 (((V.setCell ⟨P, 0, none⟩ (.int .i64 (d9H ⟨nm, ho, cy, dy, dh, dc, dd⟩ nh nc nd))).setCell ⟨P, 1, none⟩ (.int .i64 (d9C ⟨nm, ho, cy, dy, dh, dc, dd⟩ nh nc nd))).setCell ⟨P, 2, none⟩ (.int .i64 (d9E ⟨nm, ho, cy, dy, dh, dc, dd⟩ nh nc nd)))) := hide ⟨((((K.bel.setCell x2 _).setCell x2 _).setCell x2 _)), (K.e0), (K.e1), (K.e2), (K.e3), (K.e4), (K.e5), (K.c5), (K.e6), (K.c6), (K.e7), (K.c7), (K.e8), (K.c8), (fun _ => ⟨P, x1, x2, (((x3.set 0 (by simp) _).set 1 (by simp) _).set 2 (by simp) _)⟩), (K.e10), (fun _ => d9), (K.e12)⟩
      clear K hd hl x3
      subst x1
      go_wp2_with fail
      exact ⟨rfl, Due19Rimpl1J.mk (unhide HK) (by kernel_rfl)⟩
    · simp at ho
      subst ho
      have d8 : l 8 = true := hd ⟨8, .data⟩ (by simp) rfl
      have x8 := K.e8 d8
      subst x8
      have HK : Hid (Due19Rimpl1 w3 nm ho cy dy dh dc dd nh nc nd (l 0) (l 1) (l 2) (l 3) (l 4) (l 5) (l 6) (l 7) (l 8) (l 9) (l 10) (l 11) true v0 v1 v2 v3 v4 v5 v6 v7 (.bool (d9B ⟨nm, ho, cy, dy, dh, dc, dd⟩ nh nc nd)) v9 v10 (.bool (d9B ⟨nm, ho, cy, dy, dh, dc, dd⟩ nh nc nd)) V) := hide ⟨(K.bel), (K.e0), (K.e1), (K.e2), (K.e3), (K.e4), (K.e5), (K.c5), (K.e6), (K.c6), (K.e7), (K.c7), (K.e8), (K.c8), (K.e9), (K.e10), (K.n11), (fun _ => rfl)⟩
      clear K hd hl
      go_wp2_with fail
      exact ⟨rfl, Due19Rimpl1J.mk (unhide HK) (by kernel_rfl)⟩
  rintro l a w4 hall ⟨v0, v1, v2, v3, v4, v5, v6, v7, v8, v9, v10, v12, rfl, K⟩
  have b := K.bel
  have x10 := K.e10 (hall 10 (by decide))
  subst x10
  obtain ⟨X3, x1, x2, x3⟩ := K.e9 (hall 9 (by decide))
  rw [hall 11 (by decide)] at x3
  subst x1
  have hSX3 := x3.lt
  have JX3 := hide x3
  have IX3 := hide x2
  clear x3 x2
  have x12 := K.e12 (hall 12 (by decide))
  subst x12
  clear K hall
  have S5 : Hid (w3.heap.size ≤ w4.heap.size) := hide b.size
  have K : Hid (Below w.heap.size w w4 ∧ Blk w4 w.heap.size [.string nm, .int .i64 ho, .int .i64 cy, .int .i64 dy, .int .i64 dh, .int .i64 dc, .int .i64 dd] ∧ Blk w4 (w.heap.size + 1) [.int .i64 nh, .int .i64 nc, .int .i64 nd] ∧ Blk w4 X2 [.int .i64 (d9H ⟨nm, ho, cy, dy, dh, dc, dd⟩ nh nc nd), .int .i64 (d9C ⟨nm, ho, cy, dy, dh, dc, dd⟩ nh nc nd), .int .i64 (d9E ⟨nm, ho, cy, dy, dh, dc, dd⟩ nh nc nd)]) := hide ((unhide KEPT) _ _ (unhide K) b)
  clear b
  have S6 : Hid (w3.heap.size ≤ X3) := hide (unhide IX3)
  have S7 : Hid (X3 + 1 ≤ w4.heap.size) := hide (by have := hSX3; omega)
  have K : Hid (Below w.heap.size w w4 ∧ Blk w4 w.heap.size [.string nm, .int .i64 ho, .int .i64 cy, .int .i64 dy, .int .i64 dh, .int .i64 dc, .int .i64 dd] ∧ Blk w4 (w.heap.size + 1) [.int .i64 nh, .int .i64 nc, .int .i64 nd] ∧ Blk w4 X2 [.int .i64 (d9H ⟨nm, ho, cy, dy, dh, dc, dd⟩ nh nc nd), .int .i64 (d9C ⟨nm, ho, cy, dy, dh, dc, dd⟩ nh nc nd), .int .i64 (d9E ⟨nm, ho, cy, dy, dh, dc, dd⟩ nh nc nd)] ∧ Blk w4 X3 [.int .i64 (d9H ⟨nm, ho, cy, dy, dh, dc, dd⟩ nh nc nd), .int .i64 (d9C ⟨nm, ho, cy, dy, dh, dc, dd⟩ nh nc nd), .int .i64 (d9E ⟨nm, ho, cy, dy, dh, dc, dd⟩ nh nc nd)]) := hide ⟨(unhide K).1, (unhide K).2.1, (unhide K).2.2.1, (unhide K).2.2.2, (unhide JX3)⟩
  clear KEPT JX3 hSX3
  have KEPT : Hid (∀ W u3, (Below w.heap.size w W ∧ Blk W w.heap.size [.string nm, .int .i64 ho, .int .i64 cy, .int .i64 dy, .int .i64 dh, .int .i64 dc, .int .i64 dd] ∧ Blk W (w.heap.size + 1) [.int .i64 nh, .int .i64 nc, .int .i64 nd] ∧ Blk W X2 [.int .i64 (d9H ⟨nm, ho, cy, dy, dh, dc, dd⟩ nh nc nd), .int .i64 (d9C ⟨nm, ho, cy, dy, dh, dc, dd⟩ nh nc nd), .int .i64 (d9E ⟨nm, ho, cy, dy, dh, dc, dd⟩ nh nc nd)] ∧ Blk W X3 [.int .i64 (d9H ⟨nm, ho, cy, dy, dh, dc, dd⟩ nh nc nd), .int .i64 (d9C ⟨nm, ho, cy, dy, dh, dc, dd⟩ nh nc nd), .int .i64 (d9E ⟨nm, ho, cy, dy, dh, dc, dd⟩ nh nc nd)]) → Below W.heap.size W u3 → (Below w.heap.size w u3 ∧ Blk u3 w.heap.size [.string nm, .int .i64 ho, .int .i64 cy, .int .i64 dy, .int .i64 dh, .int .i64 dc, .int .i64 dd] ∧ Blk u3 (w.heap.size + 1) [.int .i64 nh, .int .i64 nc, .int .i64 nd] ∧ Blk u3 X2 [.int .i64 (d9H ⟨nm, ho, cy, dy, dh, dc, dd⟩ nh nc nd), .int .i64 (d9C ⟨nm, ho, cy, dy, dh, dc, dd⟩ nh nc nd), .int .i64 (d9E ⟨nm, ho, cy, dy, dh, dc, dd⟩ nh nc nd)] ∧ Blk u3 X3 [.int .i64 (d9H ⟨nm, ho, cy, dy, dh, dc, dd⟩ nh nc nd), .int .i64 (d9C ⟨nm, ho, cy, dy, dh, dc, dd⟩ nh nc nd), .int .i64 (d9E ⟨nm, ho, cy, dy, dh, dc, dd⟩ nh nc nd)])) := hide (fun W u3 h b => ⟨h.1.trans (b.mono h.1.size), h.2.1.below b, h.2.2.1.below b, h.2.2.2.1.below b, h.2.2.2.2.below b⟩)
  have mPv0 : w4.cell? ⟨w.heap.size, 0, none⟩ = some (.string nm) := (unhide K).2.1.c 0 (by simp)
  have mPv1 : w4.cell? ⟨w.heap.size, 1, none⟩ = some (.int .i64 ho) := (unhide K).2.1.c 1 (by simp)
  have mPv2 : w4.cell? ⟨w.heap.size, 2, none⟩ = some (.int .i64 cy) := (unhide K).2.1.c 2 (by simp)
  have mPv3 : w4.cell? ⟨w.heap.size, 3, none⟩ = some (.int .i64 dy) := (unhide K).2.1.c 3 (by simp)
  have mPv4 : w4.cell? ⟨w.heap.size, 4, none⟩ = some (.int .i64 dh) := (unhide K).2.1.c 4 (by simp)
  have mPv5 : w4.cell? ⟨w.heap.size, 5, none⟩ = some (.int .i64 dc) := (unhide K).2.1.c 5 (by simp)
  have mPv6 : w4.cell? ⟨w.heap.size, 6, none⟩ = some (.int .i64 dd) := (unhide K).2.1.c 6 (by simp)
  have mPu0 : w4.cell? ⟨w.heap.size + 1, 0, none⟩ = some (.int .i64 nh) := (unhide K).2.2.1.c 0 (by simp)
  have mPu1 : w4.cell? ⟨w.heap.size + 1, 1, none⟩ = some (.int .i64 nc) := (unhide K).2.2.1.c 1 (by simp)
  have mPu2 : w4.cell? ⟨w.heap.size + 1, 2, none⟩ = some (.int .i64 nd) := (unhide K).2.2.1.c 2 (by simp)
  have mQWp10 : w4.cell? ⟨X2, 0, none⟩ = some (.int .i64 (d9H ⟨nm, ho, cy, dy, dh, dc, dd⟩ nh nc nd)) := (unhide K).2.2.2.1.c 0 (by simp)
  have mQWp11 : w4.cell? ⟨X2, 1, none⟩ = some (.int .i64 (d9C ⟨nm, ho, cy, dy, dh, dc, dd⟩ nh nc nd)) := (unhide K).2.2.2.1.c 1 (by simp)
  have mQWp12 : w4.cell? ⟨X2, 2, none⟩ = some (.int .i64 (d9E ⟨nm, ho, cy, dy, dh, dc, dd⟩ nh nc nd)) := (unhide K).2.2.2.1.c 2 (by simp)
  have mQGp10 : w4.cell? ⟨X3, 0, none⟩ = some (.int .i64 (d9H ⟨nm, ho, cy, dy, dh, dc, dd⟩ nh nc nd)) := (unhide K).2.2.2.2.c 0 (by simp)
  have mQGp11 : w4.cell? ⟨X3, 1, none⟩ = some (.int .i64 (d9C ⟨nm, ho, cy, dy, dh, dc, dd⟩ nh nc nd)) := (unhide K).2.2.2.2.c 1 (by simp)
  have mQGp12 : w4.cell? ⟨X3, 2, none⟩ = some (.int .i64 (d9E ⟨nm, ho, cy, dy, dh, dc, dd⟩ nh nc nd)) := (unhide K).2.2.2.2.c 2 (by simp)
  go_wp2_with fail
  clear mPv0 mPv1 mPv2 mPv3 mPv4 mPv5 mPv6 mPu0 mPu1 mPu2 mQWp10 mQWp11 mQWp12 mQGp10 mQGp11 mQGp12
  refine (eqClock_alike _ _ _ _ _ _ _ (ckAlike_refl _)).mono ?_
  rintro x w5 ⟨rfl, b⟩
  have S8 : Hid (w4.heap.size ≤ w5.heap.size) := hide b.size
  have K : Hid (Below w.heap.size w w5 ∧ Blk w5 w.heap.size [.string nm, .int .i64 ho, .int .i64 cy, .int .i64 dy, .int .i64 dh, .int .i64 dc, .int .i64 dd] ∧ Blk w5 (w.heap.size + 1) [.int .i64 nh, .int .i64 nc, .int .i64 nd] ∧ Blk w5 X2 [.int .i64 (d9H ⟨nm, ho, cy, dy, dh, dc, dd⟩ nh nc nd), .int .i64 (d9C ⟨nm, ho, cy, dy, dh, dc, dd⟩ nh nc nd), .int .i64 (d9E ⟨nm, ho, cy, dy, dh, dc, dd⟩ nh nc nd)] ∧ Blk w5 X3 [.int .i64 (d9H ⟨nm, ho, cy, dy, dh, dc, dd⟩ nh nc nd), .int .i64 (d9C ⟨nm, ho, cy, dy, dh, dc, dd⟩ nh nc nd), .int .i64 (d9E ⟨nm, ho, cy, dy, dh, dc, dd⟩ nh nc nd)]) := hide ((unhide KEPT) _ _ (unhide K) b)
  clear b
  have mPv0 : w5.cell? ⟨w.heap.size, 0, none⟩ = some (.string nm) := (unhide K).2.1.c 0 (by simp)
  have mPv1 : w5.cell? ⟨w.heap.size, 1, none⟩ = some (.int .i64 ho) := (unhide K).2.1.c 1 (by simp)
  have mPv2 : w5.cell? ⟨w.heap.size, 2, none⟩ = some (.int .i64 cy) := (unhide K).2.1.c 2 (by simp)
  have mPv3 : w5.cell? ⟨w.heap.size, 3, none⟩ = some (.int .i64 dy) := (unhide K).2.1.c 3 (by simp)
  have mPv4 : w5.cell? ⟨w.heap.size, 4, none⟩ = some (.int .i64 dh) := (unhide K).2.1.c 4 (by simp)
  have mPv5 : w5.cell? ⟨w.heap.size, 5, none⟩ = some (.int .i64 dc) := (unhide K).2.1.c 5 (by simp)
  have mPv6 : w5.cell? ⟨w.heap.size, 6, none⟩ = some (.int .i64 dd) := (unhide K).2.1.c 6 (by simp)
  have mPu0 : w5.cell? ⟨w.heap.size + 1, 0, none⟩ = some (.int .i64 nh) := (unhide K).2.2.1.c 0 (by simp)
  have mPu1 : w5.cell? ⟨w.heap.size + 1, 1, none⟩ = some (.int .i64 nc) := (unhide K).2.2.1.c 1 (by simp)
  have mPu2 : w5.cell? ⟨w.heap.size + 1, 2, none⟩ = some (.int .i64 nd) := (unhide K).2.2.1.c 2 (by simp)
  have mQWp10 : w5.cell? ⟨X2, 0, none⟩ = some (.int .i64 (d9H ⟨nm, ho, cy, dy, dh, dc, dd⟩ nh nc nd)) := (unhide K).2.2.2.1.c 0 (by simp)
  have mQWp11 : w5.cell? ⟨X2, 1, none⟩ = some (.int .i64 (d9C ⟨nm, ho, cy, dy, dh, dc, dd⟩ nh nc nd)) := (unhide K).2.2.2.1.c 1 (by simp)
  have mQWp12 : w5.cell? ⟨X2, 2, none⟩ = some (.int .i64 (d9E ⟨nm, ho, cy, dy, dh, dc, dd⟩ nh nc nd)) := (unhide K).2.2.2.1.c 2 (by simp)
  have mQGp10 : w5.cell? ⟨X3, 0, none⟩ = some (.int .i64 (d9H ⟨nm, ho, cy, dy, dh, dc, dd⟩ nh nc nd)) := (unhide K).2.2.2.2.c 0 (by simp)
  have mQGp11 : w5.cell? ⟨X3, 1, none⟩ = some (.int .i64 (d9C ⟨nm, ho, cy, dy, dh, dc, dd⟩ nh nc nd)) := (unhide K).2.2.2.2.c 1 (by simp)
  have mQGp12 : w5.cell? ⟨X3, 2, none⟩ = some (.int .i64 (d9E ⟨nm, ho, cy, dy, dh, dc, dd⟩ nh nc nd)) := (unhide K).2.2.2.2.c 2 (by simp)
  go_wp2_with fail
  clear mPv0 mPv1 mPv2 mPv3 mPv4 mPv5 mPv6 mPu0 mPu1 mPu2 mQWp10 mQWp11 mQWp12 mQGp10 mQGp11 mQGp12
  go_ret
  exact ⟨rfl, (unhide K).1⟩
end Go.Proofs.Ytilahgifaglekbb
