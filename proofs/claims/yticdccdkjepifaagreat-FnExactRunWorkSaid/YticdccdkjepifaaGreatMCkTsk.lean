/-
  What the program's TaskOk answers: the plain answer, at every argument; nothing that was there is written.
  What the program's small functions of clocks answer: isBeyond, passedBy, clockOf, leftOf. No condition beyond sizes of numbers; nothing that was there is written.
-/
import Derived.Test.YticdccdkjepifaaGreatMTaAlert
import Derived.Deep.Cut
import Derived.ChangeKeysEq
import Derived.Test.YticdccdkjepifaaGreatMLeftImpl
import Derived.Test.YticdccdkjepifaaGreatArr
import Derived.LoopN

namespace Go.Proofs.YticdccdkjepifaaGreat
open Go.RowKit

/-- Three numbers held against three. -/
theorem run_eq3 (a b c x y z : Int) (w : World) : (Op.equalIn 10000 142 (.agg #[.int .i64 a, .int .i64 b, .int .i64 c]) (.agg #[.int .i64 x, .int .i64 y, .int .i64 z])).run Tryz.prog w = .ok (a == x && b == y && c == z) w := by
  have hs : (Tryz.prog.info? 3).isSome = true := by kernel_rfl
  obtain ⟨i, hi⟩ := Option.isSome_iff_exists.1 hs
  have hk : Tryz.prog.plainKey 3 = true := by kernel_rfl
  have hc : Tryz.prog.cellsOf 3 = 1 := by kernel_rfl
  have he : ∀ p q : Int, (Op.equalIn 9999 3 (.int .i64 p) (.int .i64 q)).run Tryz.prog w = .ok (p == q) w := fun p q => run_equalIn_int w 9998 _ .i64 .i64 p q Tryz.underlying3
  have hp : ∀ (xs : Array Value) (off : Nat) (v : Value), xs[off]? = some v → (part 3 xs off).run Tryz.prog w = .ok v w := fun xs off v h => run_part_plain w hk h
  rw [show (10000 : Nat) = 9999 + 1 from rfl, run_equalIn_array w 9999 _ _ Tryz.underlying142 hi, hc, show List.range 3 = [0, 1, 2] from rfl]
  have f0 := hp #[Value.int .i64 a, .int .i64 b, .int .i64 c] 0 (.int .i64 a) rfl
  have g0 := hp #[Value.int .i64 x, .int .i64 y, .int .i64 z] 0 (.int .i64 x) rfl
  have f1 := hp #[Value.int .i64 a, .int .i64 b, .int .i64 c] 1 (.int .i64 b) rfl
  have g1 := hp #[Value.int .i64 x, .int .i64 y, .int .i64 z] 1 (.int .i64 y) rfl
  have f2 := hp #[Value.int .i64 a, .int .i64 b, .int .i64 c] 2 (.int .i64 c) rfl
  have g2 := hp #[Value.int .i64 x, .int .i64 y, .int .i64 z] 2 (.int .i64 z) rfl
  cases e1 : a == x <;> cases e2 : b == y <;> cases e3 : c == z <;> simp [Op.eqItems, f0, f1, f2, g0, g1, g2, he, e1, e2, e3]
theorem eq3_no {h c d : Int} (q : ¬ (h = 0 ∧ c = 0 ∧ d = 0)) : (h == 0 && c == 0 && d == 0) = false := by
  cases e1 : h == 0 <;> cases e2 : c == 0 <;> cases e3 : d == 0 <;> simp_all
theorem zero3 {h c d : Int} (g : in3 h c d 100000 = true) (k : decide (0 < h + c + d) = false) : h = 0 ∧ c = 0 ∧ d = 0 := by
  have := in3_facts g
  have := of_decide_eq_false k
  omega
theorem some3 {h c d : Int} (k : decide (0 < h + c + d) = true) : ¬ (h = 0 ∧ c = 0 ∧ d = 0) := by
  have := of_decide_eq_true k
  omega
set_option maxRecDepth 20000 in
set_option maxHeartbeats 2000000 in
theorem taskOk_1 (nm : ByteArray) (h c d dh dc dd : Int) (w : World) (hs : nm.size ≤ 9223372036854775807) (q1 : nameB nm = false) :
    Calls Tryz.prog 106 #[.agg #[.string nm, .int .i64 h, .int .i64 c, .int .i64 d, .int .i64 dh, .int .i64 dc, .int .i64 dd]] w fun e w' => e = .returned (.bool false) ∧ Below w.heap.size w w' := by
  have CN : Hid (∀ W, Calls Tryz.prog 109 #[.string nm] W fun e w' => e = .returned (.bool _) ∧ w' = W) := hide (fun W => by have := nameOk_any nm W hs; rw [q1] at this; exact this)
  go_enter Tryz.func106, Tryz.ntmps106
  go_wp2_with fail
  refine (tBounds_any nm h c d dh dc dd _).mono ?_
  rintro x w1 ⟨rfl, b1⟩
  have K1 := hide ((Blk.new (w := w) [.string nm, .int .i64 h, .int .i64 c, .int .i64 d, .int .i64 dh, .int .i64 dc, .int .i64 dd] 90).below b1)
  have B1 := hide ((bel1 _).trans (b1.mono (by simp)))
  clear b1
  obtain ⟨W, hW⟩ : ∃ W, W = w1.alloc (Obj.cells #[.int .i64 h, .int .i64 c, .int .i64 d] 142) := ⟨_, rfl⟩
  have R3 : Hid (Blk W w1.heap.size [.int .i64 h, .int .i64 c, .int .i64 d]) := hide (by rw [hW]; exact Blk.new _ _)
  have K0 : Hid (Blk W w.heap.size [.string nm, .int .i64 h, .int .i64 c, .int .i64 d, .int .i64 dh, .int .i64 dc, .int .i64 dd]) := hide (by rw [hW]; exact (unhide K1).alloc _)
  have B0 : Hid (Below w.heap.size w W) := hide (by rw [hW]; exact (unhide B1).alloc (unhide B1).size _)
  have HW := hide hW
  clear hW B1 K1
  go_upto_region 2 with fail
  rw [← unhide HW]
  clear HW
  obtain ⟨ι, fW, _, hb, hall⟩ := belClass W
  have HB := hide hb
  have HA := hide hall
  have c00 : ∀ x, (fW x).cell? ⟨w.heap.size, 0, none⟩ = some (.string nm) := fun x => ((unhide K0).below (hb x)).c 0 (by simp)
  have c01 : ∀ x, (fW x).cell? ⟨w.heap.size, 1, none⟩ = some (.int .i64 h) := fun x => ((unhide K0).below (hb x)).c 1 (by simp)
  have c02 : ∀ x, (fW x).cell? ⟨w.heap.size, 2, none⟩ = some (.int .i64 c) := fun x => ((unhide K0).below (hb x)).c 2 (by simp)
  have c03 : ∀ x, (fW x).cell? ⟨w.heap.size, 3, none⟩ = some (.int .i64 d) := fun x => ((unhide K0).below (hb x)).c 3 (by simp)
  have c04 : ∀ x, (fW x).cell? ⟨w.heap.size, 4, none⟩ = some (.int .i64 dh) := fun x => ((unhide K0).below (hb x)).c 4 (by simp)
  have c05 : ∀ x, (fW x).cell? ⟨w.heap.size, 5, none⟩ = some (.int .i64 dc) := fun x => ((unhide K0).below (hb x)).c 5 (by simp)
  have c06 : ∀ x, (fW x).cell? ⟨w.heap.size, 6, none⟩ = some (.int .i64 dd) := fun x => ((unhide K0).below (hb x)).c 6 (by simp)
  have c10 : ∀ x, (fW x).cell? ⟨w1.heap.size, 0, none⟩ = some (.int .i64 h) := fun x => ((unhide R3).below (hb x)).c 0 (by simp)
  have c11 : ∀ x, (fW x).cell? ⟨w1.heap.size, 1, none⟩ = some (.int .i64 c) := fun x => ((unhide R3).below (hb x)).c 1 (by simp)
  have c12 : ∀ x, (fW x).cell? ⟨w1.heap.size, 2, none⟩ = some (.int .i64 d) := fun x => ((unhide R3).below (hb x)).c 2 (by simp)
  clear hb hall
  obtain ⟨x0, h0⟩ := (unhide HA) W (Below.refl _ _)
  rw [h0]
  clear h0
  go_wp2_with (first | (go_at_call 109; refine (belS (unhide CN _)).mono ?_; rintro e _ ⟨rfl, y, rfl⟩))
  go_ret
  exact ⟨rfl, (unhide B0).trans ((unhide HB _).mono (unhide B0).size)⟩
set_option maxRecDepth 20000 in
set_option maxHeartbeats 2000000 in
theorem taskOk_2 (nm : ByteArray) (h c d dh dc dd : Int) (w : World) (hs : nm.size ≤ 9223372036854775807) (q1 : nameB nm = true) (q2 : in3 h c d 100000 = false) :
    Calls Tryz.prog 106 #[.agg #[.string nm, .int .i64 h, .int .i64 c, .int .i64 d, .int .i64 dh, .int .i64 dc, .int .i64 dd]] w fun e w' => e = .returned (.bool false) ∧ Below w.heap.size w w' := by
  have CN : Hid (∀ W, Calls Tryz.prog 109 #[.string nm] W fun e w' => e = .returned (.bool _) ∧ w' = W) := hide (fun W => by have := nameOk_any nm W hs; rw [q1] at this; exact this)
  go_enter Tryz.func106, Tryz.ntmps106
  go_wp2_with fail
  refine (tBounds_any nm h c d dh dc dd _).mono ?_
  rintro x w1 ⟨rfl, b1⟩
  have K1 := hide ((Blk.new (w := w) [.string nm, .int .i64 h, .int .i64 c, .int .i64 d, .int .i64 dh, .int .i64 dc, .int .i64 dd] 90).below b1)
  have B1 := hide ((bel1 _).trans (b1.mono (by simp)))
  clear b1
  obtain ⟨W, hW⟩ : ∃ W, W = w1.alloc (Obj.cells #[.int .i64 h, .int .i64 c, .int .i64 d] 142) := ⟨_, rfl⟩
  have R3 : Hid (Blk W w1.heap.size [.int .i64 h, .int .i64 c, .int .i64 d]) := hide (by rw [hW]; exact Blk.new _ _)
  have K0 : Hid (Blk W w.heap.size [.string nm, .int .i64 h, .int .i64 c, .int .i64 d, .int .i64 dh, .int .i64 dc, .int .i64 dd]) := hide (by rw [hW]; exact (unhide K1).alloc _)
  have B0 : Hid (Below w.heap.size w W) := hide (by rw [hW]; exact (unhide B1).alloc (unhide B1).size _)
  have HW := hide hW
  clear hW B1 K1
  go_upto_region 2 with fail
  rw [← unhide HW]
  clear HW
  obtain ⟨ι, fW, _, hb, hall⟩ := belClass W
  have HB := hide hb
  have HA := hide hall
  have c00 : ∀ x, (fW x).cell? ⟨w.heap.size, 0, none⟩ = some (.string nm) := fun x => ((unhide K0).below (hb x)).c 0 (by simp)
  have c01 : ∀ x, (fW x).cell? ⟨w.heap.size, 1, none⟩ = some (.int .i64 h) := fun x => ((unhide K0).below (hb x)).c 1 (by simp)
  have c02 : ∀ x, (fW x).cell? ⟨w.heap.size, 2, none⟩ = some (.int .i64 c) := fun x => ((unhide K0).below (hb x)).c 2 (by simp)
  have c03 : ∀ x, (fW x).cell? ⟨w.heap.size, 3, none⟩ = some (.int .i64 d) := fun x => ((unhide K0).below (hb x)).c 3 (by simp)
  have c04 : ∀ x, (fW x).cell? ⟨w.heap.size, 4, none⟩ = some (.int .i64 dh) := fun x => ((unhide K0).below (hb x)).c 4 (by simp)
  have c05 : ∀ x, (fW x).cell? ⟨w.heap.size, 5, none⟩ = some (.int .i64 dc) := fun x => ((unhide K0).below (hb x)).c 5 (by simp)
  have c06 : ∀ x, (fW x).cell? ⟨w.heap.size, 6, none⟩ = some (.int .i64 dd) := fun x => ((unhide K0).below (hb x)).c 6 (by simp)
  have c10 : ∀ x, (fW x).cell? ⟨w1.heap.size, 0, none⟩ = some (.int .i64 h) := fun x => ((unhide R3).below (hb x)).c 0 (by simp)
  have c11 : ∀ x, (fW x).cell? ⟨w1.heap.size, 1, none⟩ = some (.int .i64 c) := fun x => ((unhide R3).below (hb x)).c 1 (by simp)
  have c12 : ∀ x, (fW x).cell? ⟨w1.heap.size, 2, none⟩ = some (.int .i64 d) := fun x => ((unhide R3).below (hb x)).c 2 (by simp)
  have CA : Hid (∀ x, Calls Tryz.prog 101 #[.slice (some ⟨w1.heap.size, 0, none⟩) 3 3, .int .i64 0, .int .i64 100000] (fW x) fun e w' => e = .returned (.bool false) ∧ Below (fW x).heap.size (fW x) w') := hide (fun x => by have := allW3 w1.heap.size 3 h c d 0 100000 (fW x) ((unhide R3).below (hb x)); rw [in3_all, q2] at this; exact this)
  clear hb hall
  obtain ⟨x0, h0⟩ := (unhide HA) W (Below.refl _ _)
  rw [h0]
  clear h0
  go_wp2_with (first | (go_at_call 109; refine (belS (unhide CN _)).mono ?_; rintro e _ ⟨rfl, y, rfl⟩) | (go_at_call 101; refine (belQ (unhide HB) (unhide HA) (unhide CA _)).mono ?_; rintro e _ ⟨rfl, y, rfl⟩))
  go_ret
  exact ⟨rfl, (unhide B0).trans ((unhide HB _).mono (unhide B0).size)⟩
set_option maxRecDepth 20000 in
set_option maxHeartbeats 2000000 in
theorem taskOk_3 (nm : ByteArray) (dh dc dd : Int) (w : World) (hs : nm.size ≤ 9223372036854775807) (q1 : nameB nm = true) (q2 : in3 0 0 0 100000 = true) :
    Calls Tryz.prog 106 #[.agg #[.string nm, .int .i64 0, .int .i64 0, .int .i64 0, .int .i64 dh, .int .i64 dc, .int .i64 dd]] w fun e w' => e = .returned (.bool false) ∧ Below w.heap.size w w' := by
  have CN : Hid (∀ W, Calls Tryz.prog 109 #[.string nm] W fun e w' => e = .returned (.bool _) ∧ w' = W) := hide (fun W => by have := nameOk_any nm W hs; rw [q1] at this; exact this)
  go_enter Tryz.func106, Tryz.ntmps106
  go_wp2_with fail
  refine (tBounds_any nm 0 0 0 dh dc dd _).mono ?_
  rintro x w1 ⟨rfl, b1⟩
  have K1 := hide ((Blk.new (w := w) [.string nm, .int .i64 0, .int .i64 0, .int .i64 0, .int .i64 dh, .int .i64 dc, .int .i64 dd] 90).below b1)
  have B1 := hide ((bel1 _).trans (b1.mono (by simp)))
  clear b1
  obtain ⟨W, hW⟩ : ∃ W, W = w1.alloc (Obj.cells #[.int .i64 0, .int .i64 0, .int .i64 0] 142) := ⟨_, rfl⟩
  have R3 : Hid (Blk W w1.heap.size [.int .i64 0, .int .i64 0, .int .i64 0]) := hide (by rw [hW]; exact Blk.new _ _)
  have K0 : Hid (Blk W w.heap.size [.string nm, .int .i64 0, .int .i64 0, .int .i64 0, .int .i64 dh, .int .i64 dc, .int .i64 dd]) := hide (by rw [hW]; exact (unhide K1).alloc _)
  have B0 : Hid (Below w.heap.size w W) := hide (by rw [hW]; exact (unhide B1).alloc (unhide B1).size _)
  have HW := hide hW
  clear hW B1 K1
  go_upto_region 2 with fail
  rw [← unhide HW]
  clear HW
  obtain ⟨ι, fW, _, hb, hall⟩ := belClass W
  have HB := hide hb
  have HA := hide hall
  have c00 : ∀ x, (fW x).cell? ⟨w.heap.size, 0, none⟩ = some (.string nm) := fun x => ((unhide K0).below (hb x)).c 0 (by simp)
  have c01 : ∀ x, (fW x).cell? ⟨w.heap.size, 1, none⟩ = some (.int .i64 0) := fun x => ((unhide K0).below (hb x)).c 1 (by simp)
  have c02 : ∀ x, (fW x).cell? ⟨w.heap.size, 2, none⟩ = some (.int .i64 0) := fun x => ((unhide K0).below (hb x)).c 2 (by simp)
  have c03 : ∀ x, (fW x).cell? ⟨w.heap.size, 3, none⟩ = some (.int .i64 0) := fun x => ((unhide K0).below (hb x)).c 3 (by simp)
  have c04 : ∀ x, (fW x).cell? ⟨w.heap.size, 4, none⟩ = some (.int .i64 dh) := fun x => ((unhide K0).below (hb x)).c 4 (by simp)
  have c05 : ∀ x, (fW x).cell? ⟨w.heap.size, 5, none⟩ = some (.int .i64 dc) := fun x => ((unhide K0).below (hb x)).c 5 (by simp)
  have c06 : ∀ x, (fW x).cell? ⟨w.heap.size, 6, none⟩ = some (.int .i64 dd) := fun x => ((unhide K0).below (hb x)).c 6 (by simp)
  have c10 : ∀ x, (fW x).cell? ⟨w1.heap.size, 0, none⟩ = some (.int .i64 0) := fun x => ((unhide R3).below (hb x)).c 0 (by simp)
  have c11 : ∀ x, (fW x).cell? ⟨w1.heap.size, 1, none⟩ = some (.int .i64 0) := fun x => ((unhide R3).below (hb x)).c 1 (by simp)
  have c12 : ∀ x, (fW x).cell? ⟨w1.heap.size, 2, none⟩ = some (.int .i64 0) := fun x => ((unhide R3).below (hb x)).c 2 (by simp)
  have E3 : ∀ V, (Op.equalIn 10000 142 (.agg #[.int .i64 0, .int .i64 0, .int .i64 0]) (.agg #[.int .i64 0, .int .i64 0, .int .i64 0])).run Tryz.prog V = .ok true V := fun V => run_eq3 0 0 0 0 0 0 V
  have CA : Hid (∀ x, Calls Tryz.prog 101 #[.slice (some ⟨w1.heap.size, 0, none⟩) 3 3, .int .i64 0, .int .i64 100000] (fW x) fun e w' => e = .returned (.bool true) ∧ Below (fW x).heap.size (fW x) w') := hide (fun x => by have := allW3 w1.heap.size 3 0 0 0 0 100000 (fW x) ((unhide R3).below (hb x)); rw [in3_all, q2] at this; exact this)
  clear hb hall
  obtain ⟨x0, h0⟩ := (unhide HA) W (Below.refl _ _)
  rw [h0]
  clear h0
  go_wp2_with (first | (go_at_call 109; refine (belS (unhide CN _)).mono ?_; rintro e _ ⟨rfl, y, rfl⟩) | (go_at_call 101; refine (belQ (unhide HB) (unhide HA) (unhide CA _)).mono ?_; rintro e _ ⟨rfl, y, rfl⟩))
  go_ret
  exact ⟨rfl, (unhide B0).trans ((unhide HB _).mono (unhide B0).size)⟩
set_option maxRecDepth 20000 in
set_option maxHeartbeats 2000000 in
theorem taskOk_4 (nm : ByteArray) (h c d dh dc dd : Int) (w : World) (hs : nm.size ≤ 9223372036854775807) (q1 : nameB nm = true) (q2 : in3 h c d 100000 = true) (q3 : ¬ (h = 0 ∧ c = 0 ∧ d = 0)) (q4 : ckB dh dc dd = false) :
    Calls Tryz.prog 106 #[.agg #[.string nm, .int .i64 h, .int .i64 c, .int .i64 d, .int .i64 dh, .int .i64 dc, .int .i64 dd]] w fun e w' => e = .returned (.bool false) ∧ Below w.heap.size w w' := by
  have CN : Hid (∀ W, Calls Tryz.prog 109 #[.string nm] W fun e w' => e = .returned (.bool _) ∧ w' = W) := hide (fun W => by have := nameOk_any nm W hs; rw [q1] at this; exact this)
  go_enter Tryz.func106, Tryz.ntmps106
  go_wp2_with fail
  refine (tBounds_any nm h c d dh dc dd _).mono ?_
  rintro x w1 ⟨rfl, b1⟩
  have K1 := hide ((Blk.new (w := w) [.string nm, .int .i64 h, .int .i64 c, .int .i64 d, .int .i64 dh, .int .i64 dc, .int .i64 dd] 90).below b1)
  have B1 := hide ((bel1 _).trans (b1.mono (by simp)))
  clear b1
  obtain ⟨W, hW⟩ : ∃ W, W = w1.alloc (Obj.cells #[.int .i64 h, .int .i64 c, .int .i64 d] 142) := ⟨_, rfl⟩
  have R3 : Hid (Blk W w1.heap.size [.int .i64 h, .int .i64 c, .int .i64 d]) := hide (by rw [hW]; exact Blk.new _ _)
  have K0 : Hid (Blk W w.heap.size [.string nm, .int .i64 h, .int .i64 c, .int .i64 d, .int .i64 dh, .int .i64 dc, .int .i64 dd]) := hide (by rw [hW]; exact (unhide K1).alloc _)
  have B0 : Hid (Below w.heap.size w W) := hide (by rw [hW]; exact (unhide B1).alloc (unhide B1).size _)
  have HW := hide hW
  clear hW B1 K1
  go_upto_region 2 with fail
  rw [← unhide HW]
  clear HW
  obtain ⟨ι, fW, _, hb, hall⟩ := belClass W
  have HB := hide hb
  have HA := hide hall
  have c00 : ∀ x, (fW x).cell? ⟨w.heap.size, 0, none⟩ = some (.string nm) := fun x => ((unhide K0).below (hb x)).c 0 (by simp)
  have c01 : ∀ x, (fW x).cell? ⟨w.heap.size, 1, none⟩ = some (.int .i64 h) := fun x => ((unhide K0).below (hb x)).c 1 (by simp)
  have c02 : ∀ x, (fW x).cell? ⟨w.heap.size, 2, none⟩ = some (.int .i64 c) := fun x => ((unhide K0).below (hb x)).c 2 (by simp)
  have c03 : ∀ x, (fW x).cell? ⟨w.heap.size, 3, none⟩ = some (.int .i64 d) := fun x => ((unhide K0).below (hb x)).c 3 (by simp)
  have c04 : ∀ x, (fW x).cell? ⟨w.heap.size, 4, none⟩ = some (.int .i64 dh) := fun x => ((unhide K0).below (hb x)).c 4 (by simp)
  have c05 : ∀ x, (fW x).cell? ⟨w.heap.size, 5, none⟩ = some (.int .i64 dc) := fun x => ((unhide K0).below (hb x)).c 5 (by simp)
  have c06 : ∀ x, (fW x).cell? ⟨w.heap.size, 6, none⟩ = some (.int .i64 dd) := fun x => ((unhide K0).below (hb x)).c 6 (by simp)
  have c10 : ∀ x, (fW x).cell? ⟨w1.heap.size, 0, none⟩ = some (.int .i64 h) := fun x => ((unhide R3).below (hb x)).c 0 (by simp)
  have c11 : ∀ x, (fW x).cell? ⟨w1.heap.size, 1, none⟩ = some (.int .i64 c) := fun x => ((unhide R3).below (hb x)).c 1 (by simp)
  have c12 : ∀ x, (fW x).cell? ⟨w1.heap.size, 2, none⟩ = some (.int .i64 d) := fun x => ((unhide R3).below (hb x)).c 2 (by simp)
  have E3 : ∀ V, (Op.equalIn 10000 142 (.agg #[.int .i64 h, .int .i64 c, .int .i64 d]) (.agg #[.int .i64 0, .int .i64 0, .int .i64 0])).run Tryz.prog V = .ok false V := fun V => by rw [run_eq3, eq3_no q3]
  have CA : Hid (∀ x, Calls Tryz.prog 101 #[.slice (some ⟨w1.heap.size, 0, none⟩) 3 3, .int .i64 0, .int .i64 100000] (fW x) fun e w' => e = .returned (.bool true) ∧ Below (fW x).heap.size (fW x) w') := hide (fun x => by have := allW3 w1.heap.size 3 h c d 0 100000 (fW x) ((unhide R3).below (hb x)); rw [in3_all, q2] at this; exact this)
  clear hb hall
  obtain ⟨x0, h0⟩ := (unhide HA) W (Below.refl _ _)
  rw [h0]
  clear h0
  go_wp2_with (first | (go_at_call 109; refine (belS (unhide CN _)).mono ?_; rintro e _ ⟨rfl, y, rfl⟩) | (go_at_call 101; refine (belQ (unhide HB) (unhide HA) (unhide CA _)).mono ?_; rintro e _ ⟨rfl, y, rfl⟩) | (go_at_call 74; refine (belQ (unhide HB) (unhide HA) (implClockOk_is _ _ _ _ q4)).mono ?_; rintro e _ ⟨rfl, y, rfl⟩))
  go_ret
  exact ⟨rfl, (unhide B0).trans ((unhide HB _).mono (unhide B0).size)⟩
set_option maxRecDepth 20000 in
set_option maxHeartbeats 2000000 in
theorem taskOk_5 (nm : ByteArray) (h c d dh dc dd : Int) (w : World) (hs : nm.size ≤ 9223372036854775807) (q1 : nameB nm = true) (q2 : in3 h c d 100000 = true) (q3 : ¬ (h = 0 ∧ c = 0 ∧ d = 0)) (q4 : ckB dh dc dd = true) :
    Calls Tryz.prog 106 #[.agg #[.string nm, .int .i64 h, .int .i64 c, .int .i64 d, .int .i64 dh, .int .i64 dc, .int .i64 dd]] w fun e w' => e = .returned (.bool true) ∧ Below w.heap.size w w' := by
  have CN : Hid (∀ W, Calls Tryz.prog 109 #[.string nm] W fun e w' => e = .returned (.bool _) ∧ w' = W) := hide (fun W => by have := nameOk_any nm W hs; rw [q1] at this; exact this)
  go_enter Tryz.func106, Tryz.ntmps106
  go_wp2_with fail
  refine (tBounds_any nm h c d dh dc dd _).mono ?_
  rintro x w1 ⟨rfl, b1⟩
  have K1 := hide ((Blk.new (w := w) [.string nm, .int .i64 h, .int .i64 c, .int .i64 d, .int .i64 dh, .int .i64 dc, .int .i64 dd] 90).below b1)
  have B1 := hide ((bel1 _).trans (b1.mono (by simp)))
  clear b1
  obtain ⟨W, hW⟩ : ∃ W, W = w1.alloc (Obj.cells #[.int .i64 h, .int .i64 c, .int .i64 d] 142) := ⟨_, rfl⟩
  have R3 : Hid (Blk W w1.heap.size [.int .i64 h, .int .i64 c, .int .i64 d]) := hide (by rw [hW]; exact Blk.new _ _)
  have K0 : Hid (Blk W w.heap.size [.string nm, .int .i64 h, .int .i64 c, .int .i64 d, .int .i64 dh, .int .i64 dc, .int .i64 dd]) := hide (by rw [hW]; exact (unhide K1).alloc _)
  have B0 : Hid (Below w.heap.size w W) := hide (by rw [hW]; exact (unhide B1).alloc (unhide B1).size _)
  have HW := hide hW
  clear hW B1 K1
  go_upto_region 2 with fail
  rw [← unhide HW]
  clear HW
  obtain ⟨ι, fW, _, hb, hall⟩ := belClass W
  have HB := hide hb
  have HA := hide hall
  have c00 : ∀ x, (fW x).cell? ⟨w.heap.size, 0, none⟩ = some (.string nm) := fun x => ((unhide K0).below (hb x)).c 0 (by simp)
  have c01 : ∀ x, (fW x).cell? ⟨w.heap.size, 1, none⟩ = some (.int .i64 h) := fun x => ((unhide K0).below (hb x)).c 1 (by simp)
  have c02 : ∀ x, (fW x).cell? ⟨w.heap.size, 2, none⟩ = some (.int .i64 c) := fun x => ((unhide K0).below (hb x)).c 2 (by simp)
  have c03 : ∀ x, (fW x).cell? ⟨w.heap.size, 3, none⟩ = some (.int .i64 d) := fun x => ((unhide K0).below (hb x)).c 3 (by simp)
  have c04 : ∀ x, (fW x).cell? ⟨w.heap.size, 4, none⟩ = some (.int .i64 dh) := fun x => ((unhide K0).below (hb x)).c 4 (by simp)
  have c05 : ∀ x, (fW x).cell? ⟨w.heap.size, 5, none⟩ = some (.int .i64 dc) := fun x => ((unhide K0).below (hb x)).c 5 (by simp)
  have c06 : ∀ x, (fW x).cell? ⟨w.heap.size, 6, none⟩ = some (.int .i64 dd) := fun x => ((unhide K0).below (hb x)).c 6 (by simp)
  have c10 : ∀ x, (fW x).cell? ⟨w1.heap.size, 0, none⟩ = some (.int .i64 h) := fun x => ((unhide R3).below (hb x)).c 0 (by simp)
  have c11 : ∀ x, (fW x).cell? ⟨w1.heap.size, 1, none⟩ = some (.int .i64 c) := fun x => ((unhide R3).below (hb x)).c 1 (by simp)
  have c12 : ∀ x, (fW x).cell? ⟨w1.heap.size, 2, none⟩ = some (.int .i64 d) := fun x => ((unhide R3).below (hb x)).c 2 (by simp)
  have E3 : ∀ V, (Op.equalIn 10000 142 (.agg #[.int .i64 h, .int .i64 c, .int .i64 d]) (.agg #[.int .i64 0, .int .i64 0, .int .i64 0])).run Tryz.prog V = .ok false V := fun V => by rw [run_eq3, eq3_no q3]
  have CA : Hid (∀ x, Calls Tryz.prog 101 #[.slice (some ⟨w1.heap.size, 0, none⟩) 3 3, .int .i64 0, .int .i64 100000] (fW x) fun e w' => e = .returned (.bool true) ∧ Below (fW x).heap.size (fW x) w') := hide (fun x => by have := allW3 w1.heap.size 3 h c d 0 100000 (fW x) ((unhide R3).below (hb x)); rw [in3_all, q2] at this; exact this)
  clear hb hall
  obtain ⟨x0, h0⟩ := (unhide HA) W (Below.refl _ _)
  rw [h0]
  clear h0
  go_wp2_with (first | (go_at_call 109; refine (belS (unhide CN _)).mono ?_; rintro e _ ⟨rfl, y, rfl⟩) | (go_at_call 101; refine (belQ (unhide HB) (unhide HA) (unhide CA _)).mono ?_; rintro e _ ⟨rfl, y, rfl⟩) | (go_at_call 74; refine (belQ (unhide HB) (unhide HA) (implClockOk_is _ _ _ _ q4)).mono ?_; rintro e _ ⟨rfl, y, rfl⟩))
  go_ret
  exact ⟨rfl, (unhide B0).trans ((unhide HB _).mono (unhide B0).size)⟩
theorem implTaskOk_is {b : Bool} (nm : ByteArray) (h c d dh dc dd : Int) (w : World) (hs : nm.size ≤ 9223372036854775807) (hc : tsB ⟨nm, h, c, d, dh, dc, dd⟩ = b) :
    Calls Tryz.prog 106 #[.agg #[.string nm, .int .i64 h, .int .i64 c, .int .i64 d, .int .i64 dh, .int .i64 dc, .int .i64 dd]] w fun e w' => e = .returned (.bool b) ∧ Below w.heap.size w w' := by
  subst hc
  rw [tsB_in3]
  rcases four (nameB nm) (in3 h c d 100000) (decide (0 < h + c + d)) (ckB dh dc dd) with ⟨q1, hv⟩ | ⟨q1, q2, hv⟩ | ⟨q1, q2, q3, hv⟩ | ⟨q1, q2, q3, q4, hv⟩ | ⟨q1, q2, q3, q4, hv⟩
  all_goals rw [show (nameB (⟨nm, h, c, d, dh, dc, dd⟩ : Ts).nm && in3 (⟨nm, h, c, d, dh, dc, dd⟩ : Ts).h (⟨nm, h, c, d, dh, dc, dd⟩ : Ts).c (⟨nm, h, c, d, dh, dc, dd⟩ : Ts).d 100000 && decide (0 < (⟨nm, h, c, d, dh, dc, dd⟩ : Ts).h + (⟨nm, h, c, d, dh, dc, dd⟩ : Ts).c + (⟨nm, h, c, d, dh, dc, dd⟩ : Ts).d) && ckB (⟨nm, h, c, d, dh, dc, dd⟩ : Ts).dh (⟨nm, h, c, d, dh, dc, dd⟩ : Ts).dc (⟨nm, h, c, d, dh, dc, dd⟩ : Ts).dd) = _ from hv]
  · exact taskOk_1 nm h c d dh dc dd w hs q1
  · exact taskOk_2 nm h c d dh dc dd w hs q1 q2
  · obtain ⟨rfl, rfl, rfl⟩ := zero3 q2 q3
    exact taskOk_3 nm dh dc dd w hs q1 q2
  · exact taskOk_4 nm h c d dh dc dd w hs q1 q2 (some3 q3) q4
  · exact taskOk_5 nm h c d dh dc dd w hs q1 q2 (some3 q3) q4

end Go.Proofs.YticdccdkjepifaaGreat

namespace Go.Proofs.YticdccdkjepifaaGreat
open Go.RowKit
attribute [local go_sem high] run_ix0 run_ix1 run_ix2

set_option maxRecDepth 20000 in
set_option maxHeartbeats 1000000 in
theorem isBeyond_is {b : Bool} (ah ac ad bh bc bd : Int) (w : World) (hc : bhB ah ac ad bh bc bd = b) :
    Calls Tryz.prog 107 #[.agg #[.int .i64 ah, .int .i64 ac, .int .i64 ad], .agg #[.int .i64 bh, .int .i64 bc, .int .i64 bd]] w fun e w' => e = .returned (.bool !b) ∧ Below w.heap.size w w' := by
  subst hc
  rcases three (decide (ah ≤ bh)) (decide (ac ≤ bc)) (decide (ad ≤ bd)) with ⟨q1, hv⟩ | ⟨q1, q2, hv⟩ | ⟨q1, q2, q3, hv⟩ | ⟨q1, q2, q3, hv⟩
  all_goals
    have HE := hide (show bhB ah ac ad bh bc bd = _ from hv)
    rw [unhide HE]
    clear hv
    simp only [decide_eq_true_eq, decide_eq_false_iff_not, Int.not_le] at q1
    try simp only [decide_eq_true_eq, decide_eq_false_iff_not, Int.not_le] at q2
    try simp only [decide_eq_true_eq, decide_eq_false_iff_not, Int.not_le] at q3
    go_enter Tryz.func107, Tryz.ntmps107
    go_wp2_with fail
    go_ret
    exact ⟨ret_bool (by first | rfl | (simp <;> omega)), (by repeat (first | exact Below.refl _ _ | refine Below.alloc ?_ (by simp; try omega) _ | refine taDr ?_ _))⟩
set_option maxRecDepth 20000 in
set_option maxHeartbeats 1000000 in
theorem passedBy_any (nm : ByteArray) (h c d dh dc dd nh nc nd : Int) (w : World) (e1 : 0 ≤ dh ∧ dh ≤ 1000000) (e2 : 0 ≤ dc ∧ dc ≤ 1000000) (e3 : 0 ≤ dd ∧ dd ≤ 1000000) (e4 : 0 ≤ nh ∧ nh ≤ 1000000) (e5 : 0 ≤ nc ∧ nc ≤ 1000000) (e6 : 0 ≤ nd ∧ nd ≤ 1000000) :
    Calls Tryz.prog 132 #[.agg #[.string nm, .int .i64 h, .int .i64 c, .int .i64 d, .int .i64 dh, .int .i64 dc, .int .i64 dd], .agg #[.int .i64 nh, .int .i64 nc, .int .i64 nd]] w fun e w' => e = .returned (.agg #[.int .i64 (nh - dh), .int .i64 (nc - dc), .int .i64 (nd - dd)]) ∧ Below w.heap.size w w' := by
  go_enter Tryz.func132, Tryz.ntmps132
  go_wp2_with fail
  refine bodyPost_ret (v := .agg #[.int .i64 (nh - dh), .int .i64 (nc - dc), .int .i64 (nd - dd)]) (by simp [results, Tryz.results132, go_sem]) rfl ⟨rfl, ?_⟩
  repeat (first | exact bel2 _ _ | exact bel3 _ _ _ | refine Below.setCell ?_ (by simp; try omega) _)
set_option maxRecDepth 20000 in
set_option maxHeartbeats 1000000 in
theorem clockOf_any (a b c : Int) (w : World) :
    Calls Tryz.prog 134 #[.agg #[.int .i64 a, .int .i64 b, .int .i64 c]] w fun e w' => e = .returned (.agg #[.int .i64 a, .int .i64 b, .int .i64 c]) ∧ Below w.heap.size w w' := by
  go_enter Tryz.func134, Tryz.ntmps134
  go_wp2_with fail
  refine bodyPost_ret (v := .agg #[.int .i64 a, .int .i64 b, .int .i64 c]) (by simp [results, Tryz.results134, go_sem]) rfl ⟨rfl, ?_⟩
  repeat (first | exact bel2 _ _ | exact bel3 _ _ _ | refine Below.setCell ?_ (by simp; try omega) _)
theorem lfI_max {b p : Int} (hp : 0 ≤ p) : max (b - p) 0 = if b = 0 then 0 else max 0 (b - p) := by split <;> omega
set_option maxRecDepth 20000 in
set_option maxHeartbeats 4000000 in
theorem leftOf_any (b0 b1 b2 p0 p1 p2 : Int) (w : World) (h0 : 0 ≤ b0 ∧ b0 ≤ 100000) (h1 : 0 ≤ b1 ∧ b1 ≤ 100000) (h2 : 0 ≤ b2 ∧ b2 ≤ 100000) (g0 : 0 ≤ p0 ∧ p0 ≤ 1000000) (g1 : 0 ≤ p1 ∧ p1 ≤ 1000000) (g2 : 0 ≤ p2 ∧ p2 ≤ 1000000) :
    Calls Tryz.prog 135 #[.agg #[.int .i64 b0, .int .i64 b1, .int .i64 b2], .agg #[.int .i64 p0, .int .i64 p1, .int .i64 p2]] w fun e w' => e = .returned (.agg #[.int .i64 (lfI b0 p0), .int .i64 (lfI b1 p1), .int .i64 (lfI b2 p2)]) ∧ Below w.heap.size w w' := by
  have HX : Hid (lfI b0 p0 = max (b0 - p0) 0 ∧ lfI b1 p1 = max (b1 - p1) 0 ∧ lfI b2 p2 = max (b2 - p2) 0) := hide ⟨(lfI_max g0.1).symm, (lfI_max g1.1).symm, (lfI_max g2.1).symm⟩
  rw [(unhide HX).1, (unhide HX).2.1, (unhide HX).2.2]
  clear HX
  rcases Int.lt_or_le (b0 - p0) 0 with u0 | u0
  all_goals rcases Int.lt_or_le (b1 - p1) 0 with u1 | u1
  all_goals rcases Int.lt_or_le (b2 - p2) 0 with u2 | u2
  all_goals
    first | rw [show max (b0 - p0) 0 = 0 by omega] | rw [show max (b0 - p0) 0 = b0 - p0 by omega]
    first | rw [show max (b1 - p1) 0 = 0 by omega] | rw [show max (b1 - p1) 0 = b1 - p1 by omega]
    first | rw [show max (b2 - p2) 0 = 0 by omega] | rw [show max (b2 - p2) 0 = b2 - p2 by omega]
    go_enter Tryz.func135, Tryz.ntmps135
    go_wp2_with fail
    refine wp_loop_rounds 4 ?_
    rw [rounds_succ]
    go_wp2_with fail
    all_goals (first | (exfalso; omega) | skip)
    rw [rounds_succ]
    go_wp2_with fail
    all_goals (first | (exfalso; omega) | skip)
    rw [rounds_succ]
    go_wp2_with fail
    all_goals (first | (exfalso; omega) | skip)
    rw [rounds_succ]
    go_wp2_with fail
    refine bodyPost_ret (by simp [results, Tryz.results135, go_sem]) rfl ⟨rfl, ?_⟩
    repeat (first | exact Below.refl _ _ | refine Below.setCell ?_ (by simp; try omega) _ | refine Below.alloc ?_ (by simp; try omega) _)

end Go.Proofs.YticdccdkjepifaaGreat
