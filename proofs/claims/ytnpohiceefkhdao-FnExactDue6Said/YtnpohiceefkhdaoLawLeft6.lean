/-
  The law FnExactLeft6 returns true at every life and stay and writes nothing that was there: the walk. No condition.
-/
import Derived.Test.YtnpohiceefkhdaoLeftSpec
import Derived.Test.YtnpohiceefkhdaoLeftIm2
import Derived.Test.YtnpohiceefkhdaoBel
namespace Go.Proofs.Ytnpohiceefkhdao
open Go.RowKit

set_option maxHeartbeats 1000000 in
theorem toLife_any (n : ByteArray) (a b c : Int) (w : World) :
    Calls Try.prog 20 #[.agg #[.string n, .int .i64 a, .int .i64 b, .int .i64 c]] w fun x w' => x = .returned (.agg #[.string n, .int .i64 a, .int .i64 b, .int .i64 c]) ∧ Below w.heap.size w w' := by
  go_enter Try.func20, Try.ntmps20
  go_wp2
  refine bodyPost_ret (v := .agg #[.string n, .int .i64 a, .int .i64 b, .int .i64 c]) (by simp [results, Try.results20, go_sem]) rfl ⟨rfl, ?_⟩
  repeat (first | exact Below.refl _ _ | refine Below.setCell ?_ (by simp; try omega) _ | refine Below.alloc ?_ (by simp; try omega) _)
set_option maxHeartbeats 1000000 in
theorem toStay_any (n : ByteArray) (a b c : Int) (w : World) :
    Calls Try.prog 21 #[.agg #[.string n, .int .i64 a, .int .i64 b, .int .i64 c]] w fun x w' => x = .returned (.agg #[.string n, .int .i64 a, .int .i64 b, .int .i64 c]) ∧ Below w.heap.size w w' := by
  go_enter Try.func21, Try.ntmps21
  go_wp2
  refine bodyPost_ret (v := .agg #[.string n, .int .i64 a, .int .i64 b, .int .i64 c]) (by simp [results, Try.results21, go_sem]) rfl ⟨rfl, ?_⟩
  repeat (first | exact Below.refl _ _ | refine Below.setCell ?_ (by simp; try omega) _ | refine Below.alloc ?_ (by simp; try omega) _)

set_option maxHeartbeats 1000000 in
theorem szLife_any (n : ByteArray) (a b c left : Int) (w : World) (h0 : 0 ≤ left) (h1 : left ≤ 1048576) (hn : n.size ≤ 9223372036854775807) :
    Calls Try.prog 17 #[.agg #[.string n, .int .i64 a, .int .i64 b, .int .i64 c], .int .i64 left] w fun x w' => (∃ r : Int, x = .returned (.int .i64 r) ∧ (r < 0 ∨ (0 ≤ r ∧ r ≤ left))) ∧ Below w.heap.size w w' := by
  by_cases h : left < n.size
  · go_enter Try.func17, Try.ntmps17
    go_wp2
    go_ret
    exact ⟨⟨-1, rfl, by omega⟩, bel1 _⟩
  · go_enter Try.func17, Try.ntmps17
    go_wp2
    go_ret
    exact ⟨⟨left - n.size, rfl, by omega⟩, bel1 _⟩
set_option maxHeartbeats 1000000 in
theorem szStay_any (n : ByteArray) (a b c left : Int) (w : World) (h0 : 0 ≤ left) (h1 : left ≤ 1048576) (hn : n.size ≤ 9223372036854775807) :
    Calls Try.prog 18 #[.agg #[.string n, .int .i64 a, .int .i64 b, .int .i64 c], .int .i64 left] w fun x w' => (∃ r : Int, x = .returned (.int .i64 r) ∧ (r < 0 ∨ (0 ≤ r ∧ r ≤ left))) ∧ Below w.heap.size w w' := by
  by_cases h : left < n.size
  · go_enter Try.func18, Try.ntmps18
    go_wp2
    go_ret
    exact ⟨⟨-1, rfl, by omega⟩, bel1 _⟩
  · go_enter Try.func18, Try.ntmps18
    go_wp2
    go_ret
    exact ⟨⟨left - n.size, rfl, by omega⟩, bel1 _⟩

set_option maxRecDepth 20000 in
set_option maxHeartbeats 4000000 in
theorem lawLeft6 (n : ByteArray) (b0 b1 b2 : Int) (m : ByteArray) (s0 s1 s2 : Int) (w : World) (hn' : n.size ≤ maxLen) (f0 : -9223372036854775808 ≤ b0 ∧ b0 ≤ 9223372036854775807) (f1 : -9223372036854775808 ≤ b1 ∧ b1 ≤ 9223372036854775807) (f2 : -9223372036854775808 ≤ b2 ∧ b2 ≤ 9223372036854775807) (hm' : m.size ≤ maxLen) (t0 : -9223372036854775808 ≤ s0 ∧ s0 ≤ 9223372036854775807) (t1 : -9223372036854775808 ≤ s1 ∧ s1 ≤ 9223372036854775807) (t2 : -9223372036854775808 ≤ s2 ∧ s2 ≤ 9223372036854775807) :
    Calls Try.prog 6 #[.agg #[.string n, .int .i64 b0, .int .i64 b1, .int .i64 b2], .agg #[.string m, .int .i64 s0, .int .i64 s1, .int .i64 s2]] w fun x w' => x = .returned (.bool true) ∧ Below w.heap.size w w' := by
  have hn : n.size ≤ 9223372036854775807 := by unfold maxLen at hn'; omega
  have hm : m.size ≤ 9223372036854775807 := by unfold maxLen at hm'; omega
  have HFB : Hid (fit3 b0 b1 b2) := hide ⟨f0, f1, f2⟩
  have HFS : Hid (fit3 s0 s1 s2) := hide ⟨t0, t1, t2⟩
  clear hn' hm' f0 f1 f2 t0 t1 t2
  have R0 := hide ((Blk.new (w := w) [.string n, .int .i64 b0, .int .i64 b1, .int .i64 b2] 37).alloc (Obj.cells #[.string m, .int .i64 s0, .int .i64 s1, .int .i64 s2] 38))
  have S0 : Hid (Blk ((w.alloc (Obj.cells #[.string n, .int .i64 b0, .int .i64 b1, .int .i64 b2] 37)).alloc (Obj.cells #[.string m, .int .i64 s0, .int .i64 s1, .int .i64 s2] 38)) (w.heap.size + 1) [.string m, .int .i64 s0, .int .i64 s1, .int .i64 s2]) := hide (by
    have := Blk.new (w := w.alloc (Obj.cells #[.string n, .int .i64 b0, .int .i64 b1, .int .i64 b2] 37)) [.string m, .int .i64 s0, .int .i64 s1, .int .i64 s2] 38
    simpa using this)
  have B0 := hide (bel2 (w := w) (Obj.cells #[.string n, .int .i64 b0, .int .i64 b1, .int .i64 b2] 37) (Obj.cells #[.string m, .int .i64 s0, .int .i64 s1, .int .i64 s2] 38))
  have hq1 : ((leftR n b0 b1 b2 m s0 s1 s2).1 != (leftR n b0 b1 b2 m s0 s1 s2).1) = false := by simp
  have hq2 : ((leftR n b0 b1 b2 m s0 s1 s2).2.1 != (leftR n b0 b1 b2 m s0 s1 s2).2.1) = false := by simp
  have hq3 : ((leftR n b0 b1 b2 m s0 s1 s2).2.2 != (leftR n b0 b1 b2 m s0 s1 s2).2.2) = false := by simp
  go_enter Try.func6, Try.ntmps6
  go_wp2_with fail
  refine (szLife_any n b0 b1 b2 1048576 _ (by omega) (by omega) hn).mono ?_
  rintro x w1 ⟨⟨r, rfl, hr⟩, c1⟩
  have B1 := hide ((unhide B0).trans (c1.mono (unhide B0).size))
  have R1 := hide ((unhide R0).below c1)
  have S1 := (unhide S0).below c1
  have e0 : w1.cell? ⟨w.heap.size + 1, 0, none⟩ = some (.string m) := S1.c 0 (by simp)
  have e1 : w1.cell? ⟨w.heap.size + 1, 1, none⟩ = some (.int .i64 s0) := S1.c 1 (by simp)
  have e2 : w1.cell? ⟨w.heap.size + 1, 2, none⟩ = some (.int .i64 s1) := S1.c 2 (by simp)
  have e3 : w1.cell? ⟨w.heap.size + 1, 3, none⟩ = some (.int .i64 s2) := S1.c 3 (by simp)
  have S1 := hide S1
  clear c1 R0 S0 B0
  rcases hr with hr | hr
  · go_wp2_with fail
    go_ret
    exact ⟨rfl, unhide B1⟩
  go_wp2_with fail
  refine (szStay_any m s0 s1 s2 r _ hr.1 hr.2 hm).mono ?_
  rintro x w2 ⟨⟨r2, rfl, hr2⟩, c2⟩
  have B2 := hide ((unhide B1).trans (c2.mono (unhide B1).size))
  have R2 := (unhide R1).below c2
  have S2 := (unhide S1).below c2
  clear c2 e0 e1 e2 e3 R1 S1 B1
  rcases hr2 with hr2 | hr2
  · go_wp2_with fail
    go_ret
    exact ⟨rfl, unhide B2⟩
  have hr3 : ¬ r2 < 0 := by omega
  obtain ⟨ι, f, _, hbf, hall⟩ := belClass w2
  have a0 : ∀ x, (f x).cell? ⟨w.heap.size, 0, none⟩ = some (.string n) := fun x => (R2.below (hbf x)).c 0 (by simp)
  have a1 : ∀ x, (f x).cell? ⟨w.heap.size, 1, none⟩ = some (.int .i64 b0) := fun x => (R2.below (hbf x)).c 1 (by simp)
  have a2 : ∀ x, (f x).cell? ⟨w.heap.size, 2, none⟩ = some (.int .i64 b1) := fun x => (R2.below (hbf x)).c 2 (by simp)
  have a3 : ∀ x, (f x).cell? ⟨w.heap.size, 3, none⟩ = some (.int .i64 b2) := fun x => (R2.below (hbf x)).c 3 (by simp)
  have e0 : ∀ x, (f x).cell? ⟨w.heap.size + 1, 0, none⟩ = some (.string m) := fun x => (S2.below (hbf x)).c 0 (by simp)
  have e1 : ∀ x, (f x).cell? ⟨w.heap.size + 1, 1, none⟩ = some (.int .i64 s0) := fun x => (S2.below (hbf x)).c 1 (by simp)
  have e2 : ∀ x, (f x).cell? ⟨w.heap.size + 1, 2, none⟩ = some (.int .i64 s1) := fun x => (S2.below (hbf x)).c 2 (by simp)
  have e3 : ∀ x, (f x).cell? ⟨w.heap.size + 1, 3, none⟩ = some (.int .i64 s2) := fun x => (S2.below (hbf x)).c 3 (by simp)
  have HF := hide hbf
  have HA := hide hall
  clear hbf hall R2 S2
  go_wp2_with fail
  refine wp_region_bel (unhide HA) (by kernel_rfl) (by kernel_rfl) ?_
  repeat (go_big_quiet_step (first
      | (go_at_call 20; exact belQ (unhide HF) (unhide HA) (toLife_any n b0 b1 b2 _))
      | (go_at_call 21; exact belQ (unhide HF) (unhide HA) (toStay_any m s0 s1 s2 _))
      | (go_at_call 19; exact belQ (unhide HF) (unhide HA) (specLeft6_any n m b0 b1 b2 s0 s1 s2 _ hn hm))))
  refine wpQuiet_nil ?_
  rintro _ ⟨x3, rfl⟩
  have HA3 : Hid (∀ w', Below (f x3).heap.size (f x3) w' → ∃ x, w' = f x) := hide fun w' hw => unhide HA _ ((unhide HF x3).trans (hw.mono (unhide HF x3).size))
  go_wp2_with fail
  refine wp_region_bel (unhide HA3) (by kernel_rfl) (by kernel_rfl) ?_
  repeat (go_big_quiet_step (first
      | (go_at_call 20; exact belQ (unhide HF) (unhide HA) (toLife_any n b0 b1 b2 _))
      | (go_at_call 21; exact belQ (unhide HF) (unhide HA) (toStay_any m s0 s1 s2 _))
      | (go_at_call 22; exact belQ (unhide HF) (unhide HA) (implLeft6_any n m b0 b1 b2 s0 s1 s2 _ hn (unhide HFB) (unhide HFS)))))
  refine wpQuiet_nil ?_
  rintro _ ⟨x4, rfl⟩
  have HB4 := hide ((unhide B2).trans ((unhide HF x4).mono (unhide B2).size))
  generalize leftR n b0 b1 b2 m s0 s1 s2 = V at *
  go_wp2_with fail
  go_ret
  exact ⟨rfl, unhide HB4⟩

end Go.Proofs.Ytnpohiceefkhdao
