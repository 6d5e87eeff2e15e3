/-
  The law FnExactSeal returns true at every argument and writes nothing that was there: the walk. No condition.
-/
import Derived.Test.YtlpomplldgmkmbaLdTo
import Derived.Test.YtlpomplldgmkmbaSeAny
import Derived.Test.YtlpomplldgmkmbaOnly
import Derived.Deep.RegionHeld3
namespace Go.Proofs.Ytlpomplldgmkmba
open Go.RowKit
set_option maxRecDepth 20000 in
set_option maxHeartbeats 8000000 in
theorem lawSeal (p : ByteArray) (nb : Int) (le : Int) (mo : Int) (ne : Int) (va1 : Option Addr) (vl1 vc1 : Nat) (ys : List Int) (w : World) (hrv : LdIn w va1 vl1 ys) (txv0 : p.size ≤ 9223372036854775807) (byv : ∀ i, i < vl1 → 0 ≤ elAt ys i ∧ elAt ys i ≤ 255) :
    Calls Try.prog 5 #[.agg #[.string p, .int .i64 nb, .int .i64 le, .int .i64 mo, .int .i64 ne, .slice va1 vl1 vc1]] w fun x w' => x = .returned (.bool true) ∧ Below w.heap.size w w' := by
  have Rv := hide hrv
  have smv1 := hrv.r1.small
  have Ev1 := hide hrv.r1.len_eq
  clear hrv
  have hq0 : (ldB ⟨p, nb, le, mo, ne, ys⟩ != ldB ⟨p, nb, le, mo, ne, ys⟩) = false := by simp
  have hq1 : (seR ⟨p, nb, le, mo, ne, ys⟩ != seR ⟨p, nb, le, mo, ne, ys⟩) = false := by simp
  have BYV := hide byv
  go_enter Try.func5, Try.ntmps5
  go_wp2_with fail
  obtain ⟨w1, hw1⟩ : ∃ W, W = (w.alloc (Obj.cells #[.string p, .int .i64 nb, .int .i64 le, .int .i64 mo, .int .i64 ne, .slice va1 vl1 vc1] 39)) := ⟨_, rfl⟩
  rw [← hw1]
  have K : Hid (Below w.heap.size w w1 ∧ Blk w1 w.heap.size [.string p, .int .i64 nb, .int .i64 le, .int .i64 mo, .int .i64 ne, .slice va1 vl1 vc1]) := hide ⟨(by rw [hw1]; exact bel1 _), (by rw [hw1]; exact Blk.new _ _)⟩
  have S0 : Hid (w.heap.size + 1 ≤ w1.heap.size) := hide (by rw [hw1]; simp; try omega)
  clear hw1
  have KEPT : Hid (∀ W u3, (Below w.heap.size w W ∧ Blk W w.heap.size [.string p, .int .i64 nb, .int .i64 le, .int .i64 mo, .int .i64 ne, .slice va1 vl1 vc1]) → Below W.heap.size W u3 → (Below w.heap.size w u3 ∧ Blk u3 w.heap.size [.string p, .int .i64 nb, .int .i64 le, .int .i64 mo, .int .i64 ne, .slice va1 vl1 vc1])) := hide (fun W u3 h b => ⟨h.1.trans (b.mono h.1.size), h.2.below b⟩)
  refine (szLoad18_any _ _ _ _ _ _ _ _ 1048576 _ txv0 smv1 (by omega) (by omega)).mono ?_
  rintro x w2 ⟨⟨r1, rfl, hl⟩, b⟩
  have S1 : Hid (w1.heap.size ≤ w2.heap.size) := hide b.size
  have K : Hid (Below w.heap.size w w2 ∧ Blk w2 w.heap.size [.string p, .int .i64 nb, .int .i64 le, .int .i64 mo, .int .i64 ne, .slice va1 vl1 vc1]) := hide ((unhide KEPT) _ _ (unhide K) b)
  clear b
  rcases hl with hl | ⟨hl, hle, hxv0, hv1⟩
  · go_wp2_with fail
    go_ret
    exact ⟨rfl, (unhide K).1⟩
  have nr1 : ¬ r1 < 0 := by omega
  have mPv0 : w2.cell? ⟨w.heap.size, 0, none⟩ = some (.string p) := (unhide K).2.c 0 (by simp)
  have mPv1 : w2.cell? ⟨w.heap.size, 1, none⟩ = some (.int .i64 nb) := (unhide K).2.c 1 (by simp)
  have mPv2 : w2.cell? ⟨w.heap.size, 2, none⟩ = some (.int .i64 le) := (unhide K).2.c 2 (by simp)
  have mPv3 : w2.cell? ⟨w.heap.size, 3, none⟩ = some (.int .i64 mo) := (unhide K).2.c 3 (by simp)
  have mPv4 : w2.cell? ⟨w.heap.size, 4, none⟩ = some (.int .i64 ne) := (unhide K).2.c 4 (by simp)
  have mPv5 : w2.cell? ⟨w.heap.size, 5, none⟩ = some (.slice va1 vl1 vc1) := (unhide K).2.c 5 (by simp)
  go_wp2_with fail
  clear mPv0 mPv1 mPv2 mPv3 mPv4 mPv5
  refine (toLoad18_own _ _ _ _ _ _ _ _ _ _ ((unhide Rv).below (unhide K).1) hv1).mono ?_
  rintro x w3 ⟨⟨g2, rfl, oc⟩, b⟩
  have LT3 : Hid (LdLies w2.heap.size w3.heap.size (some ⟨g2, 0, none⟩) vl1 vl1) := hide oc.lies
  have S2 : Hid (w2.heap.size ≤ w3.heap.size) := hide b.size
  have K : Hid (Below w.heap.size w w3 ∧ Blk w3 w.heap.size [.string p, .int .i64 nb, .int .i64 le, .int .i64 mo, .int .i64 ne, .slice va1 vl1 vc1]) := hide ((unhide KEPT) _ _ (unhide K) b)
  have K : Hid (Below w.heap.size w w3 ∧ Blk w3 w.heap.size [.string p, .int .i64 nb, .int .i64 le, .int .i64 mo, .int .i64 ne, .slice va1 vl1 vc1] ∧ LdOwn w3 w2.heap.size (some ⟨g2, 0, none⟩) vl1 vl1 ys) := hide ⟨(unhide K).1, (unhide K).2, oc⟩
  clear KEPT oc b
  have KEPT : Hid (∀ W u3, (Below w.heap.size w W ∧ Blk W w.heap.size [.string p, .int .i64 nb, .int .i64 le, .int .i64 mo, .int .i64 ne, .slice va1 vl1 vc1] ∧ LdOwn W w2.heap.size (some ⟨g2, 0, none⟩) vl1 vl1 ys) → Below W.heap.size W u3 → (Below w.heap.size w u3 ∧ Blk u3 w.heap.size [.string p, .int .i64 nb, .int .i64 le, .int .i64 mo, .int .i64 ne, .slice va1 vl1 vc1] ∧ LdOwn u3 w2.heap.size (some ⟨g2, 0, none⟩) vl1 vl1 ys)) := hide (fun W u3 h b => ⟨h.1.trans (b.mono h.1.size), h.2.1.below b, h.2.2.below b⟩)
  have mPv0 : w3.cell? ⟨w.heap.size, 0, none⟩ = some (.string p) := (unhide K).2.1.c 0 (by simp)
  have mPv1 : w3.cell? ⟨w.heap.size, 1, none⟩ = some (.int .i64 nb) := (unhide K).2.1.c 1 (by simp)
  have mPv2 : w3.cell? ⟨w.heap.size, 2, none⟩ = some (.int .i64 le) := (unhide K).2.1.c 2 (by simp)
  have mPv3 : w3.cell? ⟨w.heap.size, 3, none⟩ = some (.int .i64 mo) := (unhide K).2.1.c 3 (by simp)
  have mPv4 : w3.cell? ⟨w.heap.size, 4, none⟩ = some (.int .i64 ne) := (unhide K).2.1.c 4 (by simp)
  have mPv5 : w3.cell? ⟨w.heap.size, 5, none⟩ = some (.slice va1 vl1 vc1) := (unhide K).2.1.c 5 (by simp)
  go_wp2_with fail
  clear mPv0 mPv1 mPv2 mPv3 mPv4 mPv5
  refine (specSeal_any _ _ _ _ _ _ _ _ _ _ (unhide K).2.2.read (unhide BYV) txv0).mono ?_
  rintro x w4 ⟨rfl, b⟩
  have S3 : Hid (w3.heap.size ≤ w4.heap.size) := hide b.size
  have K : Hid (Below w.heap.size w w4 ∧ Blk w4 w.heap.size [.string p, .int .i64 nb, .int .i64 le, .int .i64 mo, .int .i64 ne, .slice va1 vl1 vc1] ∧ LdOwn w4 w2.heap.size (some ⟨g2, 0, none⟩) vl1 vl1 ys) := hide ((unhide KEPT) _ _ (unhide K) b)
  clear b
  have K : Hid (Below w.heap.size w w4 ∧ Blk w4 w.heap.size [.string p, .int .i64 nb, .int .i64 le, .int .i64 mo, .int .i64 ne, .slice va1 vl1 vc1]) := hide ⟨(unhide K).1, (unhide K).2.1⟩
  clear KEPT
  have KEPT : Hid (∀ W u3, (Below w.heap.size w W ∧ Blk W w.heap.size [.string p, .int .i64 nb, .int .i64 le, .int .i64 mo, .int .i64 ne, .slice va1 vl1 vc1]) → Below W.heap.size W u3 → (Below w.heap.size w u3 ∧ Blk u3 w.heap.size [.string p, .int .i64 nb, .int .i64 le, .int .i64 mo, .int .i64 ne, .slice va1 vl1 vc1])) := hide (fun W u3 h b => ⟨h.1.trans (b.mono h.1.size), h.2.below b⟩)
  have mPv0 : w4.cell? ⟨w.heap.size, 0, none⟩ = some (.string p) := (unhide K).2.c 0 (by simp)
  have mPv1 : w4.cell? ⟨w.heap.size, 1, none⟩ = some (.int .i64 nb) := (unhide K).2.c 1 (by simp)
  have mPv2 : w4.cell? ⟨w.heap.size, 2, none⟩ = some (.int .i64 le) := (unhide K).2.c 2 (by simp)
  have mPv3 : w4.cell? ⟨w.heap.size, 3, none⟩ = some (.int .i64 mo) := (unhide K).2.c 3 (by simp)
  have mPv4 : w4.cell? ⟨w.heap.size, 4, none⟩ = some (.int .i64 ne) := (unhide K).2.c 4 (by simp)
  have mPv5 : w4.cell? ⟨w.heap.size, 5, none⟩ = some (.slice va1 vl1 vc1) := (unhide K).2.c 5 (by simp)
  go_wp2_with fail
  clear mPv0 mPv1 mPv2 mPv3 mPv4 mPv5
  refine (toLoad18_own _ _ _ _ _ _ _ _ _ _ ((unhide Rv).below (unhide K).1) hv1).mono ?_
  rintro x w5 ⟨⟨g3, rfl, oc⟩, b⟩
  have LXx0 : Hid (LdLies w4.heap.size w5.heap.size (some ⟨g3, 0, none⟩) vl1 vl1) := hide oc.lies
  have S4 : Hid (w4.heap.size ≤ w5.heap.size) := hide b.size
  have K : Hid (Below w.heap.size w w5 ∧ Blk w5 w.heap.size [.string p, .int .i64 nb, .int .i64 le, .int .i64 mo, .int .i64 ne, .slice va1 vl1 vc1]) := hide ((unhide KEPT) _ _ (unhide K) b)
  have K : Hid (Below w.heap.size w w5 ∧ Blk w5 w.heap.size [.string p, .int .i64 nb, .int .i64 le, .int .i64 mo, .int .i64 ne, .slice va1 vl1 vc1] ∧ LdOwn w5 w4.heap.size (some ⟨g3, 0, none⟩) vl1 vl1 ys) := hide ⟨(unhide K).1, (unhide K).2, oc⟩
  clear KEPT oc b
  have KEPT : Hid (∀ W u3, (Below w.heap.size w W ∧ Blk W w.heap.size [.string p, .int .i64 nb, .int .i64 le, .int .i64 mo, .int .i64 ne, .slice va1 vl1 vc1] ∧ LdOwn W w4.heap.size (some ⟨g3, 0, none⟩) vl1 vl1 ys) → Below W.heap.size W u3 → (Below w.heap.size w u3 ∧ Blk u3 w.heap.size [.string p, .int .i64 nb, .int .i64 le, .int .i64 mo, .int .i64 ne, .slice va1 vl1 vc1] ∧ LdOwn u3 w4.heap.size (some ⟨g3, 0, none⟩) vl1 vl1 ys)) := hide (fun W u3 h b => ⟨h.1.trans (b.mono h.1.size), h.2.1.below b, h.2.2.below b⟩)
  obtain ⟨w6, hw6⟩ : ∃ V, V = w5.alloc (Obj.cells #[.string p, .int .i64 nb, .int .i64 le, .int .i64 mo, .int .i64 ne, .slice (some ⟨g3, 0, none⟩) vl1 vl1] 44) := ⟨_, rfl⟩
  have b : Below w5.heap.size w5 w6 := by rw [hw6]; exact bel1 _
  have kx : Blk w6 w5.heap.size [.string p, .int .i64 nb, .int .i64 le, .int .i64 mo, .int .i64 ne, .slice (some ⟨g3, 0, none⟩) vl1 vl1] := by rw [hw6]; exact Blk.new _ _
  have S5 : Hid (w5.heap.size + 1 ≤ w6.heap.size) := hide (by rw [hw6]; simp)
  have S6 : Hid (w5.heap.size ≤ w6.heap.size) := hide b.size
  have K : Hid (Below w.heap.size w w6 ∧ Blk w6 w.heap.size [.string p, .int .i64 nb, .int .i64 le, .int .i64 mo, .int .i64 ne, .slice va1 vl1 vc1] ∧ LdOwn w6 w4.heap.size (some ⟨g3, 0, none⟩) vl1 vl1 ys) := hide ((unhide KEPT) _ _ (unhide K) b)
  have mPv0 : w6.cell? ⟨w.heap.size, 0, none⟩ = some (.string p) := (unhide K).2.1.c 0 (by simp)
  have mPv1 : w6.cell? ⟨w.heap.size, 1, none⟩ = some (.int .i64 nb) := (unhide K).2.1.c 1 (by simp)
  have mPv2 : w6.cell? ⟨w.heap.size, 2, none⟩ = some (.int .i64 le) := (unhide K).2.1.c 2 (by simp)
  have mPv3 : w6.cell? ⟨w.heap.size, 3, none⟩ = some (.int .i64 mo) := (unhide K).2.1.c 3 (by simp)
  have mPv4 : w6.cell? ⟨w.heap.size, 4, none⟩ = some (.int .i64 ne) := (unhide K).2.1.c 4 (by simp)
  have mPv5 : w6.cell? ⟨w.heap.size, 5, none⟩ = some (.slice va1 vl1 vc1) := (unhide K).2.1.c 5 (by simp)
  rw [hw6] at mPv0 mPv1 mPv2 mPv3 mPv4 mPv5
  obtain ⟨X4, hX4⟩ : ∃ X, w5.heap.size = X := ⟨_, rfl⟩
  rw [hX4] at kx
  have S7 : Hid (w5.heap.size = X4) := hide hX4
  have K : Hid (Below w.heap.size w w6 ∧ Blk w6 w.heap.size [.string p, .int .i64 nb, .int .i64 le, .int .i64 mo, .int .i64 ne, .slice va1 vl1 vc1] ∧ LdOwn w6 w4.heap.size (some ⟨g3, 0, none⟩) vl1 vl1 ys ∧ Blk w6 X4 [.string p, .int .i64 nb, .int .i64 le, .int .i64 mo, .int .i64 ne, .slice (some ⟨g3, 0, none⟩) vl1 vl1]) := hide ⟨(unhide K).1, (unhide K).2.1, (unhide K).2.2, kx⟩
  clear KEPT b kx
  have KEPT : Hid (∀ W u3, (Below w.heap.size w W ∧ Blk W w.heap.size [.string p, .int .i64 nb, .int .i64 le, .int .i64 mo, .int .i64 ne, .slice va1 vl1 vc1] ∧ LdOwn W w4.heap.size (some ⟨g3, 0, none⟩) vl1 vl1 ys ∧ Blk W X4 [.string p, .int .i64 nb, .int .i64 le, .int .i64 mo, .int .i64 ne, .slice (some ⟨g3, 0, none⟩) vl1 vl1]) → Below W.heap.size W u3 → (Below w.heap.size w u3 ∧ Blk u3 w.heap.size [.string p, .int .i64 nb, .int .i64 le, .int .i64 mo, .int .i64 ne, .slice va1 vl1 vc1] ∧ LdOwn u3 w4.heap.size (some ⟨g3, 0, none⟩) vl1 vl1 ys ∧ Blk u3 X4 [.string p, .int .i64 nb, .int .i64 le, .int .i64 mo, .int .i64 ne, .slice (some ⟨g3, 0, none⟩) vl1 vl1])) := hide (fun W u3 h b => ⟨h.1.trans (b.mono h.1.size), h.2.1.below b, h.2.2.1.below b, h.2.2.2.below b⟩)
  have Hw6 := hide hw6
  have HX4 := hide hX4
  clear hw6 hX4
  go_wp2_with fail
  try rw [← unhide Hw6]
  try rw [unhide HX4]
  clear Hw6 HX4 mPv0 mPv1 mPv2 mPv3 mPv4 mPv5
  refine (implSeal_any _ _ _ _ _ _ _ _ _ _ (unhide K).2.2.1.read (unhide BYV) txv0).mono ?_
  rintro x w7 ⟨rfl, b⟩
  have S8 : Hid (w6.heap.size ≤ w7.heap.size) := hide b.size
  have K : Hid (Below w.heap.size w w7 ∧ Blk w7 w.heap.size [.string p, .int .i64 nb, .int .i64 le, .int .i64 mo, .int .i64 ne, .slice va1 vl1 vc1] ∧ LdOwn w7 w4.heap.size (some ⟨g3, 0, none⟩) vl1 vl1 ys ∧ Blk w7 X4 [.string p, .int .i64 nb, .int .i64 le, .int .i64 mo, .int .i64 ne, .slice (some ⟨g3, 0, none⟩) vl1 vl1]) := hide ((unhide KEPT) _ _ (unhide K) b)
  clear b
  have mPv0 : w7.cell? ⟨w.heap.size, 0, none⟩ = some (.string p) := (unhide K).2.1.c 0 (by simp)
  have mPv1 : w7.cell? ⟨w.heap.size, 1, none⟩ = some (.int .i64 nb) := (unhide K).2.1.c 1 (by simp)
  have mPv2 : w7.cell? ⟨w.heap.size, 2, none⟩ = some (.int .i64 le) := (unhide K).2.1.c 2 (by simp)
  have mPv3 : w7.cell? ⟨w.heap.size, 3, none⟩ = some (.int .i64 mo) := (unhide K).2.1.c 3 (by simp)
  have mPv4 : w7.cell? ⟨w.heap.size, 4, none⟩ = some (.int .i64 ne) := (unhide K).2.1.c 4 (by simp)
  have mPv5 : w7.cell? ⟨w.heap.size, 5, none⟩ = some (.slice va1 vl1 vc1) := (unhide K).2.1.c 5 (by simp)
  have mQXx00 : w7.cell? ⟨X4, 0, none⟩ = some (.string p) := (unhide K).2.2.2.c 0 (by simp)
  have mQXx01 : w7.cell? ⟨X4, 1, none⟩ = some (.int .i64 nb) := (unhide K).2.2.2.c 1 (by simp)
  have mQXx02 : w7.cell? ⟨X4, 2, none⟩ = some (.int .i64 le) := (unhide K).2.2.2.c 2 (by simp)
  have mQXx03 : w7.cell? ⟨X4, 3, none⟩ = some (.int .i64 mo) := (unhide K).2.2.2.c 3 (by simp)
  have mQXx04 : w7.cell? ⟨X4, 4, none⟩ = some (.int .i64 ne) := (unhide K).2.2.2.c 4 (by simp)
  have mQXx05 : w7.cell? ⟨X4, 5, none⟩ = some (.slice (some ⟨g3, 0, none⟩) vl1 vl1) := (unhide K).2.2.2.c 5 (by simp)
  go_wp2_with fail
  clear mPv0 mPv1 mPv2 mPv3 mPv4 mPv5 mQXx00 mQXx01 mQXx02 mQXx03 mQXx04 mQXx05
  have mQXx00 : w7.cell? ⟨X4, 0, none⟩ = some (.string p) := (unhide K).2.2.2.c 0 (by simp)
  have mQXx01 : w7.cell? ⟨X4, 1, none⟩ = some (.int .i64 nb) := (unhide K).2.2.2.c 1 (by simp)
  have mQXx02 : w7.cell? ⟨X4, 2, none⟩ = some (.int .i64 le) := (unhide K).2.2.2.c 2 (by simp)
  have mQXx03 : w7.cell? ⟨X4, 3, none⟩ = some (.int .i64 mo) := (unhide K).2.2.2.c 3 (by simp)
  have mQXx04 : w7.cell? ⟨X4, 4, none⟩ = some (.int .i64 ne) := (unhide K).2.2.2.c 4 (by simp)
  have mQXx05 : w7.cell? ⟨X4, 5, none⟩ = some (.slice (some ⟨g3, 0, none⟩) vl1 vl1) := (unhide K).2.2.2.c 5 (by simp)
  have mPv0 : w7.cell? ⟨w.heap.size, 0, none⟩ = some (.string p) := (unhide K).2.1.c 0 (by simp)
  have mPv1 : w7.cell? ⟨w.heap.size, 1, none⟩ = some (.int .i64 nb) := (unhide K).2.1.c 1 (by simp)
  have mPv2 : w7.cell? ⟨w.heap.size, 2, none⟩ = some (.int .i64 le) := (unhide K).2.1.c 2 (by simp)
  have mPv3 : w7.cell? ⟨w.heap.size, 3, none⟩ = some (.int .i64 mo) := (unhide K).2.1.c 3 (by simp)
  have mPv4 : w7.cell? ⟨w.heap.size, 4, none⟩ = some (.int .i64 ne) := (unhide K).2.1.c 4 (by simp)
  have mPv5 : w7.cell? ⟨w.heap.size, 5, none⟩ = some (.slice va1 vl1 vc1) := (unhide K).2.1.c 5 (by simp)
  go_region_held3 (fun w' => w'.cell? ⟨X4, 0, none⟩ = some (.string p) ∧ w'.cell? ⟨X4, 1, none⟩ = some (.int .i64 nb) ∧ w'.cell? ⟨X4, 2, none⟩ = some (.int .i64 le) ∧ w'.cell? ⟨X4, 3, none⟩ = some (.int .i64 mo) ∧ w'.cell? ⟨X4, 4, none⟩ = some (.int .i64 ne) ∧ w'.cell? ⟨X4, 5, none⟩ = some (.slice (some ⟨g3, 0, none⟩) vl1 vl1) ∧ w'.cell? ⟨w.heap.size, 0, none⟩ = some (.string p) ∧ w'.cell? ⟨w.heap.size, 1, none⟩ = some (.int .i64 nb) ∧ w'.cell? ⟨w.heap.size, 2, none⟩ = some (.int .i64 le) ∧ w'.cell? ⟨w.heap.size, 3, none⟩ = some (.int .i64 mo) ∧ w'.cell? ⟨w.heap.size, 4, none⟩ = some (.int .i64 ne) ∧ w'.cell? ⟨w.heap.size, 5, none⟩ = some (.slice va1 vl1 vc1)) (go_keep)
    ((first
      | (go_at_call 17; refine (toLoad18_own _ _ _ _ _ _ _ _ _ _ (by first | exact (unhide Rv).below (unhide K).1 | exact ((unhide Rv).below (unhide K).1).below (bel0d 1)) hv1).mono ?_; rintro x w8 ⟨⟨e5, rfl, oc⟩, b⟩; have IC := hide oc.read; clear oc; have S9 : Hid (w7.heap.size ≤ w8.heap.size) := hide b.size; have K := hide (show Below w.heap.size w w8 ∧ Blk w8 w.heap.size [.string p, .int .i64 nb, .int .i64 le, .int .i64 mo, .int .i64 ne, .slice va1 vl1 vc1] ∧ LdOwn w8 w4.heap.size (some ⟨g3, 0, none⟩) vl1 vl1 ys ∧ Blk w8 X4 [.string p, .int .i64 nb, .int .i64 le, .int .i64 mo, .int .i64 ne, .slice (some ⟨g3, 0, none⟩) vl1 vl1] from by first | exact (unhide KEPT) _ _ (unhide K) b | exact (unhide KEPT) _ _ ((unhide KEPT) _ _ (unhide K) (bel0d 1)) b); clear mQXx00 mQXx01 mQXx02 mQXx03 mQXx04 mQXx05 mPv0 mPv1 mPv2 mPv3 mPv4 mPv5; have mQXx00 : w8.cell? ⟨X4, 0, none⟩ = some (.string p) := (unhide K).2.2.2.c 0 (by simp); have mQXx01 : w8.cell? ⟨X4, 1, none⟩ = some (.int .i64 nb) := (unhide K).2.2.2.c 1 (by simp); have mQXx02 : w8.cell? ⟨X4, 2, none⟩ = some (.int .i64 le) := (unhide K).2.2.2.c 2 (by simp); have mQXx03 : w8.cell? ⟨X4, 3, none⟩ = some (.int .i64 mo) := (unhide K).2.2.2.c 3 (by simp); have mQXx04 : w8.cell? ⟨X4, 4, none⟩ = some (.int .i64 ne) := (unhide K).2.2.2.c 4 (by simp); have mQXx05 : w8.cell? ⟨X4, 5, none⟩ = some (.slice (some ⟨g3, 0, none⟩) vl1 vl1) := (unhide K).2.2.2.c 5 (by simp); have mPv0 : w8.cell? ⟨w.heap.size, 0, none⟩ = some (.string p) := (unhide K).2.1.c 0 (by simp); have mPv1 : w8.cell? ⟨w.heap.size, 1, none⟩ = some (.int .i64 nb) := (unhide K).2.1.c 1 (by simp); have mPv2 : w8.cell? ⟨w.heap.size, 2, none⟩ = some (.int .i64 le) := (unhide K).2.1.c 2 (by simp); have mPv3 : w8.cell? ⟨w.heap.size, 3, none⟩ = some (.int .i64 mo) := (unhide K).2.1.c 3 (by simp); have mPv4 : w8.cell? ⟨w.heap.size, 4, none⟩ = some (.int .i64 ne) := (unhide K).2.1.c 4 (by simp); have mPv5 : w8.cell? ⟨w.heap.size, 5, none⟩ = some (.slice va1 vl1 vc1) := (unhide K).2.1.c 5 (by simp); clear b)
      | (go_at_call 19; refine (eqLoad18_same _ _ _ _ _ _ _ _ _ _ _ _ (by first | exact (unhide K).2.2.1.read | exact (unhide K).2.2.1.read.below (bel0d 1)) (by first | exact unhide IC | exact (unhide IC).below (bel0d 1))).mono ?_; rintro x w9 ⟨rfl, b⟩; clear IC; have S10 : Hid (w8.heap.size ≤ w9.heap.size) := hide b.size; have K := hide (show Below w.heap.size w w9 ∧ Blk w9 w.heap.size [.string p, .int .i64 nb, .int .i64 le, .int .i64 mo, .int .i64 ne, .slice va1 vl1 vc1] ∧ LdOwn w9 w4.heap.size (some ⟨g3, 0, none⟩) vl1 vl1 ys ∧ Blk w9 X4 [.string p, .int .i64 nb, .int .i64 le, .int .i64 mo, .int .i64 ne, .slice (some ⟨g3, 0, none⟩) vl1 vl1] from by first | exact (unhide KEPT) _ _ (unhide K) b | exact (unhide KEPT) _ _ ((unhide KEPT) _ _ (unhide K) (bel0d 1)) b); clear mQXx00 mQXx01 mQXx02 mQXx03 mQXx04 mQXx05 mPv0 mPv1 mPv2 mPv3 mPv4 mPv5; have mQXx00 : w9.cell? ⟨X4, 0, none⟩ = some (.string p) := (unhide K).2.2.2.c 0 (by simp); have mQXx01 : w9.cell? ⟨X4, 1, none⟩ = some (.int .i64 nb) := (unhide K).2.2.2.c 1 (by simp); have mQXx02 : w9.cell? ⟨X4, 2, none⟩ = some (.int .i64 le) := (unhide K).2.2.2.c 2 (by simp); have mQXx03 : w9.cell? ⟨X4, 3, none⟩ = some (.int .i64 mo) := (unhide K).2.2.2.c 3 (by simp); have mQXx04 : w9.cell? ⟨X4, 4, none⟩ = some (.int .i64 ne) := (unhide K).2.2.2.c 4 (by simp); have mQXx05 : w9.cell? ⟨X4, 5, none⟩ = some (.slice (some ⟨g3, 0, none⟩) vl1 vl1) := (unhide K).2.2.2.c 5 (by simp); have mPv0 : w9.cell? ⟨w.heap.size, 0, none⟩ = some (.string p) := (unhide K).2.1.c 0 (by simp); have mPv1 : w9.cell? ⟨w.heap.size, 1, none⟩ = some (.int .i64 nb) := (unhide K).2.1.c 1 (by simp); have mPv2 : w9.cell? ⟨w.heap.size, 2, none⟩ = some (.int .i64 le) := (unhide K).2.1.c 2 (by simp); have mPv3 : w9.cell? ⟨w.heap.size, 3, none⟩ = some (.int .i64 mo) := (unhide K).2.1.c 3 (by simp); have mPv4 : w9.cell? ⟨w.heap.size, 4, none⟩ = some (.int .i64 ne) := (unhide K).2.1.c 4 (by simp); have mPv5 : w9.cell? ⟨w.heap.size, 5, none⟩ = some (.slice va1 vl1 vc1) := (unhide K).2.1.c 5 (by simp); clear b)))
  clear mQXx00 mQXx01 mQXx02 mQXx03 mQXx04 mQXx05 mPv0 mPv1 mPv2 mPv3 mPv4 mPv5
  have mPv0 : w9.cell? ⟨w.heap.size, 0, none⟩ = some (.string p) := (unhide K).2.1.c 0 (by simp)
  have mPv1 : w9.cell? ⟨w.heap.size, 1, none⟩ = some (.int .i64 nb) := (unhide K).2.1.c 1 (by simp)
  have mPv2 : w9.cell? ⟨w.heap.size, 2, none⟩ = some (.int .i64 le) := (unhide K).2.1.c 2 (by simp)
  have mPv3 : w9.cell? ⟨w.heap.size, 3, none⟩ = some (.int .i64 mo) := (unhide K).2.1.c 3 (by simp)
  have mPv4 : w9.cell? ⟨w.heap.size, 4, none⟩ = some (.int .i64 ne) := (unhide K).2.1.c 4 (by simp)
  have mPv5 : w9.cell? ⟨w.heap.size, 5, none⟩ = some (.slice va1 vl1 vc1) := (unhide K).2.1.c 5 (by simp)
  have mQXx00 : w9.cell? ⟨X4, 0, none⟩ = some (.string p) := (unhide K).2.2.2.c 0 (by simp)
  have mQXx01 : w9.cell? ⟨X4, 1, none⟩ = some (.int .i64 nb) := (unhide K).2.2.2.c 1 (by simp)
  have mQXx02 : w9.cell? ⟨X4, 2, none⟩ = some (.int .i64 le) := (unhide K).2.2.2.c 2 (by simp)
  have mQXx03 : w9.cell? ⟨X4, 3, none⟩ = some (.int .i64 mo) := (unhide K).2.2.2.c 3 (by simp)
  have mQXx04 : w9.cell? ⟨X4, 4, none⟩ = some (.int .i64 ne) := (unhide K).2.2.2.c 4 (by simp)
  have mQXx05 : w9.cell? ⟨X4, 5, none⟩ = some (.slice (some ⟨g3, 0, none⟩) vl1 vl1) := (unhide K).2.2.2.c 5 (by simp)
  go_wp2_with fail
  clear mPv0 mPv1 mPv2 mPv3 mPv4 mPv5 mQXx00 mQXx01 mQXx02 mQXx03 mQXx04 mQXx05
  go_ret
  exact ⟨rfl, (unhide K).1⟩
end Go.Proofs.Ytlpomplldgmkmba
