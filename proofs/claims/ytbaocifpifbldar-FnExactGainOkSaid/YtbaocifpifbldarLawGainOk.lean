/-
  The law FnExactGainOk returns true at every argument and writes nothing that was there: the walk. No condition.
-/
import Derived.Test.YtbaocifpifbldarGaTo
import Derived.Test.YtbaocifpifbldarGaOk
import Derived.Deep.RegionHeld3
namespace Go.Proofs.Ytbaocifpifbldar
open Go.RowKit
set_option maxRecDepth 20000 in
set_option maxHeartbeats 8000000 in
theorem lawGainOk (ga1 ga2 : Option Addr) (gl1 gc1 gl2 gc2 : Nat) (xs : List Int) (ys : List Int) (w : World) (hrg : GaIn w ga1 ga2 gl1 gl2 xs ys)  :
    Calls Try.prog 4 #[.agg #[.slice ga1 gl1 gc1, .slice ga2 gl2 gc2]] w fun x w' => x = .returned (.bool true) ∧ Below w.heap.size w w' := by
  have Rg := hide hrg
  have smg1 := hrg.r1.small
  have Eg1 := hide hrg.r1.len_eq
  have smg2 := hrg.r2.small
  have Eg2 := hide hrg.r2.len_eq
  clear hrg
  have hq : (gaB xs ys != gaB xs ys) = false := by simp
  go_enter Try.func4, Try.ntmps4
  go_wp2_with fail
  obtain ⟨w1, hw1⟩ : ∃ W, W = (w.alloc (Obj.cells #[.slice ga1 gl1 gc1, .slice ga2 gl2 gc2] 29)) := ⟨_, rfl⟩
  rw [← hw1]
  have K : Hid (Below w.heap.size w w1 ∧ Blk w1 w.heap.size [.slice ga1 gl1 gc1, .slice ga2 gl2 gc2]) := hide ⟨(by rw [hw1]; exact bel1 _), (by rw [hw1]; exact Blk.new _ _)⟩
  have S0 : Hid (w.heap.size + 1 ≤ w1.heap.size) := hide (by rw [hw1]; simp; try omega)
  clear hw1
  have KEPT : Hid (∀ W u3, (Below w.heap.size w W ∧ Blk W w.heap.size [.slice ga1 gl1 gc1, .slice ga2 gl2 gc2]) → Below W.heap.size W u3 → (Below w.heap.size w u3 ∧ Blk u3 w.heap.size [.slice ga1 gl1 gc1, .slice ga2 gl2 gc2])) := hide (fun W u3 h b => ⟨h.1.trans (b.mono h.1.size), h.2.below b⟩)
  refine (szGain_any _ _ _ _ _ _ 1048576 _ smg1 smg2 (by omega) (by omega)).mono ?_
  rintro x w2 ⟨⟨r1, rfl, hl⟩, b⟩
  have S1 : Hid (w1.heap.size ≤ w2.heap.size) := hide b.size
  have K : Hid (Below w.heap.size w w2 ∧ Blk w2 w.heap.size [.slice ga1 gl1 gc1, .slice ga2 gl2 gc2]) := hide ((unhide KEPT) _ _ (unhide K) b)
  clear b
  rcases hl with hl | ⟨hl, hle, hg1, hg2⟩
  · go_wp2_with fail
    go_ret
    exact ⟨rfl, (unhide K).1⟩
  have nr1 : ¬ r1 < 0 := by omega
  have mPg0 : w2.cell? ⟨w.heap.size, 0, none⟩ = some (.slice ga1 gl1 gc1) := (unhide K).2.c 0 (by simp)
  have mPg1 : w2.cell? ⟨w.heap.size, 1, none⟩ = some (.slice ga2 gl2 gc2) := (unhide K).2.c 1 (by simp)
  go_wp2_with fail
  clear mPg0 mPg1
  refine (toGain_own _ _ _ _ _ _ _ _ _ ((unhide Rg).below (unhide K).1) hg1 hg2).mono ?_
  rintro x w3 ⟨⟨g2, g3, rfl, oc⟩, b⟩
  have LT3 : Hid (GaLies w2.heap.size w3.heap.size (some ⟨g2, 0, none⟩) (some ⟨g3, 0, none⟩) gl1 gl1 gl2 gl2) := hide oc.lies
  have S2 : Hid (w2.heap.size ≤ w3.heap.size) := hide b.size
  have K : Hid (Below w.heap.size w w3 ∧ Blk w3 w.heap.size [.slice ga1 gl1 gc1, .slice ga2 gl2 gc2]) := hide ((unhide KEPT) _ _ (unhide K) b)
  have K : Hid (Below w.heap.size w w3 ∧ Blk w3 w.heap.size [.slice ga1 gl1 gc1, .slice ga2 gl2 gc2] ∧ GaOwn w3 w2.heap.size (some ⟨g2, 0, none⟩) (some ⟨g3, 0, none⟩) gl1 gl1 gl2 gl2 xs ys) := hide ⟨(unhide K).1, (unhide K).2, oc⟩
  clear KEPT oc b
  have KEPT : Hid (∀ W u3, (Below w.heap.size w W ∧ Blk W w.heap.size [.slice ga1 gl1 gc1, .slice ga2 gl2 gc2] ∧ GaOwn W w2.heap.size (some ⟨g2, 0, none⟩) (some ⟨g3, 0, none⟩) gl1 gl1 gl2 gl2 xs ys) → Below W.heap.size W u3 → (Below w.heap.size w u3 ∧ Blk u3 w.heap.size [.slice ga1 gl1 gc1, .slice ga2 gl2 gc2] ∧ GaOwn u3 w2.heap.size (some ⟨g2, 0, none⟩) (some ⟨g3, 0, none⟩) gl1 gl1 gl2 gl2 xs ys)) := hide (fun W u3 h b => ⟨h.1.trans (b.mono h.1.size), h.2.1.below b, h.2.2.below b⟩)
  have mPg0 : w3.cell? ⟨w.heap.size, 0, none⟩ = some (.slice ga1 gl1 gc1) := (unhide K).2.1.c 0 (by simp)
  have mPg1 : w3.cell? ⟨w.heap.size, 1, none⟩ = some (.slice ga2 gl2 gc2) := (unhide K).2.1.c 1 (by simp)
  go_wp2_with fail
  clear mPg0 mPg1
  refine (specGainOk_any _ _ _ _ _ _ _ _ _ (unhide K).2.2.read ).mono ?_
  rintro x w4 ⟨rfl, b⟩
  have S3 : Hid (w3.heap.size ≤ w4.heap.size) := hide b.size
  have K : Hid (Below w.heap.size w w4 ∧ Blk w4 w.heap.size [.slice ga1 gl1 gc1, .slice ga2 gl2 gc2] ∧ GaOwn w4 w2.heap.size (some ⟨g2, 0, none⟩) (some ⟨g3, 0, none⟩) gl1 gl1 gl2 gl2 xs ys) := hide ((unhide KEPT) _ _ (unhide K) b)
  clear b
  have K : Hid (Below w.heap.size w w4 ∧ Blk w4 w.heap.size [.slice ga1 gl1 gc1, .slice ga2 gl2 gc2]) := hide ⟨(unhide K).1, (unhide K).2.1⟩
  clear KEPT
  have KEPT : Hid (∀ W u3, (Below w.heap.size w W ∧ Blk W w.heap.size [.slice ga1 gl1 gc1, .slice ga2 gl2 gc2]) → Below W.heap.size W u3 → (Below w.heap.size w u3 ∧ Blk u3 w.heap.size [.slice ga1 gl1 gc1, .slice ga2 gl2 gc2])) := hide (fun W u3 h b => ⟨h.1.trans (b.mono h.1.size), h.2.below b⟩)
  have mPg0 : w4.cell? ⟨w.heap.size, 0, none⟩ = some (.slice ga1 gl1 gc1) := (unhide K).2.c 0 (by simp)
  have mPg1 : w4.cell? ⟨w.heap.size, 1, none⟩ = some (.slice ga2 gl2 gc2) := (unhide K).2.c 1 (by simp)
  go_wp2_with fail
  clear mPg0 mPg1
  refine (toGain_own _ _ _ _ _ _ _ _ _ ((unhide Rg).below (unhide K).1) hg1 hg2).mono ?_
  rintro x w5 ⟨⟨g4, g5, rfl, oc⟩, b⟩
  have LXx0 : Hid (GaLies w4.heap.size w5.heap.size (some ⟨g4, 0, none⟩) (some ⟨g5, 0, none⟩) gl1 gl1 gl2 gl2) := hide oc.lies
  have S4 : Hid (w4.heap.size ≤ w5.heap.size) := hide b.size
  have K : Hid (Below w.heap.size w w5 ∧ Blk w5 w.heap.size [.slice ga1 gl1 gc1, .slice ga2 gl2 gc2]) := hide ((unhide KEPT) _ _ (unhide K) b)
  have K : Hid (Below w.heap.size w w5 ∧ Blk w5 w.heap.size [.slice ga1 gl1 gc1, .slice ga2 gl2 gc2] ∧ GaOwn w5 w4.heap.size (some ⟨g4, 0, none⟩) (some ⟨g5, 0, none⟩) gl1 gl1 gl2 gl2 xs ys) := hide ⟨(unhide K).1, (unhide K).2, oc⟩
  clear KEPT oc b
  have KEPT : Hid (∀ W u3, (Below w.heap.size w W ∧ Blk W w.heap.size [.slice ga1 gl1 gc1, .slice ga2 gl2 gc2] ∧ GaOwn W w4.heap.size (some ⟨g4, 0, none⟩) (some ⟨g5, 0, none⟩) gl1 gl1 gl2 gl2 xs ys) → Below W.heap.size W u3 → (Below w.heap.size w u3 ∧ Blk u3 w.heap.size [.slice ga1 gl1 gc1, .slice ga2 gl2 gc2] ∧ GaOwn u3 w4.heap.size (some ⟨g4, 0, none⟩) (some ⟨g5, 0, none⟩) gl1 gl1 gl2 gl2 xs ys)) := hide (fun W u3 h b => ⟨h.1.trans (b.mono h.1.size), h.2.1.below b, h.2.2.below b⟩)
  obtain ⟨w6, hw6⟩ : ∃ V, V = w5.alloc (Obj.cells #[.slice (some ⟨g4, 0, none⟩) gl1 gl1, .slice (some ⟨g5, 0, none⟩) gl2 gl2] 32) := ⟨_, rfl⟩
  have b : Below w5.heap.size w5 w6 := by rw [hw6]; exact bel1 _
  have kx : Blk w6 w5.heap.size [.slice (some ⟨g4, 0, none⟩) gl1 gl1, .slice (some ⟨g5, 0, none⟩) gl2 gl2] := by rw [hw6]; exact Blk.new _ _
  have S5 : Hid (w5.heap.size + 1 ≤ w6.heap.size) := hide (by rw [hw6]; simp)
  have S6 : Hid (w5.heap.size ≤ w6.heap.size) := hide b.size
  have K : Hid (Below w.heap.size w w6 ∧ Blk w6 w.heap.size [.slice ga1 gl1 gc1, .slice ga2 gl2 gc2] ∧ GaOwn w6 w4.heap.size (some ⟨g4, 0, none⟩) (some ⟨g5, 0, none⟩) gl1 gl1 gl2 gl2 xs ys) := hide ((unhide KEPT) _ _ (unhide K) b)
  have mPg0 : w6.cell? ⟨w.heap.size, 0, none⟩ = some (.slice ga1 gl1 gc1) := (unhide K).2.1.c 0 (by simp)
  have mPg1 : w6.cell? ⟨w.heap.size, 1, none⟩ = some (.slice ga2 gl2 gc2) := (unhide K).2.1.c 1 (by simp)
  rw [hw6] at mPg0 mPg1
  obtain ⟨X6, hX6⟩ : ∃ X, w5.heap.size = X := ⟨_, rfl⟩
  rw [hX6] at kx
  have S7 : Hid (w5.heap.size = X6) := hide hX6
  have K : Hid (Below w.heap.size w w6 ∧ Blk w6 w.heap.size [.slice ga1 gl1 gc1, .slice ga2 gl2 gc2] ∧ GaOwn w6 w4.heap.size (some ⟨g4, 0, none⟩) (some ⟨g5, 0, none⟩) gl1 gl1 gl2 gl2 xs ys ∧ Blk w6 X6 [.slice (some ⟨g4, 0, none⟩) gl1 gl1, .slice (some ⟨g5, 0, none⟩) gl2 gl2]) := hide ⟨(unhide K).1, (unhide K).2.1, (unhide K).2.2, kx⟩
  clear KEPT b kx
  have KEPT : Hid (∀ W u3, (Below w.heap.size w W ∧ Blk W w.heap.size [.slice ga1 gl1 gc1, .slice ga2 gl2 gc2] ∧ GaOwn W w4.heap.size (some ⟨g4, 0, none⟩) (some ⟨g5, 0, none⟩) gl1 gl1 gl2 gl2 xs ys ∧ Blk W X6 [.slice (some ⟨g4, 0, none⟩) gl1 gl1, .slice (some ⟨g5, 0, none⟩) gl2 gl2]) → Below W.heap.size W u3 → (Below w.heap.size w u3 ∧ Blk u3 w.heap.size [.slice ga1 gl1 gc1, .slice ga2 gl2 gc2] ∧ GaOwn u3 w4.heap.size (some ⟨g4, 0, none⟩) (some ⟨g5, 0, none⟩) gl1 gl1 gl2 gl2 xs ys ∧ Blk u3 X6 [.slice (some ⟨g4, 0, none⟩) gl1 gl1, .slice (some ⟨g5, 0, none⟩) gl2 gl2])) := hide (fun W u3 h b => ⟨h.1.trans (b.mono h.1.size), h.2.1.below b, h.2.2.1.below b, h.2.2.2.below b⟩)
  have Hw6 := hide hw6
  have HX6 := hide hX6
  clear hw6 hX6
  go_wp2_with fail
  try rw [← unhide Hw6]
  try rw [unhide HX6]
  clear Hw6 HX6 mPg0 mPg1
  refine (implGainOk_any _ _ _ _ _ _ _ _ _ (unhide K).2.2.1.read ).mono ?_
  rintro x w7 ⟨rfl, b⟩
  have S8 : Hid (w6.heap.size ≤ w7.heap.size) := hide b.size
  have K : Hid (Below w.heap.size w w7 ∧ Blk w7 w.heap.size [.slice ga1 gl1 gc1, .slice ga2 gl2 gc2] ∧ GaOwn w7 w4.heap.size (some ⟨g4, 0, none⟩) (some ⟨g5, 0, none⟩) gl1 gl1 gl2 gl2 xs ys ∧ Blk w7 X6 [.slice (some ⟨g4, 0, none⟩) gl1 gl1, .slice (some ⟨g5, 0, none⟩) gl2 gl2]) := hide ((unhide KEPT) _ _ (unhide K) b)
  clear b
  have mPg0 : w7.cell? ⟨w.heap.size, 0, none⟩ = some (.slice ga1 gl1 gc1) := (unhide K).2.1.c 0 (by simp)
  have mPg1 : w7.cell? ⟨w.heap.size, 1, none⟩ = some (.slice ga2 gl2 gc2) := (unhide K).2.1.c 1 (by simp)
  have mQXx00 : w7.cell? ⟨X6, 0, none⟩ = some (.slice (some ⟨g4, 0, none⟩) gl1 gl1) := (unhide K).2.2.2.c 0 (by simp)
  have mQXx01 : w7.cell? ⟨X6, 1, none⟩ = some (.slice (some ⟨g5, 0, none⟩) gl2 gl2) := (unhide K).2.2.2.c 1 (by simp)
  go_wp2_with fail
  clear mPg0 mPg1 mQXx00 mQXx01
  have mQXx00 : w7.cell? ⟨X6, 0, none⟩ = some (.slice (some ⟨g4, 0, none⟩) gl1 gl1) := (unhide K).2.2.2.c 0 (by simp)
  have mQXx01 : w7.cell? ⟨X6, 1, none⟩ = some (.slice (some ⟨g5, 0, none⟩) gl2 gl2) := (unhide K).2.2.2.c 1 (by simp)
  have mPg0 : w7.cell? ⟨w.heap.size, 0, none⟩ = some (.slice ga1 gl1 gc1) := (unhide K).2.1.c 0 (by simp)
  have mPg1 : w7.cell? ⟨w.heap.size, 1, none⟩ = some (.slice ga2 gl2 gc2) := (unhide K).2.1.c 1 (by simp)
  go_region_held3 (fun w' => w'.cell? ⟨X6, 0, none⟩ = some (.slice (some ⟨g4, 0, none⟩) gl1 gl1) ∧ w'.cell? ⟨X6, 1, none⟩ = some (.slice (some ⟨g5, 0, none⟩) gl2 gl2) ∧ w'.cell? ⟨w.heap.size, 0, none⟩ = some (.slice ga1 gl1 gc1) ∧ w'.cell? ⟨w.heap.size, 1, none⟩ = some (.slice ga2 gl2 gc2)) (go_keep)
    ((first
      | (go_at_call 15; refine (toGain_own _ _ _ _ _ _ _ _ _ (by first | exact (unhide Rg).below (unhide K).1 | exact ((unhide Rg).below (unhide K).1).below (bel0d 1)) hg1 hg2).mono ?_; rintro x w8 ⟨⟨e7, e8, rfl, oc⟩, b⟩; have IC := hide oc.read; clear oc; have K := hide (show Below w.heap.size w w8 ∧ Blk w8 w.heap.size [.slice ga1 gl1 gc1, .slice ga2 gl2 gc2] ∧ GaOwn w8 w4.heap.size (some ⟨g4, 0, none⟩) (some ⟨g5, 0, none⟩) gl1 gl1 gl2 gl2 xs ys ∧ Blk w8 X6 [.slice (some ⟨g4, 0, none⟩) gl1 gl1, .slice (some ⟨g5, 0, none⟩) gl2 gl2] from by first | exact (unhide KEPT) _ _ (unhide K) b | exact (unhide KEPT) _ _ ((unhide KEPT) _ _ (unhide K) (bel0d 1)) b); clear mQXx00 mQXx01 mPg0 mPg1; have mQXx00 : w8.cell? ⟨X6, 0, none⟩ = some (.slice (some ⟨g4, 0, none⟩) gl1 gl1) := (unhide K).2.2.2.c 0 (by simp); have mQXx01 : w8.cell? ⟨X6, 1, none⟩ = some (.slice (some ⟨g5, 0, none⟩) gl2 gl2) := (unhide K).2.2.2.c 1 (by simp); have mPg0 : w8.cell? ⟨w.heap.size, 0, none⟩ = some (.slice ga1 gl1 gc1) := (unhide K).2.1.c 0 (by simp); have mPg1 : w8.cell? ⟨w.heap.size, 1, none⟩ = some (.slice ga2 gl2 gc2) := (unhide K).2.1.c 1 (by simp); clear b)
      | (go_at_call 17; refine (eqGain_same _ _ _ _ _ _ _ _ _ _ _ _ _ (by first | exact (unhide K).2.2.1.read | exact (unhide K).2.2.1.read.below (bel0d 1)) (by first | exact unhide IC | exact (unhide IC).below (bel0d 1))).mono ?_; rintro x w9 ⟨rfl, b⟩; clear IC; have K := hide (show Below w.heap.size w w9 ∧ Blk w9 w.heap.size [.slice ga1 gl1 gc1, .slice ga2 gl2 gc2] ∧ GaOwn w9 w4.heap.size (some ⟨g4, 0, none⟩) (some ⟨g5, 0, none⟩) gl1 gl1 gl2 gl2 xs ys ∧ Blk w9 X6 [.slice (some ⟨g4, 0, none⟩) gl1 gl1, .slice (some ⟨g5, 0, none⟩) gl2 gl2] from by first | exact (unhide KEPT) _ _ (unhide K) b | exact (unhide KEPT) _ _ ((unhide KEPT) _ _ (unhide K) (bel0d 1)) b); clear mQXx00 mQXx01 mPg0 mPg1; have mQXx00 : w9.cell? ⟨X6, 0, none⟩ = some (.slice (some ⟨g4, 0, none⟩) gl1 gl1) := (unhide K).2.2.2.c 0 (by simp); have mQXx01 : w9.cell? ⟨X6, 1, none⟩ = some (.slice (some ⟨g5, 0, none⟩) gl2 gl2) := (unhide K).2.2.2.c 1 (by simp); have mPg0 : w9.cell? ⟨w.heap.size, 0, none⟩ = some (.slice ga1 gl1 gc1) := (unhide K).2.1.c 0 (by simp); have mPg1 : w9.cell? ⟨w.heap.size, 1, none⟩ = some (.slice ga2 gl2 gc2) := (unhide K).2.1.c 1 (by simp); clear b)))
  clear mQXx00 mQXx01 mPg0 mPg1
  have mPg0 : w9.cell? ⟨w.heap.size, 0, none⟩ = some (.slice ga1 gl1 gc1) := (unhide K).2.1.c 0 (by simp)
  have mPg1 : w9.cell? ⟨w.heap.size, 1, none⟩ = some (.slice ga2 gl2 gc2) := (unhide K).2.1.c 1 (by simp)
  have mQXx00 : w9.cell? ⟨X6, 0, none⟩ = some (.slice (some ⟨g4, 0, none⟩) gl1 gl1) := (unhide K).2.2.2.c 0 (by simp)
  have mQXx01 : w9.cell? ⟨X6, 1, none⟩ = some (.slice (some ⟨g5, 0, none⟩) gl2 gl2) := (unhide K).2.2.2.c 1 (by simp)
  go_wp2_with fail
  clear mPg0 mPg1 mQXx00 mQXx01
  go_ret
  exact ⟨rfl, (unhide K).1⟩
end Go.Proofs.Ytbaocifpifbldar
